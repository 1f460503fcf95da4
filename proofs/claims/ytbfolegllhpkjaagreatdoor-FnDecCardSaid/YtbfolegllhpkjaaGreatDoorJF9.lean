/-
  Chapter 8 of package impl: DecRat, RatDec, DecDiv, DecAt, DecLow.
  Chapter 8 of package impl: DecAt, DecLow.
  What NatDigits and NatText of package impl return.
  What TextNat of package impl returns.
  Chapter 5, signed numbers and their texts, in both packages.
  Plain facts: a short signed number is read back from its text.
  Texts of decimal numbers: what DecText writes, what TextDec reads, and that each undoes the other.
  Texts of decimal numbers as package impl reads them: cut at the minus and at the point, the noughts ahead trimmed off.
  strings.Cut at a point, strings.TrimLeft of noughts.
-/
import Derived.Deep.RegionLaw
import Derived.Deep.AppendLies
import Derived.Lib.IndexLaws
import Derived.Lib.TrimByte
import Derived.Deep.DeepCutAuto
import Derived.Test.YtbfolegllhpkjaaGreatDoorJF8
namespace Go.Proofs.YtbfolegllhpkjaaGreatDoor
open Go.RowKit

set_option maxHeartbeats 4000000 in
set_option maxRecDepth 100000 in
theorem implDecRat_any (va : Value) (a : DI) (w : World) (hla : a.1.2.length ≤ 1048576) (ha : OwnD va a w) (hsen : Sen w) :
    Calls Tryz.prog 10 #[va] w (NewV (fun u => OwnQ u (ratD a)) w) := by
  have HS := Lib.hid hsen
  clear hsen
  have Ha := Lib.hid ha
  obtain ⟨Aa, ca, rfl⟩ := ownD_form ha
  have ODa := Lib.hid (show ∀ W, Below w.heap.size w W → OwnD (.agg #[.bool a.1.1, .slice Aa a.1.2.length ca, .int .i64 a.2]) a W from fun W hb => OwnD.below Ha.out hb)
  have OIa := Lib.hid (show ∀ W, Below w.heap.size w W → OwnI (.slice Aa a.1.2.length ca) a.1.2 W from fun W hb => ownD_open (ODa.out W hb))
  have OSa := Lib.hid (show ∀ W, Below w.heap.size w W → OwnS (.agg #[.bool a.1.1, .slice Aa a.1.2.length ca]) a.1 W from fun W hb => OwnS.mk (OIa.out W hb))
  clear ha
  have bb0 : Below w.heap.size w ((w.alloc (.cells #[.bool a.1.1, .slice Aa a.1.2.length ca, .int .i64 a.2] 27)).alloc (.cells #[.bool false, .slice none 0 0, .slice none 0 0] 37)) := below_al (below_al (Below.refl _ _) _) _
  have ka := (box_new w #[.bool a.1.1, .slice Aa a.1.2.length ca, .int .i64 a.2] 27).below (below_al (Below.refl _ _) (.cells #[.bool false, .slice none 0 0, .slice none 0 0] 37))
  have ko := (box_new (w.alloc (.cells #[.bool a.1.1, .slice Aa a.1.2.length ca, .int .i64 a.2] 27)) #[.bool false, .slice none 0 0, .slice none 0 0] 37)
  rw [show (w.alloc (.cells #[.bool a.1.1, .slice Aa a.1.2.length ca, .int .i64 a.2] 27)).heap.size = w.heap.size + 1 by simp] at ko
  have HKO := Lib.hid (ko.lt (w.heap.size + 1) (by simp))
  obtain ⟨Q, hQ⟩ : ∃ Q, ratD a = Q := ⟨_, rfl⟩
  have EQ0 := Lib.hid hQ
  rw [hQ]
  clear hQ
  go_enter Tryz.func10, Tryz.ntmps10
  have ka_c0 := ka.here.cell 0 _ rfl
  have ka_c1 := ka.here.cell 1 _ rfl
  have ka_c2 := ka.here.cell 2 _ rfl
  go_wp2_with fail
  clear ka_c0 ka_c1 ka_c2
  refine (implDecOk_any _ a _ hla (ODa.out _ bb0)).mono ?_
  rintro e w1 ⟨rfl, b1⟩
  have bb1 := Below.next bb0 b1
  replace ka := ka.below b1
  replace ko := ko.below b1
  by_cases ok : okD a = true
  · rw [ok]
    have HT := Lib.hid (ten_bd ok)
    have hl6 := (partsD ok).len
    have hzA : szS a.1 ≤ 1048576 := by unfold szS szI; omega
    have hzT := szS_ten a.2
    have EQ := Lib.hid (show makeQ a.1 (tenS a.2) = (Q, true) by rw [← EQ0.out]; exact HT.out.1)
    clear ok hl6
    have ka_c0 := ka.here.cell 0 _ rfl
    have ka_c1 := ka.here.cell 1 _ rfl
    have ka_c2 := ka.here.cell 2 _ rfl
    go_upto_region 3 with fail
    go_cut [3, 4] (fun s1 s2 wx => NewLocV 37 (fun v => OwnQ v Q) w1 s1 wx ∧ s2 = .bool true)
    case first =>
      have HC0 := Lib.hid (show Chg [] w1 w1.drew from (Chg.refl _ _).drew1)
      have HCr := Lib.hid (show Chg [] w1 w1 from Chg.refl _ _)
      have KL := Lib.hid (show ∀ W, Chg [] w1 W → W.cell? ⟨w.heap.size, 0, none⟩ = some (.bool a.1.1) ∧ W.cell? ⟨w.heap.size, 1, none⟩ = some (.slice Aa a.1.2.length ca) ∧ W.cell? ⟨w.heap.size, 2, none⟩ = some (.int .i64 a.2) ∧ Hid (Chg [] w1 W) from fun W hc => ⟨(ka.chg hc (fun i hi hm => by simp at hm)).here.cell 0 _ rfl, (ka.chg hc (fun i hi hm => by simp at hm)).here.cell 1 _ rfl, (ka.chg hc (fun i hi hm => by simp at hm)).here.cell 2 _ rfl, Lib.hid hc⟩)
      have BBF := Lib.hid (show ∀ W, Chg [] w1 W → Below w.heap.size w W from fun W hc => below_chg bb1 hc bb1.size (fun i hi => by simp at hi))
      clear ka_c0 ka_c1 ka_c2
      go_region_held3 (fun W => W.cell? ⟨w.heap.size, 0, none⟩ = some (.bool a.1.1) ∧ W.cell? ⟨w.heap.size, 1, none⟩ = some (.slice Aa a.1.2.length ca) ∧ W.cell? ⟨w.heap.size, 2, none⟩ = some (.int .i64 a.2) ∧ Hid (Chg [] w1 W))
        ((refine KL.out _ ?_; (first | exact HC3.out | exact HC2.out | exact HCr.out | exact HC0.out | exact HC3.out.drew1 | exact HC2.out.drew1 | exact HCr.out.drew1 | exact HC0.out.drew1 | exact HC3.out.trans (Chg.of_below (below_al (Below.refl _ _) _)) | exact HC2.out.trans (Chg.of_below (below_al (Below.refl _ _) _)) | exact HCr.out.trans (Chg.of_below (below_al (Below.refl _ _) _)) | exact HC0.out.trans (Chg.of_below (below_al (Below.refl _ _) _)) | exact (Chg.setNew HC3.out (by first | exact HC3.out.size | exact HC2.out.size | exact HCr.out.size | exact HC0.out.size) _) | exact (Chg.setNew (Chg.setNew HC3.out (by first | exact HC3.out.size | exact HC2.out.size | exact HCr.out.size | exact HC0.out.size) _) (by first | exact HC3.out.size | exact HC2.out.size | exact HCr.out.size | exact HC0.out.size) _) | exact (Chg.setNew (Chg.setNew (Chg.setNew HC3.out (by first | exact HC3.out.size | exact HC2.out.size | exact HCr.out.size | exact HC0.out.size) _) (by first | exact HC3.out.size | exact HC2.out.size | exact HCr.out.size | exact HC0.out.size) _) (by first | exact HC3.out.size | exact HC2.out.size | exact HCr.out.size | exact HC0.out.size) _) | fail)))
        (first
          | (go_at_call 35; (have hBB := (‹_ ∧ _ ∧ _ ∧ Hid (Chg [] w1 _)›).2.2.2); (with_reducible refine (tenTo_any a.2 _).mono ?_); rintro e w2 ⟨ut, St, rfl, ot, lt, b2⟩; have HC2 := Lib.hid (hBB.out.trans (Chg.of_below b2)); obtain ⟨At_, ct, rfl⟩ := ownS_form ot.here; (first | (have early2 : At [w1.heap.size] (BoxAt w1.heap.size #[.bool false, .slice none 0 0, .slice none 0 0] 37) w2 := At.below (box_new w1.drew _ _) b2) | (have early2 := At.below (box_new _ #[.bool false, .slice none 0 0, .slice none 0 0] 37) b2) | (have early2 := At.below early1 b2) | skip); have HBZ2 := Lib.hid hBB.out.size; clear hBB)
          | (go_at_call 34; (have hBB := (‹_ ∧ _ ∧ _ ∧ Hid (Chg [] w1 _)›).2.2.2); (with_reducible refine ((implRatMake_any _ _ a.1 (tenS a.2) _ hzA hzT (OSa.out _ (BBF.out _ hBB.out)) (At.here (by first | exact ot | exact At.below ot (below_al (Below.refl _ _) _) | exact At.below (At.below ot (below_al (Below.refl _ _) _)) (below_al (Below.refl _ _) _) | exact At.move ot (fun _ _ => rfl) (Nat.le_refl _))) (HS.out.below (BBF.out _ hBB.out))).mono fun _ _ h => postQb_isD EQ.out h).mono ?_); rintro e w3 ⟨uf, Sf, rfl, of, lf, b3⟩; have HC3 := Lib.hid (hBB.out.trans (Chg.of_below b3)); (have ot_3 := At.below (by first | exact ot | exact At.below ot (below_al (Below.refl _ _) _) | exact At.below (At.below ot (below_al (Below.refl _ _) _)) (below_al (Below.refl _ _) _) | exact At.move ot (fun _ _ => rfl) (Nat.le_refl _)) b3); obtain ⟨Af, cf, Bf, df, rfl⟩ := ownQ_form of.here; (first | have hbxg := At.below_lt (box_new _ #[.bool false, .slice none 0 0, .slice none 0 0] 37) b3 | have hbxg := At.below_lt early2 b3 | skip); (try (have hbxf := hbxg.1; have HGB := Lib.hid hbxg.2; clear hbxg)); (try (have cz0 := hbxf.here.cell 0 _ rfl; have fz0 := Lib.frozen_of_heap hbxf.here 0; have cz1 := hbxf.here.cell 1 _ rfl; have fz1 := Lib.frozen_of_heap hbxf.here 1; have cz2 := hbxf.here.cell 2 _ rfl; have fz2 := Lib.frozen_of_heap hbxf.here 2)); have HBZ3 := Lib.hid hBB.out.size; clear hBB))
      all_goals (go_wp2_with fail; go_meet; first | exact ⟨newLocV_last of lf HBZ3.out (below_of_chg HC3.out), rfl⟩ | exact ⟨newLocV_early3 hbxf.here of lf (by first | exact HC2.out.size | exact HCr.out.size | exact HC0.out.size) HGB.out (below_of_chg HC3.out), rfl⟩)
    rename World => w2
    clear ka_c0 ka_c1 ka_c2
    obtain ⟨⟨gy, csy, Sy, rfl, ky, oy, ny, ly, b2⟩, rfl⟩ := hcut
    obtain ⟨Ay, cy, By, dy, ey⟩ := ownQ_form oy.here
    injection ey with ey
    subst ey
    have bb2 := Below.next bb1 b2
    replace ka := ka.below b2
    replace ko := ko.below b2
    have HW := Lib.hid (newV_chg (φ := fun v => OwnQ v Q) (T := [w.heap.size + 1]) oy (fun i hi hm => by have := ly i (List.mem_cons_of_mem _ hi); have := HKO.out; have := b1.size; simp at hm; omega) (fun i hi => by simp at hi; omega) (fun i hi => by have := ly i (List.mem_cons_of_mem _ hi); have := HKO.out; have := b1.size; omega) bb2)
    have ky_c0 := ky.here.cell 0 _ rfl
    have ky_c1 := ky.here.cell 1 _ rfl
    have ky_c2 := ky.here.cell 2 _ rfl
    have cz0 := ko.here.cell 0 _ rfl
    have fz0 := Lib.frozen_of_heap ko.here 0
    have cz1 := ko.here.cell 1 _ rfl
    have fz1 := Lib.frozen_of_heap ko.here 1
    have cz2 := ko.here.cell 2 _ rfl
    have fz2 := Lib.frozen_of_heap ko.here 2
    clear oy ky ko ka
    go_wp2
    refine bodyPost_ret (v := .agg #[.bool _, .slice Ay _ cy, .slice By _ dy]) (by simp [results, Tryz.results10, go_sem, cz0, cz1, cz2]; exact ⟨rfl, rfl, rfl⟩) rfl ?_
    refine HW.out _ ?_
    repeat (first | exact Chg.refl _ _ | refine Chg.setCell ?_ (by simp) _)
  · have ok' : okD a = false := by simpa using ok
    have HV := Lib.hid (show Q = zeroQ from EQ0.out.symm.trans (rat_bad ok))
    rw [ok']
    clear ok ok' ka
    have cz0 := ko.here.cell 0 _ rfl
    have fz0 := Lib.frozen_of_heap ko.here 0
    have cz1 := ko.here.cell 1 _ rfl
    have fz1 := Lib.frozen_of_heap ko.here 1
    have cz2 := ko.here.cell 2 _ rfl
    have fz2 := Lib.frozen_of_heap ko.here 2
    go_wp2
    refine bodyPost_ret (v := .agg #[.bool false, .slice none 0 0, .slice none 0 0]) (by simp [results, Tryz.results10, go_sem, cz0, cz1, cz2]) rfl ?_
    rw [HV.out]
    first | exact newQ_zeroD bb1 | exact newQ_zeroD (below_set3 bb1 (by omega))
set_option maxHeartbeats 4000000 in
set_option maxRecDepth 100000 in
theorem implRatDec_any (vr : Value) (r : QI) (k m : Int) (w : World) (hz : szQ r ≤ 1048576) (hr : OwnQ vr r w) (hsen : Sen w) :
    Calls Tryz.prog 31 #[vr, .int .i64 k, .int .i64 m] w (PostDb (ratDecD r k m).1 (ratDecD r k m).2 w) := by
  have HS := Lib.hid hsen
  clear hsen
  have Hr := Lib.hid hr
  obtain ⟨Ar, cr, Br, dr, rfl⟩ := ownQ_form hr
  have OQr := Lib.hid (show ∀ W, Below w.heap.size w W → OwnQ (.agg #[.bool r.1.1, .slice Ar r.1.2.length cr, .slice Br r.2.length dr]) r W from fun W hb => OwnQ.below Hr.out hb)
  have OUr := Lib.hid (show ∀ W, Below w.heap.size w W → OwnI (.slice Ar r.1.2.length cr) r.1.2 W from fun W hb => (ownQ_open (OQr.out W hb)).2.1)
  have ODr := Lib.hid (show ∀ W, Below w.heap.size w W → OwnI (.slice Br r.2.length dr) r.2 W from fun W hb => (ownQ_open (OQr.out W hb)).2.2.1)
  have OSr := Lib.hid (show ∀ W, Below w.heap.size w W → OwnS (.agg #[.bool r.1.1, .slice Ar r.1.2.length cr]) r.1 W from fun W hb => OwnS.mk (OUr.out W hb))
  clear hr
  have bb0 : Below w.heap.size w ((w.alloc (.cells #[.bool r.1.1, .slice Ar r.1.2.length cr, .slice Br r.2.length dr] 37)).alloc (.cells #[.bool false, .slice none 0 0, .int .i64 0] 27)) := below_al (below_al (Below.refl _ _) _) _
  have kr := (box_new w #[.bool r.1.1, .slice Ar r.1.2.length cr, .slice Br r.2.length dr] 37).below (below_al (Below.refl _ _) (.cells #[.bool false, .slice none 0 0, .int .i64 0] 27))
  have ko := (box_new (w.alloc (.cells #[.bool r.1.1, .slice Ar r.1.2.length cr, .slice Br r.2.length dr] 37)) #[.bool false, .slice none 0 0, .int .i64 0] 27)
  rw [show (w.alloc (.cells #[.bool r.1.1, .slice Ar r.1.2.length cr, .slice Br r.2.length dr] 37)).heap.size = w.heap.size + 1 by simp] at ko
  have HKO := Lib.hid (ko.lt (w.heap.size + 1) (by simp))
  by_cases hm : modeB m = true
  · have HM := Lib.hid hm
    have HRO := Lib.hid (roundingOf_mode m hm)
    have HQU := Lib.hid (fun (nm : ByteArray) (vx vd : Value) (x : SI) (D : Nat) (w : World) => quotient_any nm vx vd x D m w hm)
    clear hm
    generalize nameB m = nm at HRO
    generalize fnOf m = fk at HRO HQU
    go_enter Tryz.func31, Tryz.ntmps31
    go_wp2_with fail
    refine (HRO.out _).mono ?_
    rintro e w1 ⟨rfl, b1⟩
    have bb1 := Below.next bb0 b1
    replace kr := kr.below b1
    replace ko := ko.below b1
    have km := box_new (w1) #[.string nm, .func (.func fk) #[] #[]] 106
    have alm := below_al (Below.refl (w1).heap.size (w1)) (.cells #[.string nm, .func (.func fk) #[] #[]] 106)
    have bbm := Below.next bb1 alm
    replace kr := kr.below alm
    replace ko := ko.below alm
    have kr_c0 := kr.here.cell 0 _ rfl
    have kr_c1 := kr.here.cell 1 _ rfl
    have kr_c2 := kr.here.cell 2 _ rfl
    go_wp2_with fail
    clear kr_c0 kr_c1 kr_c2
    refine (implRatOk_any _ r _ hz (OQr.out _ bbm) (HS.out.below bbm)).mono ?_
    rintro e w2 ⟨rfl, b2⟩
    have bb2 := Below.next bbm b2
    replace kr := kr.below b2
    replace ko := ko.below b2
    replace km := km.below b2
    by_cases ok : okQ r = true
    · rw [ok]
      have HO := Lib.hid ok
      have HP := Lib.hid (parts_of ok)
      have e0 := impl_ratDec (k := k) (m := m) ok HM.out
      obtain ⟨Q, hQ⟩ : ∃ Q, ratDecD r k m = Q := ⟨_, rfl⟩
      have HV := Lib.hid hQ
      obtain ⟨X, hX⟩ : ∃ X, mulS r.1 (tenS k) = X := ⟨_, rfl⟩
      have EX := Lib.hid hX
      have hXo : okS X = true := by rw [← hX, mulS_ofZ HP.out.okn]; exact ofZ_ok _
      have hX50 := (natOk_parts (okS_parts hXo).1).2.1
      rw [hX, hQ] at e0
      obtain ⟨Y, hY⟩ : ∃ Y, mkS X.1 (quoL X.1 (nval X.2).toNat (denQ r) m) = Y := ⟨_, rfl⟩
      have EY := Lib.hid hY
      rw [hY] at e0
      have EV := Lib.hid e0
      have hzS : Y.2.length ≤ 1048576 := by rw [← hY]; show (capL _).length ≤ _; unfold capL; split; decide; omega
      have hr18 : r.1.2.length ≤ 1048576 := by have := HP.out.n50; omega
      have hten := tenS_len k
      have hdl : (limbs (denQ r)).length ≤ 18 := by have e := HP.out.d; rw [← e]; exact HP.out.d50
      have hd0 := denQ_pos ok
      have HXO := Lib.hid hXo
      clear ok hX hQ hY e0 hXo
      have hlko := ko.lt (w.heap.size + 1) (by simp)
      have hko := HKO.out
      have hb1 := b1.size
      have kr_c0 := kr.here.cell 0 _ rfl
      have kr_c1 := kr.here.cell 1 _ rfl
      have kr_c2 := kr.here.cell 2 _ rfl
      have km_c0 := km.here.cell 0 _ rfl
      have km_c1 := km.here.cell 1 _ rfl
      go_wp2_with fail
      have HC0 := Lib.hid (show Chg [w.heap.size + 1] w2 w2.drew from (Chg.refl _ _).drew1)
      have HCr := Lib.hid (show Chg [w.heap.size + 1] w2 w2 from Chg.refl _ _)
      have KL := Lib.hid (show ∀ W, Chg [w.heap.size + 1] w2 W → W.cell? ⟨w.heap.size, 0, none⟩ = some (.bool r.1.1) ∧ W.cell? ⟨w.heap.size, 1, none⟩ = some (.slice Ar r.1.2.length cr) ∧ W.cell? ⟨w.heap.size, 2, none⟩ = some (.slice Br r.2.length dr) ∧ W.cell? ⟨w1.heap.size, 0, none⟩ = some (.string nm) ∧ W.cell? ⟨w1.heap.size, 1, none⟩ = some (.func (.func fk) #[] #[]) ∧ Hid (Chg [w.heap.size + 1] w2 W) from fun W hc => ⟨(kr.chg hc (fun i hi hm => by simp at hi hm; omega)).here.cell 0 _ rfl, (kr.chg hc (fun i hi hm => by simp at hi hm; omega)).here.cell 1 _ rfl, (kr.chg hc (fun i hi hm => by simp at hi hm; omega)).here.cell 2 _ rfl, (km.chg hc (fun i hi hm => by simp at hi hm; omega)).here.cell 0 _ rfl, (km.chg hc (fun i hi hm => by simp at hi hm; omega)).here.cell 1 _ rfl, Lib.hid hc⟩)
      have BBF := Lib.hid (show ∀ W, Chg [w.heap.size + 1] w2 W → Below w.heap.size w W from fun W hc => below_chg bb2 hc bb2.size (fun i hi => by simp at hi; omega))
      clear kr_c0 kr_c1 kr_c2 km_c0 km_c1
      go_region_held3 (fun W => W.cell? ⟨w.heap.size, 0, none⟩ = some (.bool r.1.1) ∧ W.cell? ⟨w.heap.size, 1, none⟩ = some (.slice Ar r.1.2.length cr) ∧ W.cell? ⟨w.heap.size, 2, none⟩ = some (.slice Br r.2.length dr) ∧ W.cell? ⟨w1.heap.size, 0, none⟩ = some (.string nm) ∧ W.cell? ⟨w1.heap.size, 1, none⟩ = some (.func (.func fk) #[] #[]) ∧ Hid (Chg [w.heap.size + 1] w2 W))
        ((refine KL.out _ ?_; (first | exact HC6.out | exact HC5.out | exact HC4.out | exact HC3.out | exact HCr.out | exact HC0.out | exact HC6.out.drew1 | exact HC5.out.drew1 | exact HC4.out.drew1 | exact HC3.out.drew1 | exact HCr.out.drew1 | exact HC0.out.drew1 | exact HC6.out.trans (Chg.of_below (below_al (Below.refl _ _) _)) | exact HC5.out.trans (Chg.of_below (below_al (Below.refl _ _) _)) | exact HC4.out.trans (Chg.of_below (below_al (Below.refl _ _) _)) | exact HC3.out.trans (Chg.of_below (below_al (Below.refl _ _) _)) | exact HCr.out.trans (Chg.of_below (below_al (Below.refl _ _) _)) | exact HC0.out.trans (Chg.of_below (below_al (Below.refl _ _) _)) | exact (Chg.setCell HC6.out (by simp) _) | exact (Chg.setCell (Chg.setCell HC6.out (by simp) _) (by simp) _) | exact (Chg.setCell (Chg.setCell (Chg.setCell HC6.out (by simp) _) (by simp) _) (by simp) _) | fail)))
        (first
          | (go_at_call 35; (have hBB := (‹_ ∧ _ ∧ _ ∧ _ ∧ _ ∧ Hid (Chg [w.heap.size + 1] w2 _)›).2.2.2.2.2); (with_reducible refine (tenTo_any k _).mono ?_); rintro e w3 ⟨ut, St, rfl, ot, lt, b3⟩; have HC3 := Lib.hid (hBB.out.trans (Chg.of_below b3)); (have ko_3 := At.below (by first | exact ko | exact At.below ko (below_al (Below.refl _ _) _) | exact At.below (At.below ko (below_al (Below.refl _ _) _)) (below_al (Below.refl _ _) _) | exact At.move ko (fun _ _ => rfl) (Nat.le_refl _)) b3); obtain ⟨At_, ct, rfl⟩ := ownS_form ot.here; have HBZ3 := Lib.hid hBB.out.size; clear hBB)
          | (go_at_call 39; (have hBB := (‹_ ∧ _ ∧ _ ∧ _ ∧ _ ∧ Hid (Chg [w.heap.size + 1] w2 _)›).2.2.2.2.2); (with_reducible refine ((implIntMul_any _ _ r.1 (tenS k) _ hr18 hten (OSr.out _ (BBF.out _ hBB.out)) (At.here (by first | exact ot | exact At.below ot (below_al (Below.refl _ _) _) | exact At.below (At.below ot (below_al (Below.refl _ _) _)) (below_al (Below.refl _ _) _) | exact At.move ot (fun _ _ => rfl) (Nat.le_refl _)))).mono fun _ _ h => newS_is EX.out h).mono ?_); rintro e w4 ⟨um, Sm, rfl, om, lm, b4⟩; have HC4 := Lib.hid (hBB.out.trans (Chg.of_below b4)); (have ko_4 := At.below (by first | exact ko_3 | exact At.below ko_3 (below_al (Below.refl _ _) _) | exact At.below (At.below ko_3 (below_al (Below.refl _ _) _)) (below_al (Below.refl _ _) _) | exact At.move ko_3 (fun _ _ => rfl) (Nat.le_refl _)) b4); (have ot_4 := At.below (by first | exact ot | exact At.below ot (below_al (Below.refl _ _) _) | exact At.below (At.below ot (below_al (Below.refl _ _) _)) (below_al (Below.refl _ _) _) | exact At.move ot (fun _ _ => rfl) (Nat.le_refl _)) b4); obtain ⟨Am, cm, rfl⟩ := ownS_form om.here; have HBZ4 := Lib.hid hBB.out.size; clear hBB)
          | (go_at_call 68; (have hBB := (‹_ ∧ _ ∧ _ ∧ _ ∧ _ ∧ Hid (Chg [w.heap.size + 1] w2 _)›).2.2.2.2.2); (with_reducible refine ((HQU.out nm _ _ X (denQ r) _ HXO.out hd0 hdl (At.here (by first | exact om | exact At.below om (below_al (Below.refl _ _) _) | exact At.below (At.below om (below_al (Below.refl _ _) _)) (below_al (Below.refl _ _) _) | exact At.move om (fun _ _ => rfl) (Nat.le_refl _))) (ownI_eq (ODr.out _ (BBF.out _ hBB.out)) HP.out.d) (HS.out.below (BBF.out _ hBB.out))).mono fun _ _ h => roundVS_eq EY.out h).mono ?_); rintro e w5 ⟨us, Ss, rfl, os, ls, b5⟩; have HC5 := Lib.hid (hBB.out.trans (Chg.of_below b5)); (have ko_5 := At.below (by first | exact ko_4 | exact At.below ko_4 (below_al (Below.refl _ _) _) | exact At.below (At.below ko_4 (below_al (Below.refl _ _) _)) (below_al (Below.refl _ _) _) | exact At.move ko_4 (fun _ _ => rfl) (Nat.le_refl _)) b5); (have ot_5 := At.below (by first | exact ot_4 | exact At.below ot_4 (below_al (Below.refl _ _) _) | exact At.below (At.below ot_4 (below_al (Below.refl _ _) _)) (below_al (Below.refl _ _) _) | exact At.move ot_4 (fun _ _ => rfl) (Nat.le_refl _)) b5); (have om_5 := At.below (by first | exact om | exact At.below om (below_al (Below.refl _ _) _) | exact At.below (At.below om (below_al (Below.refl _ _) _)) (below_al (Below.refl _ _) _) | exact At.move om (fun _ _ => rfl) (Nat.le_refl _)) b5); obtain ⟨As, cs, rfl⟩ := ownS_form os.here; have HBZ5 := Lib.hid hBB.out.size; clear hBB)
          | (go_at_call 38; (have hBB := (‹_ ∧ _ ∧ _ ∧ _ ∧ _ ∧ Hid (Chg [w.heap.size + 1] w2 _)›).2.2.2.2.2); (with_reducible refine ((validDec_any _ Y k _ _ hzS (by first | exact os | exact At.below os (below_al (Below.refl _ _) _) | exact At.below (At.below os (below_al (Below.refl _ _) _)) (below_al (Below.refl _ _) _) | exact At.move os (fun _ _ => rfl) (Nat.le_refl _))).mono fun _ _ h => keptD_eq EV.out h).mono ?_); rintro e w6 ⟨uf, Sf, rfl, of, sf, b6⟩; have HC6 := Lib.hid (hBB.out.trans (Chg.of_below b6)); (have ko_6 := At.below (by first | exact ko_5 | exact At.below ko_5 (below_al (Below.refl _ _) _) | exact At.below (At.below ko_5 (below_al (Below.refl _ _) _)) (below_al (Below.refl _ _) _) | exact At.move ko_5 (fun _ _ => rfl) (Nat.le_refl _)) b6); (have ot_6 := At.below (by first | exact ot_5 | exact At.below ot_5 (below_al (Below.refl _ _) _) | exact At.below (At.below ot_5 (below_al (Below.refl _ _) _)) (below_al (Below.refl _ _) _) | exact At.move ot_5 (fun _ _ => rfl) (Nat.le_refl _)) b6); (have om_6 := At.below (by first | exact om_5 | exact At.below om_5 (below_al (Below.refl _ _) _) | exact At.below (At.below om_5 (below_al (Below.refl _ _) _)) (below_al (Below.refl _ _) _) | exact At.move om_5 (fun _ _ => rfl) (Nat.le_refl _)) b6); (have os_6 := At.below (by first | exact os | exact At.below os (below_al (Below.refl _ _) _) | exact At.below (At.below os (below_al (Below.refl _ _) _)) (below_al (Below.refl _ _) _) | exact At.move os (fun _ _ => rfl) (Nat.le_refl _)) b6); obtain ⟨Af, cf, rfl⟩ := ownD_form of.here; have cz0 := ko_6.here.cell 0 _ rfl; have fz0 := Lib.frozen_of_heap ko_6.here 0; have cz1 := ko_6.here.cell 1 _ rfl; have fz1 := Lib.frozen_of_heap ko_6.here 1; have cz2 := ko_6.here.cell 2 _ rfl; have fz2 := Lib.frozen_of_heap ko_6.here 2; have HBZ6 := Lib.hid hBB.out.size; clear hBB))
      have bb6 := BBF.out _ HC6.out
      replace kr := kr.chg HC6.out (fun i hi hm => by simp at hi hm; omega)
      replace km := km.chg HC6.out (fun i hi hm => by simp at hi hm; omega)
      replace ko := ko_6
      have ot := ot_6
      have om := om_6
      have os := os_6
      have lf : Within Sf _ _ := fun i hi => ⟨(ls i (sf i hi)).1, of.lt i hi⟩
      have HW := Lib.hid (newDb_at (r := w.heap.size + 1) (b := Q.2) of lf (by have := HBZ5.out; omega) (by omega) bb6)
      clear of ko os kr km ot om
      go_wp2
      refine bodyPost_ret (v := .tuple #[.agg #[.bool _, .slice Af _ cf, .int .i64 _], .bool _]) (by simp [results, Tryz.results31, go_sem, cz0, cz1, cz2]; exact ⟨⟨rfl, rfl, rfl⟩, rfl⟩) rfl ?_
      rw [HV.out]
      exact HW.out
    · have ok' : okQ r = false := by simpa using ok
      have HV := Lib.hid (show ratDecD r k m = (zeroD, false) by unfold ratDecD; rw [if_neg (fun h => ok h.1)])
      rw [ok']
      clear ok ok' km kr
      have cz0 := ko.here.cell 0 _ rfl
      have fz0 := Lib.frozen_of_heap ko.here 0
      have cz1 := ko.here.cell 1 _ rfl
      have fz1 := Lib.frozen_of_heap ko.here 1
      have cz2 := ko.here.cell 2 _ rfl
      have fz2 := Lib.frozen_of_heap ko.here 2
      go_wp2
      refine bodyPost_ret (v := .tuple #[.agg #[.bool false, .slice none 0 0, .int .i64 0], .bool false]) (by simp [results, Tryz.results31, go_sem, cz0, cz1, cz2]) rfl ?_
      rw [HV.out]
      first | exact newDb_zero _ bb2 | exact newDb_zero _ (below_set3 bb2 (by omega))
  · have HRO := Lib.hid (roundingOf_none m hm)
    have HV := Lib.hid (show ratDecD r k m = (zeroD, false) by unfold ratDecD; rw [if_neg (fun h => hm h.2.2)])
    clear hm
    go_enter Tryz.func31, Tryz.ntmps31
    go_wp2_with fail
    refine (HRO.out _).mono ?_
    rintro e w1 ⟨rfl, b1⟩
    have bb1 := Below.next bb0 b1
    replace kr := kr.below b1
    replace ko := ko.below b1
    have km := box_new (w1) #[.string ⟨#[]⟩, .nilFunc] 106
    have alm := below_al (Below.refl (w1).heap.size (w1)) (.cells #[.string ⟨#[]⟩, .nilFunc] 106)
    have bbm := Below.next bb1 alm
    replace kr := kr.below alm
    replace ko := ko.below alm
    clear km kr
    have cz0 := ko.here.cell 0 _ rfl
    have fz0 := Lib.frozen_of_heap ko.here 0
    have cz1 := ko.here.cell 1 _ rfl
    have fz1 := Lib.frozen_of_heap ko.here 1
    have cz2 := ko.here.cell 2 _ rfl
    have fz2 := Lib.frozen_of_heap ko.here 2
    go_wp2
    refine bodyPost_ret (v := .tuple #[.agg #[.bool false, .slice none 0 0, .int .i64 0], .bool false]) (by simp [results, Tryz.results31, go_sem, cz0, cz1, cz2]) rfl ?_
    rw [HV.out]
    first | exact newDb_zero _ bbm | exact newDb_zero _ (below_set3 bbm (by omega))
end Go.Proofs.YtbfolegllhpkjaaGreatDoor

namespace Go.Proofs.YtbfolegllhpkjaaGreatDoor
open Go.RowKit

set_option maxHeartbeats 4000000 in
set_option maxRecDepth 100000 in
theorem implDecAt_any (va : Value) (a : DI) (k : Int) (w : World) (hla : a.1.2.length ≤ 1048576) (ha : OwnD va a w) (hsen : Sen w) :
    Calls Tryz.prog 8 #[va, .int .i64 k] w (PostDb (atD a k).1 (atD a k).2 w) := by
  have HS := Lib.hid hsen
  clear hsen
  have Ha := Lib.hid ha
  obtain ⟨Aa, ca, rfl⟩ := ownD_form ha
  have ODa := Lib.hid (show ∀ W, Below w.heap.size w W → OwnD (.agg #[.bool a.1.1, .slice Aa a.1.2.length ca, .int .i64 a.2]) a W from fun W hb => OwnD.below Ha.out hb)
  have OIa := Lib.hid (show ∀ W, Below w.heap.size w W → OwnI (.slice Aa a.1.2.length ca) a.1.2 W from fun W hb => ownD_open (ODa.out W hb))
  have OSa := Lib.hid (show ∀ W, Below w.heap.size w W → OwnS (.agg #[.bool a.1.1, .slice Aa a.1.2.length ca]) a.1 W from fun W hb => OwnS.mk (OIa.out W hb))
  clear ha
  have bb0 : Below w.heap.size w ((w.alloc (.cells #[.bool a.1.1, .slice Aa a.1.2.length ca, .int .i64 a.2] 27)).alloc (.cells #[.bool false, .slice none 0 0, .int .i64 0] 27)) := below_al (below_al (Below.refl _ _) _) _
  have ka := (box_new w #[.bool a.1.1, .slice Aa a.1.2.length ca, .int .i64 a.2] 27).below (below_al (Below.refl _ _) (.cells #[.bool false, .slice none 0 0, .int .i64 0] 27))
  have ko := (box_new (w.alloc (.cells #[.bool a.1.1, .slice Aa a.1.2.length ca, .int .i64 a.2] 27)) #[.bool false, .slice none 0 0, .int .i64 0] 27)
  rw [show (w.alloc (.cells #[.bool a.1.1, .slice Aa a.1.2.length ca, .int .i64 a.2] 27)).heap.size = w.heap.size + 1 by simp] at ko
  have HKO := Lib.hid (ko.lt (w.heap.size + 1) (by simp))
  have zX := szD_len (ratDecD_sz (ratD a) k 0)
  have e0 := at_rat a k
  obtain ⟨Q, hQ⟩ : ∃ Q, atD a k = Q := ⟨_, rfl⟩
  rw [hQ]
  rw [hQ] at e0
  obtain ⟨⟨X, bx⟩, hX⟩ : ∃ q, ratDecD (ratD a) k 0 = q := ⟨_, rfl⟩
  have EX := Lib.hid hX
  rw [hX] at e0 zX
  simp only at zX
  obtain ⟨c, hc⟩ : ∃ c, cmpD X a = c := ⟨_, rfl⟩
  have EC := Lib.hid hc
  have HY := Lib.hid (fun (h1 : bx = true) (h2 : c = 0) => (show Q = (X, true) by rw [← e0]; exact if_pos ⟨h1, hc.trans h2⟩))
  have HN := Lib.hid (fun (h : ¬ (bx = true ∧ c = 0)) => (show Q = (zeroD, false) by rw [← e0]; exact if_neg (fun e => h ⟨e.1, hc.symm.trans e.2⟩)))
  have hzr := ratD_sz a
  clear hQ hX e0 hc
  go_enter Tryz.func8, Tryz.ntmps8
  have ka_c0 := ka.here.cell 0 _ rfl
  have ka_c1 := ka.here.cell 1 _ rfl
  have ka_c2 := ka.here.cell 2 _ rfl
  go_wp2_with fail
  clear ka_c0 ka_c1 ka_c2
  refine (implDecRat_any _ a _ hla (ODa.out _ bb0) (HS.out.below bb0)).mono ?_
  rintro e w1 ⟨up, Sp, rfl, op, lp, b1⟩
  obtain ⟨Ap, cp, Bp, dp, rfl⟩ := ownQ_form op.here
  have bb1 := Below.next bb0 b1
  replace ka := ka.below b1
  replace ko := ko.below b1
  go_wp2_with fail
  refine ((implRatDec_any _ (ratD a) k 0 _ hzr op.here (HS.out.below bb1)).mono fun _ _ h => postDb_is EX.out h).mono ?_
  rintro e w2 ⟨uf, Sy, rfl, oy, ly, b2⟩
  obtain ⟨Ay, cy, rfl⟩ := ownD_form oy.here
  have bb2 := Below.next bb1 b2
  replace ka := ka.below b2
  replace ko := ko.below b2
  replace op := op.below b2
  clear op
  have ky := box_new (w2) #[.bool X.1.1, .slice Ay X.1.2.length cy, .int .i64 X.2] 27
  have aly := below_al (Below.refl (w2).heap.size (w2)) (.cells #[.bool X.1.1, .slice Ay X.1.2.length cy, .int .i64 X.2] 27)
  have bby := Below.next bb2 aly
  replace ka := ka.below aly
  replace ko := ko.below aly
  replace oy := oy.below aly
  cases bx with
  | false =>
    have HV := Lib.hid (HN.out (fun h => absurd h.1 (by decide)))
    clear ky oy ka
    have cz0 := ko.here.cell 0 _ rfl
    have fz0 := Lib.frozen_of_heap ko.here 0
    have cz1 := ko.here.cell 1 _ rfl
    have fz1 := Lib.frozen_of_heap ko.here 1
    have cz2 := ko.here.cell 2 _ rfl
    have fz2 := Lib.frozen_of_heap ko.here 2
    go_wp2
    refine bodyPost_ret (v := .tuple #[.agg #[.bool false, .slice none 0 0, .int .i64 0], .bool false]) (by simp [results, Tryz.results8, go_sem, cz0, cz1, cz2]) rfl ?_
    rw [HV.out]
    first | exact newDb_zero _ bby | exact newDb_zero _ (below_set3 bby (by omega))
  | true =>
    have ky_c0 := ky.here.cell 0 _ rfl
    have ky_c1 := ky.here.cell 1 _ rfl
    have ky_c2 := ky.here.cell 2 _ rfl
    have ka_c0 := ka.here.cell 0 _ rfl
    have ka_c1 := ka.here.cell 1 _ rfl
    have ka_c2 := ka.here.cell 2 _ rfl
    go_wp2_with fail
    clear ky_c0 ky_c1 ky_c2 ka_c0 ka_c1 ka_c2
    refine ((implDecCmp_any _ _ X a _ zX hla oy.here (ODa.out _ bby)).mono fun _ _ h => postn_eqD EC.out h).mono ?_
    rintro e w3 ⟨rfl, b3⟩
    have bb3 := Below.next bby b3
    replace ka := ka.below b3
    replace ko := ko.below b3
    replace oy := oy.below b3
    replace ky := ky.below b3
    by_cases h0 : c = 0
    · have HV := Lib.hid (HY.out (by simp) h0)
      subst h0
      have HW := Lib.hid (postDb_chg (b := true) (T := [w.heap.size + 1]) oy (fun i hi hm => by have := ly i hi; have := HKO.out; have := b1.size; simp at hm; omega) (fun i hi => by simp at hi; omega) (fun i hi => by have := ly i hi; have := HKO.out; have := b1.size; omega) bb3)
      have ky_c0 := ky.here.cell 0 _ rfl
      have ky_c1 := ky.here.cell 1 _ rfl
      have ky_c2 := ky.here.cell 2 _ rfl
      have cz0 := ko.here.cell 0 _ rfl
      have fz0 := Lib.frozen_of_heap ko.here 0
      have cz1 := ko.here.cell 1 _ rfl
      have fz1 := Lib.frozen_of_heap ko.here 1
      have cz2 := ko.here.cell 2 _ rfl
      have fz2 := Lib.frozen_of_heap ko.here 2
      clear oy ky ko ka
      go_wp2
      refine bodyPost_ret (v := .tuple #[.agg #[.bool _, .slice Ay _ cy, .int .i64 _], .bool true]) (by simp [results, Tryz.results8, go_sem, cz0, cz1, cz2]; try exact ⟨rfl, rfl, rfl⟩) rfl ?_
      rw [HV.out]
      refine HW.out _ ?_
      repeat (first | exact Chg.refl _ _ | refine Chg.setCell ?_ (by simp) _)
    · have HV := Lib.hid (HN.out (fun h => h0 h.2))
      have hne : (c == 0) = false := by rw [beq_eq_false_iff_ne]; exact h0
      have hne2 : (c != 0) = true := by rw [bne_iff_ne]; exact h0
      clear ky oy ka
      have cz0 := ko.here.cell 0 _ rfl
      have fz0 := Lib.frozen_of_heap ko.here 0
      have cz1 := ko.here.cell 1 _ rfl
      have fz1 := Lib.frozen_of_heap ko.here 1
      have cz2 := ko.here.cell 2 _ rfl
      have fz2 := Lib.frozen_of_heap ko.here 2
      go_wp2
      refine bodyPost_ret (v := .tuple #[.agg #[.bool false, .slice none 0 0, .int .i64 0], .bool false]) (by simp [results, Tryz.results8, go_sem, cz0, cz1, cz2]) rfl ?_
      rw [HV.out]
      first | exact newDb_zero _ bb3 | exact newDb_zero _ (below_set3 bb3 (by omega))
set_option maxHeartbeats 4000000 in
set_option maxRecDepth 100000 in
theorem implDecLow_any (va : Value) (a : DI) (w : World) (hla : a.1.2.length ≤ 1048576) (ha : OwnD va a w) (hsen : Sen w) :
    Calls Tryz.prog 7 #[va] w (NewV (fun u => OwnD u (lowD a)) w) := by
  have HS := Lib.hid hsen
  clear hsen
  have Ha := Lib.hid ha
  obtain ⟨Aa, ca, rfl⟩ := ownD_form ha
  have ODa := Lib.hid (show ∀ W, Below w.heap.size w W → OwnD (.agg #[.bool a.1.1, .slice Aa a.1.2.length ca, .int .i64 a.2]) a W from fun W hb => OwnD.below Ha.out hb)
  have OIa := Lib.hid (show ∀ W, Below w.heap.size w W → OwnI (.slice Aa a.1.2.length ca) a.1.2 W from fun W hb => ownD_open (ODa.out W hb))
  have OSa := Lib.hid (show ∀ W, Below w.heap.size w W → OwnS (.agg #[.bool a.1.1, .slice Aa a.1.2.length ca]) a.1 W from fun W hb => OwnS.mk (OIa.out W hb))
  clear ha
  have bb0 : Below w.heap.size w ((w.alloc (.cells #[.bool a.1.1, .slice Aa a.1.2.length ca, .int .i64 a.2] 27)).alloc (.cells #[.bool false, .slice none 0 0, .int .i64 0] 27)) := below_al (below_al (Below.refl _ _) _) _
  have ka := (box_new w #[.bool a.1.1, .slice Aa a.1.2.length ca, .int .i64 a.2] 27).below (below_al (Below.refl _ _) (.cells #[.bool false, .slice none 0 0, .int .i64 0] 27))
  have ko := (box_new (w.alloc (.cells #[.bool a.1.1, .slice Aa a.1.2.length ca, .int .i64 a.2] 27)) #[.bool false, .slice none 0 0, .int .i64 0] 27)
  rw [show (w.alloc (.cells #[.bool a.1.1, .slice Aa a.1.2.length ca, .int .i64 a.2] 27)).heap.size = w.heap.size + 1 by simp] at ko
  have HKO := Lib.hid (ko.lt (w.heap.size + 1) (by simp))
  obtain ⟨z, hz⟩ : ∃ z, zerosN a.1.2 = z := ⟨_, rfl⟩
  have EZ := Lib.hid hz
  obtain ⟨mn, hmn⟩ : ∃ m, min a.2 z = m := ⟨_, rfl⟩
  have hmn2 : (if a.2 < z then a.2 else z) = mn := by rw [← hmn]; split <;> omega
  have hmn3 : (if z < a.2 then z else a.2) = mn := by rw [← hmn]; split <;> omega
  obtain ⟨j, hj⟩ : ∃ j, IntKind.i64.wrap (a.2 - mn) = j := ⟨_, rfl⟩
  obtain ⟨c, hc⟩ : ∃ c, cmpS a.1 zeroS = c := ⟨_, rfl⟩
  have EC := Lib.hid hc
  have H0 := Lib.hid (fun h : c = 0 => (show (atD a 0).1 = lowD a by have h1 := low_impl a; unfold lowK at h1; rw [hc, if_pos h] at h1; exact h1))
  have H1 := Lib.hid (fun h : ¬ c = 0 => (show (atD a j).1 = lowD a by
    have h1 := low_impl a
    by_cases ok : okD a = true
    · have p := partsD ok
      have p1 := p.lo
      have p2 := p.hi
      have hz0 : 0 ≤ z := by rw [← hz]; unfold zerosN; split <;> omega
      have e : j = lowK a := by
        rw [← hj, ← hmn]
        unfold lowK
        rw [hc, if_neg h, hz]
        rw [IntWalk.i64_in _ (by omega)]
        split <;> omega
      rw [e]
      exact h1
    · have e : ∀ q, (atD a q).1 = zeroD := fun q => by unfold atD; rw [if_neg (fun h => ok h.1)]
      rw [e] at h1 ⊢
      exact h1))
  obtain ⟨Q, hQ⟩ : ∃ Q, lowD a = Q := ⟨_, rfl⟩
  rw [hQ] at H0 H1
  rw [hQ]
  clear hQ hc hz
  have HNZ := Lib.hid (show ∀ (v : Value) (W : World), OwnI v a.1.2 W → Calls Tryz.prog 29 #[v] W (Postn z W) from fun v W h => (implNatZeros_any v a.1.2 0 _ W hla h.row).mono fun _ _ k => ⟨by rw [← EZ.out]; exact k.1, k.2 ▸ Below.refl _ _⟩)
  obtain ⟨W0, hW0⟩ : ∃ W0, W0 = ((w.alloc (.cells #[.bool a.1.1, .slice Aa a.1.2.length ca, .int .i64 a.2] 27)).alloc (.cells #[.bool false, .slice none 0 0, .int .i64 0] 27)) := ⟨_, rfl⟩
  rw [← hW0] at bb0 ka ko HKO
  have HW0 := Lib.hid hW0
  clear hW0
  go_enter Tryz.func7, Tryz.ntmps7
  have ka_c0 := ka.here.cell 0 _ rfl
  have ka_c1 := ka.here.cell 1 _ rfl
  have ka_c2 := ka.here.cell 2 _ rfl
  rw [HW0.out] at ka_c0 ka_c1 ka_c2
  go_wp2_with fail
  rw [← HW0.out]
  clear ka_c0 ka_c1 ka_c2
  have HC0 := Lib.hid (show Chg [] W0 W0.drew from (Chg.refl _ _).drew1)
  have HCr := Lib.hid (show Chg [] W0 W0 from Chg.refl _ _)
  have KL := Lib.hid (show ∀ W, Chg [] W0 W → W.cell? ⟨w.heap.size, 0, none⟩ = some (.bool a.1.1) ∧ W.cell? ⟨w.heap.size, 1, none⟩ = some (.slice Aa a.1.2.length ca) ∧ W.cell? ⟨w.heap.size, 2, none⟩ = some (.int .i64 a.2) ∧ Hid (Chg [] W0 W) from fun W hc => ⟨(ka.chg hc (fun i hi hm => by simp at hm)).here.cell 0 _ rfl, (ka.chg hc (fun i hi hm => by simp at hm)).here.cell 1 _ rfl, (ka.chg hc (fun i hi hm => by simp at hm)).here.cell 2 _ rfl, Lib.hid hc⟩)
  have BBF := Lib.hid (show ∀ W, Chg [] W0 W → Below w.heap.size w W from fun W hc => below_chg bb0 hc bb0.size (fun i hi => by simp at hi))
  go_region_held3 (fun W => W.cell? ⟨w.heap.size, 0, none⟩ = some (.bool a.1.1) ∧ W.cell? ⟨w.heap.size, 1, none⟩ = some (.slice Aa a.1.2.length ca) ∧ W.cell? ⟨w.heap.size, 2, none⟩ = some (.int .i64 a.2) ∧ Hid (Chg [] W0 W))
    ((refine KL.out _ ?_; (first | exact HC1.out | exact HCr.out | exact HC0.out | exact HC1.out.drew1 | exact HCr.out.drew1 | exact HC0.out.drew1 | exact HC1.out.trans (Chg.of_below (below_al (Below.refl _ _) _)) | exact HCr.out.trans (Chg.of_below (below_al (Below.refl _ _) _)) | exact HC0.out.trans (Chg.of_below (below_al (Below.refl _ _) _)) | fail)))
    (first
      | (go_at_call 29; (have hBB := (‹_ ∧ _ ∧ _ ∧ Hid (Chg [] W0 _)›).2.2.2); (with_reducible refine (HNZ.out _ _ (OIa.out _ (BBF.out _ hBB.out))).mono ?_); rintro e w1 ⟨rfl, b1⟩; have HC1 := Lib.hid (hBB.out.trans (Chg.of_below b1)); have HBZ1 := Lib.hid hBB.out.size; clear hBB))
  all_goals
    have bb1 := BBF.out _ HC1.out
    replace ka := ka.chg HC1.out (fun i hi hm => by simp at hm)
    replace ko := ko.chg HC1.out (fun i hi hm => by simp at hm)
    have ka_c0 := ka.here.cell 0 _ rfl
    have ka_c1 := ka.here.cell 1 _ rfl
    have ka_c2 := ka.here.cell 2 _ rfl
    go_wp2_with fail
    clear ka_c0 ka_c1 ka_c2
    refine ((implIntSign_any _ a.1 _ hla (OSa.out _ bb1)).mono fun _ _ h => postn_eqD EC.out h).mono ?_
    rintro e w2 ⟨rfl, b2⟩
    have bb2 := Below.next bb1 b2
    replace ka := ka.below b2
    replace ko := ko.below b2
    by_cases h0 : c = 0
    · have HE := Lib.hid (H0.out h0)
      subst h0
      have zX := szD_len (atD_sz a 0)
      have EX := Lib.hid (HE.out)
      have HKL := Lib.hid (ko.lt (w.heap.size + 1) (by simp))
      have ka_c0 := ka.here.cell 0 _ rfl
      have ka_c1 := ka.here.cell 1 _ rfl
      have ka_c2 := ka.here.cell 2 _ rfl
      go_wp2_with fail
      clear ka_c0 ka_c1 ka_c2
      refine (implDecAt_any _ a 0 _ hla (ODa.out _ bb2) (HS.out.below bb2)).mono ?_
      rintro e w3 ⟨ux, Sx, rfl, ox, lx, b3⟩
      rw [EX.out] at ox zX
      obtain ⟨Ax, cx, rfl⟩ := ownD_form ox.here
      have bb3 := Below.next bb2 b3
      replace ka := ka.below b3
      replace ko := ko.below b3
      have kx := box_new (w3) #[.bool Q.1.1, .slice Ax Q.1.2.length cx, .int .i64 Q.2] 27
      have alx := below_al (Below.refl (w3).heap.size (w3)) (.cells #[.bool Q.1.1, .slice Ax Q.1.2.length cx, .int .i64 Q.2] 27)
      have bbx := Below.next bb3 alx
      replace ka := ka.below alx
      replace ko := ko.below alx
      replace ox := ox.below alx
      have HW := Lib.hid (newV_chg (φ := fun v => OwnD v Q) (T := [w.heap.size + 1]) ox (fun i hi hm => by have := lx i hi; have := HKL.out; simp at hm; omega) (fun i hi => by simp at hi; omega) (fun i hi => by have := lx i hi; have := HKL.out; omega) bbx)
      have kx_c0 := kx.here.cell 0 _ rfl
      have kx_c1 := kx.here.cell 1 _ rfl
      have kx_c2 := kx.here.cell 2 _ rfl
      have cz0 := ko.here.cell 0 _ rfl
      have fz0 := Lib.frozen_of_heap ko.here 0
      have cz1 := ko.here.cell 1 _ rfl
      have fz1 := Lib.frozen_of_heap ko.here 1
      have cz2 := ko.here.cell 2 _ rfl
      have fz2 := Lib.frozen_of_heap ko.here 2
      clear ox kx ko ka
      go_wp2
      refine bodyPost_ret (v := .agg #[.bool _, .slice Ax _ cx, .int .i64 _]) (by simp [results, Tryz.results7, go_sem, cz0, cz1, cz2]; try exact ⟨rfl, rfl, rfl⟩) rfl ?_
      refine HW.out _ ?_
      repeat (first | exact Chg.refl _ _ | refine Chg.setCell ?_ (by simp) _)
    · have HE := Lib.hid (H1.out h0)
      have hne : (c == 0) = false := by rw [beq_eq_false_iff_ne]; exact h0
      clear h0
      have zX := szD_len (atD_sz a j)
      have EX := Lib.hid (HE.out)
      have HKL := Lib.hid (ko.lt (w.heap.size + 1) (by simp))
      have ka_c0 := ka.here.cell 0 _ rfl
      have ka_c1 := ka.here.cell 1 _ rfl
      have ka_c2 := ka.here.cell 2 _ rfl
      go_wp2_with fail
      clear ka_c0 ka_c1 ka_c2
      refine (implDecAt_any _ a j _ hla (ODa.out _ bb2) (HS.out.below bb2)).mono ?_
      rintro e w3 ⟨ux, Sx, rfl, ox, lx, b3⟩
      rw [EX.out] at ox zX
      obtain ⟨Ax, cx, rfl⟩ := ownD_form ox.here
      have bb3 := Below.next bb2 b3
      replace ka := ka.below b3
      replace ko := ko.below b3
      have kx := box_new (w3) #[.bool Q.1.1, .slice Ax Q.1.2.length cx, .int .i64 Q.2] 27
      have alx := below_al (Below.refl (w3).heap.size (w3)) (.cells #[.bool Q.1.1, .slice Ax Q.1.2.length cx, .int .i64 Q.2] 27)
      have bbx := Below.next bb3 alx
      replace ka := ka.below alx
      replace ko := ko.below alx
      replace ox := ox.below alx
      have HW := Lib.hid (newV_chg (φ := fun v => OwnD v Q) (T := [w.heap.size + 1]) ox (fun i hi hm => by have := lx i hi; have := HKL.out; simp at hm; omega) (fun i hi => by simp at hi; omega) (fun i hi => by have := lx i hi; have := HKL.out; omega) bbx)
      have kx_c0 := kx.here.cell 0 _ rfl
      have kx_c1 := kx.here.cell 1 _ rfl
      have kx_c2 := kx.here.cell 2 _ rfl
      have cz0 := ko.here.cell 0 _ rfl
      have fz0 := Lib.frozen_of_heap ko.here 0
      have cz1 := ko.here.cell 1 _ rfl
      have fz1 := Lib.frozen_of_heap ko.here 1
      have cz2 := ko.here.cell 2 _ rfl
      have fz2 := Lib.frozen_of_heap ko.here 2
      clear ox kx ko ka
      go_wp2
      refine bodyPost_ret (v := .agg #[.bool _, .slice Ax _ cx, .int .i64 _]) (by simp [results, Tryz.results7, go_sem, cz0, cz1, cz2]; try exact ⟨rfl, rfl, rfl⟩) rfl ?_
      refine HW.out _ ?_
      repeat (first | exact Chg.refl _ _ | refine Chg.setCell ?_ (by simp) _)
end Go.Proofs.YtbfolegllhpkjaaGreatDoor

namespace Go.Proofs.YtbfolegllhpkjaaGreatDoor
open Go.RowKit

theorem strInfoD : (Tryz.prog.info? 9).map (fun i => (i.zero, i.size, i.bytes)) = some (some (.string ⟨#[]⟩), 1, 16) := by kernel_rfl
theorem joinTo_leftD (b : ByteArray) (l : List ByteArray) (x : ByteArray) : ∀ k, k ≤ l.length → joinTo b (l ++ [x]) k = joinTo b l k := by
  intro k
  induction k with
  | zero => intro _; rfl
  | succ k ih =>
    intro hk
    have e : (l ++ [x]).getD k ByteArray.empty = l.getD k ByteArray.empty := by
      rw [List.getD_eq_getElem?_getD, List.getD_eq_getElem?_getD, List.getElem?_append_left (by omega)]
    rw [joinTo, joinTo, ih (by omega), e]
/-- nothing between the parts: one part more is laid behind -/
theorem joinB_snoc (l : List ByteArray) (x : ByteArray) : joinB ⟨#[]⟩ (l ++ [x]) = joinB ⟨#[]⟩ l ++ x := by
  have e : (l ++ [x]).getD l.length ByteArray.empty = x := by simp
  apply ByteArray.ext
  unfold joinB
  rw [List.length_append, List.length_singleton, joinTo, joinTo_leftD _ l x _ (Nat.le_refl _), e, ByteArray.data_append]
  simp
theorem joinB_one (x : ByteArray) : joinB ⟨#[]⟩ [x] = x := by
  apply ByteArray.ext
  simp [joinB, joinTo]


/-- the parts so far are the text of the limbs from k on -/
def PartsR (a : List Int) (k : Nat) (ss : List ByteArray) : Prop := joinB ⟨#[]⟩ ss = natT (a.drop k) ∧ (∀ s ∈ ss, s.size ≤ 1048576) ∧ ss.length + k ≤ a.length
theorem PartsR.next {a : List Int} {j : Nat} {ss : List ByteArray} (h : PartsR a (j + 1) ss) (hj : j + 1 < a.length) (hd : DigN a) : PartsR a j (ss ++ [padB (numB a[j]) 9]) := by
  obtain ⟨h1, h2, h3⟩ := h
  refine ⟨by rw [joinB_snoc, h1, natT_step a j hj], ?_, by simp; omega⟩
  intro s hs
  rcases List.mem_append.1 hs with hs | hs
  · exact h2 s hs
  · rw [List.mem_singleton.1 hs, pad_nine (hd.at_ j (by omega))]
    omega
set_option maxHeartbeats 1000000 in
set_option maxRecDepth 100000 in
theorem implNatText_any (v : Value) (a : List Int) (lo hi : Nat) (w : World) (hl : a.length ≤ 1048576) (hhi : hi ≤ w.heap.size) (hr : Row w lo hi v (intsV a)) (ht : Tab w) :
    Calls Tryz.prog 27 #[v] w fun e w' => e = .returned (.string (natTextB a)) ∧ Below w.heap.size w w' := by
  obtain ⟨i0, hi0, hz0, hz1, hz2⟩ := info_parts strInfoD
  have hr0 := hr
  obtain ⟨A, c, rfl, hA⟩ := hr
  rw [intsV_length] at hr0 ⊢
  by_cases ok : natOkB a = true
  · have HV := Lib.hid (show natTextB a = natT a by unfold natTextB; rw [if_pos ok])
    by_cases h0 : a.length = 0
    · have HA := Lib.hid (show a = [] from List.length_eq_zero_iff.1 h0)
      have H0 := Lib.hid h0
      clear h0
      go_enter Tryz.func27, Tryz.ntmps27
      go_wp2_with fail
      refine (implNatOk_same _ a lo hi _ (by omega) hr0).mono ?_
      rintro e w' ⟨rfl, rfl⟩
      rw [ok]
      have h0 := H0.out
      go_wp2
      go_ret
      exact ⟨by rw [HV.out, HA.out]; rfl, Below.refl _ _⟩
    · have hpos : 0 < a.length := by omega
      obtain ⟨ad, rfl, hlo, hbh, hc1⟩ := hA (a.length - 1) _ (intsV_at a (a.length - 1) (by omega))
      have HA := Lib.hid hA
      have PA := Lib.hid (natOk_parts ok).1
      have hlim := (natOk_parts ok).1.at_ (a.length - 1) (by omega)
      have h50 := (natOk_parts ok).2.1
      have hls := limb_nine hlim
      have hix : ((a.length : Int) - 1).toNat = a.length - 1 := by omega
      have hz : ((a.length : Int) == 0) = false := by rw [beq_eq_false_iff_ne]; omega
      have HL : Hid (PartsR a (a.length - 1) [numB a[a.length - 1]]) := Lib.hid ⟨by rw [joinB_one, natT_last a hpos], (fun s hs => by rw [List.mem_singleton.1 hs]; omega), by simp; omega⟩
      clear hA h0
      go_enter Tryz.func27, Tryz.ntmps27
      go_wp2_with fail
      refine (implNatOk_same _ a lo hi _ (by omega) hr0).mono ?_
      rintro e w' ⟨rfl, rfl⟩
      rw [ok]
      go_wp2_with fail
      refine (implIntText_any _ _ (by omega) (by omega) ht).mono ?_
      rintro e w1 ⟨rfl, b1⟩
      go_wp2
      go_loopw [4, 5] (fun s i wr => ∃ (k : Nat) (ss : List ByteArray), k < a.length ∧ i = .int .i64 ((k : Int) - 1) ∧ Hid (PartsR a k ss) ∧ wr.ownsRow w.heap.size 9 1 s ss.length (ss.map Value.string) ∧ Below w.heap.size w wr) (fun _ i _ => (intOf i + 1).toNat)
      case atStart => exact ⟨a.length - 1, [numB a[a.length - 1]], by omega, by congr 1; omega, HL, ⟨rfl, .inr ⟨w1.heap.size, 1, _, rfl, b1.size, heap_alloc_new w1 _, Nat.le_refl _, by unfold maxLen; omega, rfl, rfl⟩⟩, b1.alloc b1.size _⟩
      case round =>
        obtain ⟨k, ss, hk, rfl, HP, hown, hb⟩ := hrel
        have hsl : ss.length ≤ 50 := by have := HP.out.2.2; omega
        by_cases hk0 : 0 < k
        · obtain ⟨j, rfl⟩ : ∃ j, k = j + 1 := ⟨k - 1, by omega⟩
          have hcj : wr.cell? (ad.add j) = some (.int .i64 a[j]) := by
            obtain ⟨_, e, _, _, h⟩ := HA.out j _ (intsV_at a j (by omega))
            cases e
            exact (hb.cell (by rw [block_add]; omega)).trans h
          have hj := PA.out.at_ j (by omega)
          have hlj := limb_nine hj
          have HN := Lib.hid (HP.out.next hk PA.out)
          have e1 : (((j + 1 : Nat) : Int) - 1) = (j : Int) := by omega
          rw [e1]
          clear e1 hk0
          go_wp2_with fail
          refine (implIntText_any _ _ (by omega) (by omega) (ht.below hb)).mono ?_
          rintro e w2 ⟨rfl, b2⟩
          go_wp2_with fail
          refine (implPad_any _ _ _ (by omega) (by omega) (by omega)).mono ?_
          rintro e w3 ⟨rfl, b3⟩
          have hown3 := own_below (own_below hown b2) b3
          have hb3 : Below w.heap.size w w3 := Below.next (Below.next hb b2) b3
          go_wp2_with (at_builtin; refine wpList_append_own _ rfl _ _ 94 rfl w.heap.size 9 i0 (.string ⟨#[]⟩) 1 16 Tryz.underlying94 hi0 hz0 hz1 hz2 rfl (by decide) _ _ _ rfl (own_alloc hown3 _) ⟨w3.heap.size, 0, none⟩ 1 1 [.string (padB (numB a[j]) 9)] rfl rfl (one_new _ _ _) ?c2 ?c3 ?c4 ?c5 ?_)
          case c2 => first | (intro u hu; simp at hu; subst hu; rfl) | rfl
          case c3 => unfold maxLen; omega
          case c4 => omega
          case c5 => have := hb3.size; simp; omega
          intro v1 w4 hown4 hg4 _
          have hb4 := below_push hb3 (Nat.le_refl _) hown3 hg4
          go_wp2
          exact ⟨⟨j, ss ++ [padB (numB a[j]) 9], by omega, rfl, HN, by simpa using hown4, hb4⟩, by simp [intOf]⟩
        · obtain rfl : k = 0 := by omega
          go_wp2_with fail
          refine (implJoin_any _ ⟨#[]⟩ ss w.heap.size _ _ (Nat.le_refl _) (by omega) (by decide) HP.out.2.1 (Row.of_own hown)).mono ?_
          rintro e w2 ⟨rfl, b2⟩
          go_wp2
          go_ret
          exact ⟨ret_str (by rw [HV.out, HP.out.1]; rfl), Below.next hb b2⟩
  · have okf : natOkB a = false := by simpa using ok
    have HV := Lib.hid (show natTextB a = ⟨#[]⟩ by unfold natTextB; rw [if_neg ok])
    clear hA ok
    go_enter Tryz.func27, Tryz.ntmps27
    go_wp2_with fail
    refine (implNatOk_same _ a lo hi _ (by omega) hr0).mono ?_
    rintro e w' ⟨rfl, rfl⟩
    rw [okf]
    go_wp2
    go_ret
    exact ⟨ret_str HV.out.symm, Below.refl _ _⟩
end Go.Proofs.YtbfolegllhpkjaaGreatDoor

namespace Go.Proofs.YtbfolegllhpkjaaGreatDoor
open Go.RowKit

theorem digitsValue_nine (s : ByteArray) (w : World) (hd : DigL s.data.toList) (hl : s.size ≤ 9) :
    Calls Tryz.prog 53 #[.string s] w fun e w' => e = .returned (.int .i64 (valL s.data.toList)) ∧ Below w.heap.size w w' := by
  refine (digitsValue_any s w hd).mono ?_
  rintro e w' ⟨rfl, hb⟩
  have h1 := valL_nine s.data.toList hd hl
  have h0 := valL_nonneg s.data.toList hd
  exact ⟨ret_int (by unfold wrap64; omega), hb⟩
theorem extract_listD (s : ByteArray) (a b : Nat) : (s.extract a b).data.toList = (s.data.toList.take b).drop a := by
  simp [ByteArray.data_extract, List.drop_take]

/-- the value of the digits from m to k -/
def partV (s : ByteArray) (m k : Nat) : Int := valL ((s.data.toList.take k).drop m)
theorem digitsValue_part (s : ByteArray) (m k : Nat) (w : World) (hd : DigL s.data.toList) (hl : k ≤ m + 9) :
    Calls Tryz.prog 53 #[.string (s.extract m k)] w fun e w' => e = .returned (.int .i64 (partV s m k)) ∧ Below w.heap.size w w' := by
  refine (digitsValue_nine (s.extract m k) w (by rw [extract_listD]; exact dig_part _ hd _ _) (by rw [ByteArray.size_extract]; omega)).mono ?_
  rintro e w' ⟨rfl, hb⟩
  exact ⟨ret_int (by rw [extract_listD]; rfl), hb⟩

/-- the limbs that are read are those of the value -/
theorem read_limbs (s : ByteArray) (hd : DigL s.data.toList) : trimL (groups s.data.toList s.size) = limbs (valL s.data.toList).toNat := by
  have hv := groups_val s.data.toList hd s.size (Nat.le_refl _)
  rw [take_full] at hv
  rw [← hv.1, trim_limbs _ hv.2.1]
theorem read_len (s : ByteArray) (hd : DigL s.data.toList) (h : s.size ≤ 450) : (limbs (valL s.data.toList).toNat).length ≤ 50 := by
  rw [← read_limbs s hd]
  have h1 := trimL_length (groups s.data.toList s.size)
  have h2 := groups_len s.data.toList s.size
  omega
/-- the number is written as it was read where the text is a numeral -/
theorem read_text (s : ByteArray) (hd : digitsB s = true) (h : s.size ≤ 450) : natTextB (limbs (valL s.data.toList).toNat) = s ↔ decOk s = true := by
  obtain ⟨h1, h2⟩ := (digitsB_iff s).1 hd
  have hne : s.data.toList ≠ [] := h2
  have e := natText_limbs _ (read_len s h1 h)
  have hdv := dec_val s.data.toList h1 hne
  have hsz : s.data.toList.length = s.size := rfl
  constructor
  · intro hs
    rw [hs] at e
    have hn := hdv.1 e.symm
    unfold decOk
    rw [hd, decide_eq_true h]
    by_cases hc : 1 < s.size
    · have : ¬ s.data.toList.headD 0 = 48 := fun e2 => hn ⟨by omega, e2⟩
      rw [decide_eq_false this]
      simp
    · rw [decide_eq_false hc]
      simp
  · intro ho
    apply WideShapes.bytes_inj
    rw [e]
    apply hdv.2
    rintro ⟨hc1, hc2⟩
    unfold decOk at ho
    rw [decide_eq_true (show 1 < s.size by omega), decide_eq_true hc2] at ho
    simp at ho
theorem part_next {s : ByteArray} {k m : Nat} {out : List Int} (hk : 0 < k) (hm : m = k - 9) (h : out ++ groups s.data.toList k = groups s.data.toList s.size) :
    out ++ [partV s m k] ++ groups s.data.toList m = groups s.data.toList s.size := by
  rw [groups_pos _ k (by omega)] at h
  rw [← h, hm, List.append_assoc]
  rfl
/-- what is known at the head of the loop -/
def ReadRel (s : ByteArray) (B H : Nat) (w : World) (e : Value) (wr : World) : Prop :=
  ∃ (en : Int) (out : List Int), -9 ≤ en ∧ en ≤ s.size ∧ e = .int .i64 en ∧ out.length + en.toNat ≤ s.size ∧ out ++ groups s.data.toList en.toNat = groups s.data.toList s.size ∧ NatAt B H out wr ∧ Below B w wr

set_option maxHeartbeats 2000000 in
set_option maxRecDepth 100000 in
theorem implTextNat_any (s : ByteArray) (w : World) (hs : s.size ≤ 9223372036854775807) (ht : Tab w) : Calls Tryz.prog 22 #[.string s] w (TNNew s w) := by
  obtain ⟨i0, hi0, hz0, hz1, hz2⟩ := info_parts intInfo
  by_cases h450 : s.size ≤ 450
  · by_cases hd : digitsB s = true
    · have HD := Lib.hid ((digitsB_iff s).1 hd).1
      have HRT := Lib.hid (read_text s hd h450)
      have HRL := Lib.hid (read_len s HD.out h450)
      go_enter Tryz.func22, Tryz.ntmps22
      go_wp2_with fail
      refine (implIsDigits_any s _).mono ?_
      rintro e w1 ⟨rfl, b1⟩
      rw [hd]
      clear hd
      go_wp2
      go_loopw [5] (fun e wr => ReadRel s w.heap.size w1.heap.size w e wr) (fun e _ => (intOf e).toNat)
      case atStart => exact ⟨s.size, [], by omega, by omega, rfl, by simp, by rw [Int.toNat_natCast]; rfl, NatAt.new b1.size (World.ownsRow_nil _ _ _ _), b1.alloc b1.size _⟩
      case round =>
        obtain ⟨en, out, h0, h1, rfl, hol, hg, hat, hb⟩ := hrel
        have HG := Lib.hid hg
        clear hg
        by_cases hpos : 0 < en
        · obtain ⟨k, rfl⟩ := Int.eq_ofNat_of_zero_le (show 0 ≤ en by omega)
          obtain ⟨m, hmk, HM⟩ : ∃ m : Nat, m ≤ k ∧ Hid (m = k - 9) := ⟨k - 9, by omega, Lib.hid rfl⟩
          have hmx : max 0 ((k : Int) - 9) = (m : Int) := by have := HM.out; omega
          have hmi : (m : Int) ≤ (k : Int) := by omega
          have hks : (k : Int) ≤ (s.size : Int) := by omega
          have hol2 : out.length + 1 ≤ 450 := by omega
          obtain ⟨hB, u, hbk, hown, hne⟩ := hat
          obtain ⟨A, c, rfl⟩ := own_len hown
          have c1 : wr.cell? ⟨w1.heap.size, 0, none⟩ = some (.slice A out.length c) := by rw [Lib.cell_of_heap hbk]; rfl
          have f1 : wr.frozen? ⟨w1.heap.size, 0, none⟩ = false := Lib.frozen_of_heap hbk 0
          have hlt := (Array.getElem?_eq_some_iff.1 hbk).1
          have HB := Lib.hid hbk
          have HE := Lib.hid hne
          have HO := Lib.hid hown
          clear hbk hne hown
          go_wp2
          clear hmx
          go_region_law (first
              | (refine step_append_lies _ (by rfl) _ _ _ (by rfl) w.heap.size 3 i0 _ 1 8 Tryz.underlying23 hi0 hz0 hz1 hz2 rfl (by omega) (.slice A out.length c) out.length (intsV out) (by rfl) (own_alloc (own_below HO.out.drew b2) _) ⟨w2.heap.size, 0, none⟩ 1 1 [.int .i64 (partV s m k)] (by rfl) (by rfl) (one_new _ _ _) (by simp [Value.oneCell']) (by omega) (by unfold maxLen; omega) (by omega) (by have h1 := hb.size; have h2 := b2.size; simp at h2 ⊢; omega) (w2.heap.size + 1) (by simp) ?_; intro gg cap w3 hown3 hg3 hat3 hlt3; have hb3 : w3.heap[w1.heap.size]? = some (.cells #[.slice A out.length c] 82 (0, 0)) := ((hg3.block w1.heap.size (by simp; omega) (fun e => HE.out e.symm)).trans (Below.heap_alloc _ _ _ hlt2)).trans ((b2.block _ hlt).trans HB.out); have hc3 : w3.cell? ⟨w1.heap.size, 0, none⟩ = some (.slice A out.length c) := (by rw [Lib.cell_of_heap hb3]; rfl); have hf3 : w3.frozen? ⟨w1.heap.size, 0, none⟩ = false := Lib.frozen_of_heap hb3 0; have HB3 := Lib.hid hb3; clear hb3)
              | (go_simp; go_at_call 53; refine (digitsValue_part s m k _ HD.out (by have := HM.out; omega)).mono ?_; rintro e w2 ⟨rfl, b2⟩; have hlt2 : w1.heap.size < w2.heap.size := Nat.lt_of_lt_of_le hlt b2.size; have hc2 : w2.cell? ⟨w1.heap.size, 0, none⟩ = some (.slice A out.length c) := (b2.cell (p := ⟨w1.heap.size, 0, none⟩) hlt).trans c1; have hf2 : w2.frozen? ⟨w1.heap.size, 0, none⟩ = false := (b2.frozen (p := ⟨w1.heap.size, 0, none⟩) hlt).trans f1))
          all_goals
            have hput := NatAt.put (ys := out ++ [partV s m k]) hB HB3.out (by rw [List.length_append, List.length_singleton, intsV_append]; exact hown3)
            have hbe : Below w.heap.size w w3 := ((Below.next hb.drew b2).alloc (by have h1 := hb.size; have h2 := b2.size; simp at h2; omega) _).grown hg3 (by have h1 := hb.size; have h2 := b2.size; simp at h2 ⊢; omega) (fun j hj => (own_lt HO.out hj).1)
            clear HB3 hc3 hf3 hc2 hf2 hown3
            go_wp2
            refine ⟨⟨(k : Int) - 9, out ++ [partV s m k], by omega, by omega, rfl, ?_, ?_, hput, hbe.setCell (p := ⟨w1.heap.size, 0, none⟩) hB _⟩, by simp [intOf]; omega⟩
            · rw [List.length_append, List.length_singleton]; omega
            · rw [show ((k : Int) - 9).toNat = m by have := HM.out; omega]
              exact part_next (by omega) HM.out (by have := HG.out; rwa [Int.toNat_natCast] at this)
        · have HT : Hid (trimL out = limbs (valL s.data.toList).toNat) := Lib.hid (by
            have := HG.out
            rw [show en.toNat = 0 by omega, groups_zero, List.append_nil] at this
            rw [this]
            exact read_limbs s HD.out)
          go_wp2_with fail
          refine (natTrim_any w.heap.size w1.heap.size out _ (by omega) hat).mono ?_
          rintro e w2 ⟨rfl, hat2, hb2⟩
          rw [HT.out] at hat2
          clear hat HT HG
          obtain ⟨hB, u, hbk, hown, hne⟩ := hat2
          obtain ⟨A, c, rfl⟩ := own_len hown
          have c2 : w2.cell? ⟨w1.heap.size, 0, none⟩ = some (.slice A (limbs (valL s.data.toList).toNat).length c) := by rw [Lib.cell_of_heap hbk]; rfl
          have hlt := (Array.getElem?_eq_some_iff.1 hbk).1
          have HO := Lib.hid hown
          have bb2 : Below w.heap.size w w2 := hb.trans hb2
          have HR : Hid (decOk s = true → tnR s = limbs (valL s.data.toList).toNat) := Lib.hid (fun h => by unfold tnR; rw [if_pos h])
          have HR2 : Hid (decOk s = false → tnR s = []) := Lib.hid (fun h => by unfold tnR; rw [h]; rfl)
          clear hbk hown hne
          have hrl := HRL.out
          generalize limbs (valL s.data.toList).toNat = L at *
          go_wp2_with fail
          refine (implNatText_any _ L _ _ _ (by omega) (Nat.le_refl _) (Row.of_own HO.out) (ht.below bb2)).mono ?_
          rintro e w3 ⟨rfl, b3⟩
          have c3 : w3.cell? ⟨w1.heap.size, 0, none⟩ = some (.slice A L.length c) := (b3.cell (p := ⟨w1.heap.size, 0, none⟩) hlt).trans c2
          have HO3 := Lib.hid (own_below HO.out b3)
          have bb3 : Below w.heap.size w w3 := Below.next bb2 b3
          by_cases hsame : natTextB L = s
          · have HOK := Lib.hid (HRT.out.1 hsame)
            go_wp2
            go_ret2
            exact ⟨_, by rw [HOK.out]; rfl, by rw [HR.out HOK.out]; exact HO3.out, bb3⟩
          · have HOK : Hid (decOk s = false) := Lib.hid (by
              cases h : decOk s with
              | false => rfl
              | true => exact absurd (HRT.out.2 h) hsame)
            have hne := bytes_ne' hsame
            go_wp2
            go_ret2
            exact ⟨_, by rw [HOK.out]; rfl, by rw [HR2.out HOK.out]; exact World.ownsRow_nil _ _ _ _, bb3⟩
    · have hd' : digitsB s = false := by simpa using hd
      have HOK := Lib.hid (decOk_dig s hd')
      have HR : Hid (tnR s = []) := Lib.hid (by unfold tnR; rw [HOK.out]; rfl)
      clear hd
      go_enter Tryz.func22, Tryz.ntmps22
      go_wp2_with fail
      refine (implIsDigits_any s _).mono ?_
      rintro e w1 ⟨rfl, b1⟩
      rw [hd']
      go_wp2
      go_ret2
      exact ⟨_, by rw [HOK.out]; rfl, by rw [HR.out]; exact World.ownsRow_nil _ _ _ _, b1⟩
  · have HOK := Lib.hid (decOk_long s h450)
    have HR : Hid (tnR s = []) := Lib.hid (by unfold tnR; rw [HOK.out]; rfl)
    go_enter Tryz.func22, Tryz.ntmps22
    go_wp2
    go_ret2
    exact ⟨_, by rw [HOK.out]; rfl, by rw [HR.out]; exact World.ownsRow_nil _ _ _ _, Below.refl _ _⟩
end Go.Proofs.YtbfolegllhpkjaaGreatDoor

namespace Go.Proofs.YtbfolegllhpkjaaGreatDoor
open Go.RowKit

/-- the text of a signed number -/
def intStrB (x : SI) : ByteArray := if okS x = true then (if x.1 = true then ⟨#[45]⟩ ++ natTextB x.2 else natTextB x.2) else ⟨#[]⟩
/-- the number that a text is read as, and whether it is one -/
def siR (s : ByteArray) : SI := if decOk (bareB s) = true ∧ ¬ (negB s = true ∧ (tnR (bareB s)).length = 0) then (negB s, tnR (bareB s)) else zeroS
def siB (s : ByteArray) : Bool := decide (decOk (bareB s) = true ∧ ¬ (negB s = true ∧ (tnR (bareB s)).length = 0))
theorem tnR_ok {s : ByteArray} (h : decOk s = true) : natOkB (tnR s) = true := by
  have hd : digitsB s = true := by
    by_cases hd : digitsB s = true
    · exact hd
    · rw [decOk_dig s (by simpa using hd)] at h; exact absurd h (by decide)
  have h4 : s.size ≤ 450 := by
    by_cases h4 : s.size ≤ 450
    · exact h4
    · rw [decOk_long s h4] at h; exact absurd h (by decide)
  unfold tnR
  rw [if_pos h]
  exact limbs_okL _ (read_len s ((digitsB_iff s).1 hd).1 h4)
theorem tnR_bad {s : ByteArray} (h : ¬ decOk s = true) : tnR s = [] := by unfold tnR; rw [if_neg h]
theorem bareB_le (s : ByteArray) : (bareB s).size ≤ s.size := by
  cases h : negB s with
  | true => rw [← bareB_tail s h, ByteArray.size_extract]; omega
  | false => rw [bareB_self s h]; exact Nat.le_refl _
/-- a new signed number, and a bool -/
def NewSb (x : SI) (b : Bool) (w : World) (e : Ending) (w' : World) : Prop := ∃ u, e = .returned (.tuple #[.agg #[.bool x.1, u], .bool b]) ∧ w'.ownsRow w.heap.size 3 1 u x.2.length (intsV x.2) ∧ Below w.heap.size w w'
theorem newSb_ret {r : Nat} {u c0 c1 : Value} {x : SI} {b : Bool} {w W : World} {B : Nat} (hb : BoxAt r #[c0, c1] 25 W) (o : W.ownsRow B 3 1 u x.2.length (intsV x.2)) (hB : w.heap.size ≤ B) (hr : w.heap.size ≤ r) (hW : Below w.heap.size w W) :
    NewSb x b w (.returned (.tuple #[.agg #[.bool x.1, u], .bool b])) ((W.setCell ⟨r, 0, none⟩ (.bool x.1)).setCell ⟨r, 1, none⟩ u) := by
  have hne := Lib.ownBlock_ne o hb (by decide)
  refine ⟨u, rfl, own_low (own_stays o fun i hi => ?_) hB, below_set2 hW hr⟩
  have : i ≠ r := fun e => hne (by rw [hi, e])
  exact (Below.heap_setCell _ _ _ _ this).trans (Below.heap_setCell _ _ _ _ this)
theorem newSb_zeroT {b : Bool} {w W : World} (hW : Below w.heap.size w W) : NewSb zeroS b w (.returned (.tuple #[.agg #[.bool false, .slice none 0 0], .bool b])) W := ⟨_, rfl, World.ownsRow_nil _ _ _ _, hW⟩

set_option maxHeartbeats 1000000 in
set_option maxRecDepth 100000 in
theorem implIntStr_any (v : Value) (x : SI) (w : World) (hl : x.2.length ≤ 1048576) (h : RdS w v x) (ht : Tab w) :
    Calls Tryz.prog 25 #[v] w fun e w' => e = .returned (.string (intStrB x)) ∧ Below w.heap.size w w' := by
  obtain ⟨u, rfl, hp⟩ := h
  obtain ⟨A, c, rfl⟩ := row_form hp
  rw [intsV_length] at hp
  rw [intsV_length]
  have hbx : Below w.heap.size w (w.alloc (.cells #[.bool x.1, .slice A x.2.length c] 25)) := below_al (Below.refl _ _) _
  have kb := box_new w #[.bool x.1, .slice A x.2.length c] 25
  have hrd := rdS_below hp hbx
  by_cases okx : okS x = true
  · have HV := Lib.hid (show intStrB x = if x.1 = true then ⟨#[45]⟩ ++ natTextB x.2 else natTextB x.2 by unfold intStrB; rw [if_pos okx])
    have hts := natTextB_size x.2
    go_enter Tryz.func25, Tryz.ntmps25
    go_wp2_with fail
    refine (implIntOk_any _ x _ hl hrd).mono ?_
    rintro e w1 ⟨rfl, b1⟩
    rw [okx]
    have bb1 := Below.next hbx b1
    replace kb := kb.below b1
    have hrow : Row w1 0 w.heap.size (.slice A x.2.length c) (intsV x.2) := hp.below bb1 (Nat.le_refl _)
    have hsz := bb1.size
    have cb0 := kb.here.cell 0 _ rfl
    have cb1 := kb.here.cell 1 _ rfl
    clear hrd okx hp
    cases hn : x.1 with
    | true =>
      rw [hn] at cb0 HV
      clear hn
      go_wp2_with fail
      refine (implNatText_any _ x.2 0 w.heap.size _ hl hsz hrow (ht.below bb1)).mono ?_
      rintro e w2 ⟨rfl, b2⟩
      have bb2 := Below.next bb1 b2
      generalize natTextB x.2 = t at *
      clear hrow
      go_wp2
      go_ret
      exact ⟨ret_str (by rw [HV.out]; rfl), bb2⟩
    | false =>
      rw [hn] at cb0 HV
      clear hn
      go_wp2_with fail
      refine (implNatText_any _ x.2 0 w.heap.size _ hl hsz hrow (ht.below bb1)).mono ?_
      rintro e w2 ⟨rfl, b2⟩
      have bb2 := Below.next bb1 b2
      generalize natTextB x.2 = t at *
      clear hrow
      go_wp2
      go_ret
      exact ⟨ret_str (by rw [HV.out]; rfl), bb2⟩
  · have okx' : okS x = false := by simpa using okx
    have HV := Lib.hid (show intStrB x = ⟨#[]⟩ by unfold intStrB; rw [if_neg okx])
    clear okx
    go_enter Tryz.func25, Tryz.ntmps25
    go_wp2_with fail
    refine (implIntOk_any _ x _ hl hrd).mono ?_
    rintro e w1 ⟨rfl, b1⟩
    rw [okx']
    have bb1 := Below.next hbx b1
    clear kb hrd
    go_wp2
    go_ret
    exact ⟨ret_str HV.out.symm, bb1⟩


end Go.Proofs.YtbfolegllhpkjaaGreatDoor

namespace Go.Proofs.YtbfolegllhpkjaaGreatDoor
open Go.RowKit

theorem cmpI_range (X Y : Int) : -1 ≤ cmpI X Y ∧ cmpI X Y ≤ 1 := by unfold cmpI; split <;> (try split) <;> omega
theorem text_backI {X : Nat} (hx : (X : Int) < bp 5) : decOk (natTextB (limbs X)) = true ∧ tnR (natTextB (limbs X)) = limbs X ∧ digitsB (natTextB (limbs X)) = true := by
  have h5 : (limbs X).length ≤ 5 := limbs_length_le X 5 hx
  have e : (natTextB (limbs X)).data.toList = Lib.decDigits X := natText_limbs X (by omega)
  have hd := dig_dec X
  have hdig : digitsB (natTextB (limbs X)) = true := by rw [digitsB_iff, e]; exact hd
  have hsz : (natTextB (limbs X)).size ≤ 450 := by
    have h1 : natTextB (limbs X) = natT (limbs X) := by unfold natTextB; rw [if_pos (limbs_okL X (by omega))]
    rw [h1]
    have := natT_size (limbs X) (limbs_digN X)
    omega
  have hok : decOk (natTextB (limbs X)) = true := by
    rw [← read_text _ hdig hsz, e, valL_dec, Int.toNat_natCast]
  refine ⟨hok, ?_, hdig⟩
  unfold tnR
  rw [if_pos hok, e, valL_dec, Int.toNat_natCast]
theorem neg_of_digits {t : ByteArray} (h : digitsB t = true) : negB t = false := by
  have h2 := (digitsB_iff t).1 h
  unfold negB
  rw [decide_eq_false_iff_not]
  intro e
  cases hl : t.data.toList with
  | nil => exact h2.2 hl
  | cons c r =>
    rw [hl] at e
    have := h2.1 c (by rw [hl]; exact List.mem_cons_self ..)
    simp at e
    subst e
    revert this
    decide
theorem minus_bare (t : ByteArray) : negB (⟨#[45]⟩ ++ t) = true ∧ bareB (⟨#[45]⟩ ++ t) = t := by
  have e : ((⟨#[45]⟩ : ByteArray) ++ t).data.toList = 45 :: t.data.toList := by simp
  constructor
  · unfold negB; rw [e]; rfl
  · apply WideShapes.bytes_inj
    rw [bareB_data, e]
    rfl
/-- a short right number is read back from its text -/
theorem str_back {x : SI} (h : okS x = true) (hl : x.2.length ≤ 4) : siR (intStrB x) = x ∧ siB (intStrB x) = true := by
  have hp := okS_parts h
  have hx := natOk_limbs hp.1
  have h1 := nval_lt x.2 (natOk_parts hp.1).1
  have h0 := nval_ok hp.1
  have h2 := bp_mono (show x.2.length ≤ 5 by omega)
  have ht := text_backI (X := (nval x.2).toNat) (by omega)
  rw [← hx] at ht
  have hc : ¬ (x.1 = true ∧ x.2.length = 0) := fun hh => by have := hp.2 hh.1; omega
  have both : negB (intStrB x) = x.1 ∧ bareB (intStrB x) = natTextB x.2 := by
    unfold intStrB
    rw [if_pos h]
    cases hn : x.1 with
    | true => rw [if_pos rfl]; exact minus_bare _
    | false => rw [if_neg (by decide)]; exact ⟨neg_of_digits ht.2.2, bareB_self _ (neg_of_digits ht.2.2)⟩
  unfold siR siB
  rw [both.1, both.2, ht.2.1, if_pos ⟨ht.1, hc⟩]
  exact ⟨rfl, decide_eq_true ⟨ht.1, hc⟩⟩
end Go.Proofs.YtbfolegllhpkjaaGreatDoor

namespace Go.Proofs.YtbfolegllhpkjaaGreatDoor
open Go.RowKit

/-- a point ahead of the last k digits -/
def pointB (s : ByteArray) (k : Int) : ByteArray := if 0 < k then s.extract 0 (s.size - k.toNat) ++ ⟨#[46]⟩ ++ s.extract (s.size - k.toNat) s.size else s
/-- the digits, at least one ahead of the point -/
def bodyD (d : DI) : ByteArray := padB (natTextB d.1.2) (d.2 + 1)
/-- DecText -/
def textD (d : DI) : ByteArray := if okD d = true then (if d.1.1 = true then (⟨#[45]⟩ : ByteArray) ++ pointB (bodyD d) d.2 else pointB (bodyD d) d.2) else ⟨#[]⟩
/-- the bytes that are neither a point nor a minus -/
def rawL (l : List UInt8) : List UInt8 := l.filter fun c => c != 46 && c != 45
/-- how many bytes stand behind the last point -/
def scaleF (l : List UInt8) : Nat → Int
  | 0 => 0
  | k + 1 => if l.getD k 0 = 46 then (l.length : Int) - 1 - k else scaleF l k
/-- noughts ahead are left out, as long as a digit stays -/
def stripL : List UInt8 → List UInt8
  | c :: e :: r => if c = 48 then stripL (e :: r) else c :: e :: r
  | l => l
def rawB (s : ByteArray) : ByteArray := ⟨(stripL (rawL s.data.toList)).toArray⟩
def scaleB (s : ByteArray) : Int := scaleF s.data.toList s.size
/-- what a text is read as -/
def parseD (s : ByteArray) : DI := ((decide (s.data.toList.headD 0 = 45), tnR (rawB s)), scaleB s)
def readD (s : ByteArray) : Bool := decOk (rawB s) && (okD (parseD s) && decide (textD (parseD s) = s))
/-- TextDec -/
def trD (s : ByteArray) : DI × Bool := if readD s = true then (parseD s, true) else (zeroD, false)

theorem listB {s t : ByteArray} (h : s.data.toList = t.data.toList) : s = t := by
  cases s with
  | mk a => cases t with
    | mk b => exact congrArg ByteArray.mk (Array.toList_inj.1 h)
theorem listB_len (s : ByteArray) : s.data.toList.length = s.size := rfl
theorem pad_list (s : ByteArray) (n : Int) : (padB s n).data.toList = List.replicate (n.toNat - s.size) 48 ++ s.data.toList := rfl
theorem point_list (s : ByteArray) (k : Int) : (pointB s k).data.toList = if 0 < k then s.data.toList.take (s.size - k.toNat) ++ 46 :: s.data.toList.drop (s.size - k.toNat) else s.data.toList := by
  unfold pointB
  split
  · rw [ByteArray.data_append, ByteArray.data_append, Array.toList_append, Array.toList_append, extract_listD, extract_listD, List.drop_zero, List.take_of_length_le (Nat.le_of_eq (listB_len s))]
    show s.data.toList.take _ ++ [46] ++ _ = _
    rw [List.append_assoc]
    rfl
  · rfl
/-- the digits of a right number -/
structure BodyD (d : DI) (n m : Nat) : Prop where
  mag : d.1.2 = limbs n
  digits : (natTextB d.1.2).data.toList = Lib.decDigits n
  list : (bodyD d).data.toList = List.replicate m 48 ++ Lib.decDigits n
  dig : DigL (bodyD d).data.toList
  long : d.2.toNat < (bodyD d).size
  size : (bodyD d).size ≤ 100
  short : (natTextB d.1.2).size ≤ 61
theorem body_of {d : DI} (h : okD d = true) : ∃ n m, BodyD d n m := by
  have p := partsD h
  have hp := okS_parts p.ok
  have e : d.1.2 = limbs (nval d.1.2).toNat := natOk_limbs hp.1
  have hl := p.len
  have ed : (natTextB d.1.2).data.toList = Lib.decDigits (nval d.1.2).toNat := by
    rw [e, limbs_val, Int.toNat_natCast]
    exact natText_limbs _ (by rw [← e]; omega)
  have hs : (natTextB d.1.2).size ≤ 61 := by
    unfold natTextB
    rw [if_pos hp.1]
    have := natT_size d.1.2 (natOk_parts hp.1).1
    omega
  have hlist : (bodyD d).data.toList = List.replicate ((d.2 + 1).toNat - (natTextB d.1.2).size) 48 ++ Lib.decDigits (nval d.1.2).toNat := by
    unfold bodyD
    rw [pad_list, ed]
  have hsz : (bodyD d).size = (d.2 + 1).toNat - (natTextB d.1.2).size + (natTextB d.1.2).size := by
    unfold bodyD
    rw [← listB_len, pad_list, List.length_append, List.length_replicate, listB_len]
  have hlo := p.lo
  have hhi := p.hi
  refine ⟨(nval d.1.2).toNat, _, e, ed, hlist, ?_, by omega, by omega, hs⟩
  rw [hlist]
  intro c hc
  rcases List.mem_append.1 hc with hc | hc
  · rw [(List.mem_replicate.1 hc).2]; decide
  · exact (dig_dec _).1 c hc
theorem raw_dig {l : List UInt8} (h : DigL l) : rawL l = l := by
  refine List.filter_eq_self.2 fun c hc => ?_
  have := h c hc
  rw [Bool.and_eq_true, bne_iff_ne, bne_iff_ne]
  refine ⟨fun e => ?_, fun e => ?_⟩
  · subst e; exact absurd this.1 (by decide)
  · subst e; exact absurd this.1 (by decide)
theorem raw_app (a b : List UInt8) : rawL (a ++ b) = rawL a ++ rawL b := List.filter_append ..
theorem dig_take {l : List UInt8} (h : DigL l) (k : Nat) : DigL (l.take k) := fun c hc => h c (List.mem_of_mem_take hc)
theorem dig_drop {l : List UInt8} (h : DigL l) (k : Nat) : DigL (l.drop k) := fun c hc => h c (List.mem_of_mem_drop hc)
theorem raw_point {l : List UInt8} (h : DigL l) (k : Nat) : rawL (l.take k ++ 46 :: l.drop k) = l := by
  rw [raw_app, raw_dig (dig_take h k), show (46 :: l.drop k : List UInt8) = [46] ++ l.drop k from rfl, raw_app, raw_dig (dig_drop h k)]
  show l.take k ++ ([] ++ l.drop k) = l
  rw [List.nil_append, List.take_append_drop]
theorem strip_dec (n : Nat) : stripL (Lib.decDigits n) = Lib.decDigits n := by
  by_cases h : n < 10
  · rw [dec_small n h]; rfl
  · have hh := dec_head n (by omega)
    have hne := (dig_dec n).2
    cases hl : Lib.decDigits n with
    | nil => exact absurd hl hne
    | cons c r =>
      rw [hl] at hh
      cases r with
      | nil => rfl
      | cons e r =>
        have : ¬ c = 48 := hh
        show (if c = 48 then _ else _) = _
        rw [if_neg this]
theorem strip_zero (l : List UInt8) (h : l ≠ []) : stripL (48 :: l) = stripL l := by
  cases l with
  | nil => exact absurd rfl h
  | cons c r => rfl
theorem strip_pad (n m : Nat) : stripL (List.replicate m 48 ++ Lib.decDigits n) = Lib.decDigits n := by
  induction m with
  | zero => exact strip_dec n
  | succ m ih =>
    rw [List.replicate_succ, List.cons_append, strip_zero _ (fun e => (dig_dec n).2 (List.append_eq_nil_iff.1 e).2)]
    exact ih
theorem scale_dig {l : List UInt8} {a b : Nat} (hab : a ≤ b) (h : ∀ k, a ≤ k → k < b → l.getD k 0 ≠ 46) : scaleF l b = scaleF l a := by
  induction b with
  | zero => rw [show a = 0 by omega]
  | succ b ih =>
    rcases Nat.eq_or_lt_of_le hab with e | hlt
    · rw [e]
    · show (if l.getD b 0 = 46 then _ else _) = _
      rw [if_neg (h b (by omega) (by omega))]
      exact ih (by omega) (fun k h1 h2 => h k h1 (by omega))
theorem scale_hit {l : List UInt8} {k : Nat} (h : l.getD k 0 = 46) : scaleF l (k + 1) = (l.length : Int) - 1 - k := if_pos h
theorem getD_of {l : List UInt8} {k : Nat} {c : UInt8} (h : l[k]? = some c) : l.getD k 0 = c := by
  rw [List.getD_eq_getElem?_getD, h]; rfl
theorem getD_mem {l : List UInt8} {k : Nat} (h : k < l.length) : l.getD k 0 ∈ l := by
  rw [List.getD_eq_getElem?_getD, List.getElem?_eq_getElem h]; exact List.getElem_mem h
/-- in digits with a minus ahead, or none, no point stands -/
theorem scale_none {l : List UInt8} (h : ∀ c ∈ l, c ≠ 46) : scaleF l l.length = 0 :=
  scale_dig (a := 0) (Nat.zero_le _) (fun _ _ h2 => h _ (getD_mem h2))
theorem scale_one {a b : List UInt8} (h : ∀ c ∈ b, c ≠ 46) : scaleF (a ++ 46 :: b) (a ++ 46 :: b).length = b.length := by
  have hlen : (a ++ 46 :: b).length = a.length + 1 + b.length := by rw [List.length_append, List.length_cons]; omega
  have hit : (a ++ 46 :: b).getD a.length 0 = 46 := getD_of (by rw [List.getElem?_append_right (Nat.le_refl _), Nat.sub_self]; rfl)
  rw [scale_dig (a := a.length + 1) (by omega) (fun k h1 h2 => ?_), scale_hit hit, hlen]
  · omega
  · have hk : (a ++ 46 :: b).getD k 0 = b.getD (k - a.length - 1) 0 := by
      rw [List.getD_eq_getElem?_getD, List.getD_eq_getElem?_getD, List.getElem?_append_right (by omega), show k - a.length = (k - a.length - 1) + 1 by omega, List.getElem?_cons_succ]
      congr 2
    rw [hk]
    exact h _ (getD_mem (by omega))
theorem dig_no {l : List UInt8} (h : DigL l) : ∀ c ∈ l, c ≠ 46 := fun c hc e => by
  subst e
  exact absurd (h _ hc).1 (by decide)
theorem dig_no' {l : List UInt8} (h : DigL l) : ∀ c ∈ l, c ≠ 45 := fun c hc e => by
  subst e
  exact absurd (h _ hc).1 (by decide)
/-- the text of a right number as a list -/
theorem text_list {d : DI} (h : okD d = true) : (textD d).data.toList = (if d.1.1 = true then [45] else []) ++ (if 0 < d.2 then (bodyD d).data.toList.take ((bodyD d).size - d.2.toNat) ++ 46 :: (bodyD d).data.toList.drop ((bodyD d).size - d.2.toNat) else (bodyD d).data.toList) := by
  unfold textD
  rw [if_pos h]
  have e := point_list (bodyD d) d.2
  split
  · rw [ByteArray.data_append, Array.toList_append, e]
  · rw [e]; rfl
theorem text_size {d : DI} (h : okD d = true) : (textD d).size ≤ 102 := by
  obtain ⟨n, m, b⟩ := body_of h
  have e := text_list h
  have := b.size
  rw [← listB_len, e, List.length_append]
  have h1 : (if d.1.1 = true then [45] else ([] : List UInt8)).length ≤ 1 := by split <;> decide
  have h2 : (if 0 < d.2 then (bodyD d).data.toList.take ((bodyD d).size - d.2.toNat) ++ 46 :: (bodyD d).data.toList.drop ((bodyD d).size - d.2.toNat) else (bodyD d).data.toList).length ≤ 101 := by
    split
    · rw [List.length_append, List.length_cons, List.length_take, List.length_drop, listB_len]; omega
    · rw [listB_len]; omega
  omega
theorem textD_size (d : DI) : (textD d).size ≤ 102 := by
  by_cases h : okD d = true
  · exact text_size h
  · unfold textD
    rw [if_neg h]
    decide
/-- what is read out of a written number -/
theorem parse_text {d : DI} (h : okD d = true) : parseD (textD d) = d ∧ decOk (rawB (textD d)) = true := by
  obtain ⟨n, m, b⟩ := body_of h
  have p := partsD h
  have hp := okS_parts p.ok
  have hlo := p.lo
  have e := text_list h
  have hdig := b.dig
  have hlong := b.long
  have hraw : rawL (textD d).data.toList = (bodyD d).data.toList := by
    rw [e, raw_app]
    have h1 : rawL (if d.1.1 = true then [45] else []) = [] := by split <;> rfl
    rw [h1, List.nil_append]
    split
    · exact raw_point hdig _
    · exact raw_dig hdig
  have hst : (rawB (textD d)).data.toList = Lib.decDigits n := by
    show stripL (rawL (textD d).data.toList) = _
    rw [hraw, b.list]
    exact strip_pad n m
  have hnt : rawB (textD d) = natTextB d.1.2 := listB (by rw [hst, b.digits])
  have hdd : digitsB (rawB (textD d)) = true := by rw [digitsB_iff, hst]; exact dig_dec n
  have hsz : (rawB (textD d)).size ≤ 450 := by rw [hnt]; have := b.short; omega
  have hok : decOk (rawB (textD d)) = true := by
    rw [← read_text _ hdd hsz, hst, valL_dec, Int.toNat_natCast, hnt, b.mag]
  have hval : tnR (rawB (textD d)) = d.1.2 := by
    unfold tnR
    rw [if_pos hok, hst, valL_dec, Int.toNat_natCast]
    exact b.mag.symm
  have hscale : scaleB (textD d) = d.2 := by
    unfold scaleB
    rw [← listB_len, e]
    by_cases h0 : 0 < d.2
    · rw [if_pos h0, ← List.append_assoc, scale_one (dig_no (dig_drop hdig _)), List.length_drop, listB_len]
      omega
    · rw [if_neg h0, scale_none (fun c hc => ?_)]
      · omega
      · rcases List.mem_append.1 hc with hc | hc
        · split at hc
          · rw [List.mem_singleton.1 hc]; decide
          · cases hc
        · exact dig_no hdig c hc
  have hneg : decide ((textD d).data.toList.headD 0 = 45) = d.1.1 := by
    rw [e]
    cases hs : d.1.1 with
    | true => rfl
    | false =>
      rw [decide_eq_false_iff_not]
      show ¬ ([] ++ _ : List UInt8).headD 0 = 45
      rw [List.nil_append]
      intro h45
      have hne : (bodyD d).data.toList ≠ [] := fun e0 => by
        have h5 := listB_len (bodyD d)
        rw [e0] at h5
        simp at h5
        omega
      have hfirst : ∀ l : List UInt8, DigL l → l ≠ [] → ¬ l.headD 0 = 45 := fun l hl hn h4 => by
        cases l with
        | nil => exact hn rfl
        | cons c r => exact dig_no' hl c (List.mem_cons_self ..) h4
      split at h45
      · have hk : (bodyD d).data.toList.take ((bodyD d).size - d.2.toNat) ≠ [] := fun e0 => by
          have h5 := congrArg List.length e0
          rw [List.length_take, listB_len] at h5
          simp at h5
          omega
        cases ht : (bodyD d).data.toList.take ((bodyD d).size - d.2.toNat) with
        | nil => exact hk ht
        | cons c r =>
          rw [ht] at h45
          exact hfirst _ (dig_take hdig _) hk (by rw [ht]; exact h45)
      · exact hfirst _ hdig hne h45
  refine ⟨?_, hok⟩
  unfold parseD
  rw [hneg, hval, hscale]
/-- TextDec answers the number whose text it is -/
theorem trD_text {d : DI} (h : okD d = true) : trD (textD d) = (d, true) := by
  have p := parse_text h
  unfold trD readD
  rw [p.2, p.1, h, decide_eq_true rfl]
  rfl
theorem trD_yes {s : ByteArray} (h : (trD s).2 = true) : okD (trD s).1 = true ∧ textD (trD s).1 = s := by
  unfold trD at h ⊢
  split at h
  · rename_i hr
    rw [if_pos hr]
    unfold readD at hr
    rw [Bool.and_eq_true, Bool.and_eq_true, decide_eq_true_eq] at hr
    exact hr.2
  · exact absurd h (by decide)
theorem trD_iff (s : ByteArray) (d : DI) : trD s = (d, true) ↔ okD d = true ∧ textD d = s := by
  constructor
  · intro h
    have := trD_yes (s := s) (by rw [h])
    rw [h] at this
    exact this
  · intro ⟨h1, h2⟩
    rw [← h2]
    exact trD_text h1
theorem trD_no {s : ByteArray} (h : ∀ d, okD d = true → ¬ textD d = s) : trD s = (zeroD, false) := by
  unfold trD
  rw [if_neg]
  intro hr
  have : (trD s).2 = true := by unfold trD; rw [if_pos hr]
  have y := trD_yes this
  exact h _ y.1 y.2
theorem trD_sz (s : ByteArray) : szD (trD s).1 ≤ 1048576 := by
  by_cases h : (trD s).2 = true
  · have := (partsD (trD_yes h).1).len
    unfold szD szS szI
    omega
  · unfold trD at h ⊢
    split at h
    · exact absurd rfl h
    · rename_i hr
      rw [if_neg hr]
      exact zeroD_sz
end Go.Proofs.YtbfolegllhpkjaaGreatDoor

namespace Go.Proofs.YtbfolegllhpkjaaGreatDoor
open Go.RowKit

def pointAt (s : ByteArray) : Int := Lib.indexByte s.data.toList 46
/-- what stands ahead of the first point, and behind it -/
def preB (s : ByteArray) : ByteArray := if pointAt s < 0 then s else s.extract 0 (pointAt s).toNat
def postB (s : ByteArray) : ByteArray := if pointAt s < 0 then ⟨#[]⟩ else s.extract ((pointAt s).toNat + 1) s.size
def magB (s : ByteArray) : ByteArray := ⟨(Lib.trimLeftB (preB s ++ postB s).data.toList 48).toArray⟩
/-- the number that package impl reads -/
def parseI (s : ByteArray) : DI := ((negB s, tnR (magB (bareB s))), ((postB (bareB s)).size : Int))
theorem index_hitP (a b : List UInt8) (h : ∀ c ∈ a, c ≠ 46) : Lib.indexByte (a ++ 46 :: b) 46 = a.length := by
  have hg := Lib.indexByte_ge (a ++ 46 :: b) 46
  have hat : (a ++ 46 :: b)[a.length]? = some 46 := by rw [List.getElem?_append_right (Nat.le_refl _), Nat.sub_self]; rfl
  by_cases e : Lib.indexByte (a ++ 46 :: b) 46 = -1
  · exact absurd hat (Lib.indexByte_none e _)
  · have ho : Lib.indexByte (a ++ 46 :: b) 46 = ((Lib.indexByte (a ++ 46 :: b) 46).toNat : Nat) := by omega
    obtain ⟨h1, h2⟩ := Lib.indexByte_some ho
    generalize (Lib.indexByte (a ++ 46 :: b) 46).toNat = o at *
    rcases Nat.lt_trichotomy o a.length with hl | hl | hl
    · rw [List.getElem?_append_left hl] at h1
      exact absurd rfl (h 46 (List.mem_of_getElem? h1))
    · rw [ho, hl]
    · exact absurd hat (h2 _ hl)
theorem index_noneP (a : List UInt8) (h : ∀ c ∈ a, c ≠ 46) : Lib.indexByte a 46 = -1 := by
  have hg := Lib.indexByte_ge a 46
  by_cases e : Lib.indexByte a 46 = -1
  · exact e
  · have ho : Lib.indexByte a 46 = ((Lib.indexByte a 46).toNat : Nat) := by omega
    obtain ⟨h1, _⟩ := Lib.indexByte_some ho
    exact absurd rfl (h 46 (List.mem_of_getElem? h1))
theorem chr_eqT {k : Nat} (h : k < 10) : (UInt8.ofNat (48 + k) = 48) ↔ k = 0 := by
  constructor
  · intro e
    have e2 := congrArg UInt8.toNat e
    rw [UInt8.toNat_ofNat'] at e2
    have : (48 : UInt8).toNat = 48 := rfl
    omega
  · rintro rfl; rfl
theorem parts_some (s : ByteArray) (a b : List UInt8) (hs : s.data.toList = a ++ 46 :: b) (h : ∀ c ∈ a, c ≠ 46) : (preB s).data.toList = a ∧ (postB s).data.toList = b := by
  have hp : pointAt s = a.length := by unfold pointAt; rw [hs]; exact index_hitP a b h
  have hn : ¬ pointAt s < 0 := by omega
  unfold preB postB
  rw [if_neg hn, if_neg hn, hp, Int.toNat_natCast, extract_listD, extract_listD, List.drop_zero, hs]
  refine ⟨List.take_left .., ?_⟩
  have hsz : s.size = (a ++ 46 :: b).length := by rw [← listB_len, hs]
  rw [hsz, List.take_length]
  have : (a ++ 46 :: b).drop (a.length + 1) = b := by
    rw [List.drop_append, List.drop_of_length_le (by omega), show a.length + 1 - a.length = 1 by omega]
    rfl
  exact this
theorem parts_none (s : ByteArray) (h : ∀ c ∈ s.data.toList, c ≠ 46) : preB s = s ∧ postB s = ⟨#[]⟩ := by
  have hp : pointAt s = -1 := index_noneP _ h
  unfold preB postB
  rw [if_pos (by omega), if_pos (by omega)]
  exact ⟨rfl, rfl⟩
theorem bare_text {d : DI} (h : okD d = true) : negB (textD d) = d.1.1 ∧ (bareB (textD d)).data.toList = if 0 < d.2 then (bodyD d).data.toList.take ((bodyD d).size - d.2.toNat) ++ 46 :: (bodyD d).data.toList.drop ((bodyD d).size - d.2.toNat) else (bodyD d).data.toList := by
  have hp := (parse_text h).1
  have hn : negB (textD d) = d.1.1 := congrArg (fun x : DI => x.1.1) hp
  have e := text_list h
  refine ⟨hn, ?_⟩
  cases hs : d.1.1 with
  | true =>
    rw [hs] at e hn
    rw [if_pos rfl] at e
    rw [bareB_data, e]
    rfl
  | false =>
    rw [hs] at e hn
    rw [if_neg (by decide), List.nil_append] at e
    rw [bareB_self _ hn, e]
theorem trim_pad (n m : Nat) : Lib.trimLeftB (List.replicate m 48 ++ Lib.decDigits n) 48 = if n = 0 then [] else Lib.decDigits n := by
  unfold Lib.trimLeftB
  induction m with
  | zero =>
    rw [List.replicate_zero, List.nil_append]
    by_cases h0 : n = 0
    · subst h0
      rw [if_pos rfl, dec_small 0 (by omega)]
      rfl
    · rw [if_neg h0]
      have hh : ∃ c r, Lib.decDigits n = c :: r ∧ ¬ c = 48 := by
        by_cases hs : n < 10
        · refine ⟨_, _, dec_small n hs, ?_⟩
          rw [chr_eqT hs]
          exact h0
        · have hd := dec_head n (by omega)
          cases hl : Lib.decDigits n with
          | nil => exact absurd hl (dig_dec n).2
          | cons c r =>
            rw [hl] at hd
            exact ⟨c, r, rfl, hd⟩
      obtain ⟨c, r, e, hc⟩ := hh
      rw [e]
      exact List.dropWhile_cons_of_neg (by simpa using hc)
  | succ m ih =>
    rw [List.replicate_succ, List.cons_append, List.dropWhile_cons_of_pos (by rfl)]
    exact ih
theorem tn_empty : tnR ⟨#[]⟩ = [] := by
  unfold tnR
  rw [if_neg]
  intro h
  rw [decOk_dig ⟨#[]⟩ (by
    by_cases hd : digitsB ⟨#[]⟩ = true
    · exact absurd rfl ((digitsB_iff _).1 hd).2
    · simpa using hd)] at h
  exact absurd h (by decide)
/-- a written number is read back -/
theorem parseI_text {d : DI} (h : okD d = true) : parseI (textD d) = d := by
  obtain ⟨n, m, b⟩ := body_of h
  have p := partsD h
  have hlo := p.lo
  have hb := bare_text h
  have pt := parse_text h
  have hlong := b.long
  have key : (preB (bareB (textD d)) ++ postB (bareB (textD d))).data.toList = (bodyD d).data.toList ∧ ((postB (bareB (textD d))).size : Int) = d.2 := by
    have hl := hb.2
    by_cases h0 : 0 < d.2
    · rw [if_pos h0] at hl
      have q := parts_some _ _ _ hl (dig_no (dig_take b.dig _))
      constructor
      · rw [ByteArray.data_append, Array.toList_append, q.1, q.2, List.take_append_drop]
      · rw [← listB_len, q.2, List.length_drop, listB_len]
        omega
    · rw [if_neg h0] at hl
      have q := parts_none (bareB (textD d)) (by rw [hl]; exact dig_no b.dig)
      constructor
      · rw [ByteArray.data_append, Array.toList_append, q.1, q.2, hl]
        exact List.append_nil _
      · rw [q.2]
        show (0 : Int) = _
        omega
  have hmag : tnR (magB (bareB (textD d))) = d.1.2 := by
    have hl : (magB (bareB (textD d))).data.toList = if n = 0 then [] else Lib.decDigits n := by
      show Lib.trimLeftB _ 48 = _
      rw [key.1, b.list, trim_pad]
    by_cases hn : n = 0
    · rw [if_pos hn] at hl
      have e : magB (bareB (textD d)) = ⟨#[]⟩ := listB (by rw [hl])
      rw [e, tn_empty, b.mag, hn, limbs_zero]
    · rw [if_neg hn] at hl
      have hr : magB (bareB (textD d)) = rawB (textD d) := listB (by
        rw [hl]
        show _ = stripL (rawL (textD d).data.toList)
        have hraw : rawL (textD d).data.toList = (bodyD d).data.toList := by
          rw [text_list h, raw_app]
          have h1 : rawL (if d.1.1 = true then [45] else []) = [] := by split <;> rfl
          rw [h1, List.nil_append]
          split
          · exact raw_point b.dig _
          · exact raw_dig b.dig
        rw [hraw, b.list]
        exact (strip_pad n m).symm)
      rw [hr]
      exact congrArg (fun x : DI => x.1.2) pt.1
  unfold parseI
  rw [hb.1, hmag, key.2]
theorem parseI_empty : parseI ⟨#[]⟩ = zeroD := by
  have hn : negB ⟨#[]⟩ = false := negB_nil _ (by decide)
  have hb : bareB ⟨#[]⟩ = ⟨#[]⟩ := bareB_self _ hn
  have q := parts_none ⟨#[]⟩ (fun c hc => by cases hc)
  unfold parseI
  rw [hn, hb, q.2]
  have e : magB ⟨#[]⟩ = ⟨#[]⟩ := by unfold magB; rw [q.1, q.2]; rfl
  rw [e, tn_empty]
  rfl
/-- TextDec as package impl reckons it -/
theorem trD_impl (s : ByteArray) : (if textD (parseI s) = s then (parseI s, true) else (zeroD, false)) = trD s := by
  by_cases hx : textD (parseI s) = s
  · rw [if_pos hx]
    by_cases ok : okD (parseI s) = true
    · have := trD_text ok
      rw [hx] at this
      exact this.symm
    · exfalso
      have e : textD (parseI s) = ⟨#[]⟩ := by unfold textD; rw [if_neg ok]
      rw [e] at hx
      rw [← hx, parseI_empty] at ok
      exact ok (by decide)
  · rw [if_neg hx]
    refine (trD_no fun d hd he => hx ?_).symm
    rw [← he, parseI_text hd]
end Go.Proofs.YtbfolegllhpkjaaGreatDoor

namespace Go.Proofs.YtbfolegllhpkjaaGreatDoor
open Go.RowKit

theorem emptyP_ne {s : ByteArray} (h : ¬ s = ⟨#[]⟩) : s.toList.isEmpty = false := by
  rcases Bool.eq_false_or_eq_true s.toList.isEmpty with e | e
  · rw [List.isEmpty_iff, Lib.toList_data] at e
    exact absurd (WideShapes.bytes_inj (by rw [e])) h
  · exact e
theorem bytes_neP {a b : ByteArray} (h : ¬ a = b) : (a.toList == b.toList) = false := by
  rw [beq_eq_false_iff_ne, ByteArray.toList_eq, ByteArray.toList_eq]
  exact fun e => h (WideShapes.bytes_inj e)
theorem bytes_eqP {a b : ByteArray} (h : a = b) : (a.toList == b.toList) = true := by subst h; exact beq_self_eq_true _
theorem point_lt {s : ByteArray} {o : Nat} (h : pointAt s = o) : o < s.size := by
  obtain ⟨h1, _⟩ := Lib.indexByte_some h
  have := (List.getElem?_eq_some_iff.1 h1).1
  rw [listB_len] at this
  exact this
theorem point_casesD (s : ByteArray) : pointAt s = -1 ∨ ∃ o : Nat, pointAt s = o ∧ o < s.size := by
  have h := Lib.indexByte_ge s.data.toList 46
  by_cases e : pointAt s = -1
  · exact .inl e
  · have ho : pointAt s = ((pointAt s).toNat : Nat) := by unfold pointAt at *; omega
    exact .inr ⟨_, ho, point_lt ho⟩
set_option maxHeartbeats 400000 in
set_option maxRecDepth 100000 in
theorem liteCutP_none (s : ByteArray) (w : World) (h : pointAt s = -1) :
    Calls Tryz.prog 51 #[.string s, .string ⟨#[46]⟩] w fun e w' => e = .returned (.tuple #[.string (preB s), .string ⟨#[]⟩, .bool false]) ∧ w = w' := by
  have eh : preB s = s := by unfold preB; rw [if_pos (by omega)]
  rw [eh]
  go_enter Tryz.func51, Tryz.ntmps51
  go_wp2_with fail
  refine (Tryz.stringslite_Index_one s 46 _).mono ?_
  rintro e w1 ⟨rfl, rfl⟩
  rw [show Lib.indexByte s.data.toList 46 = -1 from h]
  go_wp2
  go_ret3
  exact ⟨rfl, rfl⟩
set_option maxHeartbeats 400000 in
set_option maxRecDepth 100000 in
theorem liteCutP_some (s : ByteArray) (o : Nat) (w : World) (hs : s.size ≤ 1048576) (h : pointAt s = o) :
    Calls Tryz.prog 51 #[.string s, .string ⟨#[46]⟩] w fun e w' => e = .returned (.tuple #[.string (preB s), .string (postB s), .bool true]) ∧ Below w.heap.size w w' := by
  have hl := point_lt h
  have eh : preB s = s.extract 0 o := by unfold preB; rw [if_neg (by omega), h, Int.toNat_natCast]
  have et : postB s = s.extract (o + 1) s.size := by unfold postB; rw [if_neg (by omega), h, Int.toNat_natCast]
  rw [eh, et]
  have c1 : (0 : Int) ≤ ↑o := by omega
  have c2 : (↑o : Int) ≤ ↑s.size := by omega
  have c3 : (0 : Int) ≤ ↑o + 1 := by omega
  have c4 : (↑o + 1 : Int) ≤ ↑s.size := by omega
  have c5 : (s.size : Int) ≤ 1048576 := by omega
  go_enter Tryz.func51, Tryz.ntmps51
  go_wp2_with fail
  refine (Tryz.stringslite_Index_one s 46 _).mono ?_
  rintro e w1 ⟨rfl, rfl⟩
  rw [show Lib.indexByte s.data.toList 46 = (o : Int) from h]
  go_wp2
  go_quiet (fail)
  go_wp2
  go_ret3
  exact ⟨rfl, below_drewN (Below.refl _ _) _⟩
set_option maxHeartbeats 400000 in
set_option maxRecDepth 100000 in
theorem cutP_none (s : ByteArray) (w : World) (h : pointAt s = -1) :
    Calls Tryz.prog 21 #[.string s, .string ⟨#[46]⟩] w fun e w' => e = .returned (.tuple #[.string (preB s), .string ⟨#[]⟩, .bool false]) ∧ Below w.heap.size w w' := by
  go_enter Tryz.func21, Tryz.ntmps21
  go_wp2_with fail
  refine (liteCutP_none s _ h).mono ?_
  rintro e w1 ⟨rfl, rfl⟩
  go_wp2
  go_ret3
  exact ⟨rfl, Below.refl _ _⟩
set_option maxHeartbeats 400000 in
set_option maxRecDepth 100000 in
theorem cutP_some (s : ByteArray) (o : Nat) (w : World) (hs : s.size ≤ 1048576) (h : pointAt s = o) :
    Calls Tryz.prog 21 #[.string s, .string ⟨#[46]⟩] w fun e w' => e = .returned (.tuple #[.string (preB s), .string (postB s), .bool true]) ∧ Below w.heap.size w w' := by
  go_enter Tryz.func21, Tryz.ntmps21
  go_wp2_with fail
  refine (liteCutP_some s o _ hs h).mono ?_
  rintro e w1 ⟨rfl, b1⟩
  go_wp2
  go_ret3
  exact ⟨rfl, b1⟩
theorem cutP_any (s : ByteArray) (w : World) (hs : s.size ≤ 1048576) :
    Calls Tryz.prog 21 #[.string s, .string ⟨#[46]⟩] w fun e w' => ∃ b : Bool, e = .returned (.tuple #[.string (preB s), .string (postB s), .bool b]) ∧ Below w.heap.size w w' := by
  rcases point_casesD s with h | ⟨o, h, _⟩
  · refine (cutP_none s w h).mono ?_
    rintro e w' ⟨rfl, b⟩
    have e2 : postB s = ⟨#[]⟩ := by unfold postB; rw [if_pos (by omega)]
    exact ⟨false, by rw [e2], b⟩
  · refine (cutP_some s o w hs h).mono ?_
    rintro e w' ⟨rfl, b⟩
    exact ⟨true, rfl, b⟩
set_option maxHeartbeats 1000000 in
set_option maxRecDepth 100000 in
theorem trimLeft_any (s : ByteArray) (w : World) :
    Calls Tryz.prog 23 #[.string s, .string ⟨#[48]⟩] w fun e w' => e = .returned (.string ⟨(Lib.trimLeftB s.data.toList 48).toArray⟩) ∧ Below w.heap.size w w' := by
  by_cases h0 : s = ⟨#[]⟩
  · subst h0
    go_enter Tryz.func23, Tryz.ntmps23
    go_wp2
    go_ret
    exact ⟨rfl, Below.refl _ _⟩
  · have hne := emptyP_ne h0
    have hne2 := bytes_neP h0
    clear h0
    go_enter Tryz.func23, Tryz.ntmps23
    go_wp2_with fail
    refine (Tryz.strings_trimLeftByte s 48 _).mono ?_
    rintro e w1 ⟨rfl, rfl⟩
    go_wp2
    go_ret
    exact ⟨rfl, Below.refl _ _⟩
theorem pre_post_size (s : ByteArray) : (preB s).size ≤ s.size ∧ (postB s).size ≤ s.size ∧ (preB s).size + (postB s).size ≤ s.size := by
  unfold preB postB
  split
  · exact ⟨Nat.le_refl _, Nat.zero_le _, Nat.le_refl _⟩
  · rw [ByteArray.size_extract, ByteArray.size_extract]
    omega
theorem trim_size (l : List UInt8) (c : UInt8) : (Lib.trimLeftB l c).length ≤ l.length := (List.dropWhile_sublist _).length_le
end Go.Proofs.YtbfolegllhpkjaaGreatDoor
