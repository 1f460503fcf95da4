/-
  The law FnExactNeeded of chapter 12, walked: it returns true wherever both packages answer alike.
-/
import Derived.Deep.RegionHeld3
import Derived.Deep.DeepCutAuto
import Derived.Test.YtehkknphcflofaaGreatDoorJU10
namespace Go.Proofs.YtehkknphcflofaaGreatDoor
open Go.RowKit

set_option maxHeartbeats 4000000 in
set_option maxRecDepth 100000 in
theorem lawNeeded_walk (va : Value) (vm : Value) (a : TI) (m : MI) (q : ByteArray) (R0 : MI) (R1 : Bool) (w : World)
    (hS : ∀ (ua : Value) (um : Value) (W : World), OwnT ua a W → OwnM um m W → Calls Tryz.prog 61 #[ua, um, .string q] W (PostMb R0 R1 W))
    (hI : ∀ (ua : Value) (um : Value) (W : World), OwnT ua a W → OwnM um m W → CurTab W → Sen W → Calls Tryz.prog 38 #[ua, um, .string q] W (PostMb R0 R1 W))
    (ht0 : CurTab w) (ht1 : Sen w) (hl : szT a + szM m ≤ 1048576) (hlq : q.size ≤ 1048576) (hlR0 : szM R0 ≤ 1048576) (ra : RdT w va a) (rm : RdM w vm m) :
    Calls Tryz.prog 11 #[va, vm, .string q] w fun e w' => e = .returned (.bool true) ∧ Below w.heap.size w w' := by
  have HS := Lib.hid hS
  have HI := Lib.hid hI
  clear hS hI
  have HT0 := Lib.hid ht0
  clear ht0
  have HT1 := Lib.hid ht1
  clear ht1
  have hsa := szT_nonneg a
  have hsm := szM_nonneg m
  have hsR0 := szM_nonneg R0
  have hma := mkT_range a
  have hmm := mkM_range m
  have hmR0 := mkM_range R0
  have hza : szT a ≤ 1048576 := by omega
  obtain ⟨Aa, ca, rfl⟩ := rdT_form ra
  have hzm : szM m ≤ 1048576 := by omega
  obtain ⟨Am, cm, rfl⟩ := rdM_form rm
  have bb0 : Below w.heap.size w ((w.alloc (.cells #[.string a.1, .slice Aa a.2.length ca] 78)).alloc (.cells #[.string m.1, .bool m.2.1, .slice Am m.2.2.length cm] 88)) := below_al (below_al (Below.refl _ _) _) _
  have ka := (box_new w #[.string a.1, .slice Aa a.2.length ca] 78).below (below_al (Below.refl _ _) (.cells #[.string m.1, .bool m.2.1, .slice Am m.2.2.length cm] 88))
  have km := (box_new (w.alloc (.cells #[.string a.1, .slice Aa a.2.length ca] 78)) #[.string m.1, .bool m.2.1, .slice Am m.2.2.length cm] 88)
  rw [show (w.alloc (.cells #[.string a.1, .slice Aa a.2.length ca] 78)).heap.size = w.heap.size + 1 by simp] at km
  have RFa : Hid (∀ W, Below w.heap.size w W → RdT W (.agg #[.string a.1, .slice Aa a.2.length ca]) a) := Lib.hid fun W hb => ra.below hb
  have RFm : Hid (∀ W, Below w.heap.size w W → RdM W (.agg #[.string m.1, .bool m.2.1, .slice Am m.2.2.length cm]) m) := Lib.hid fun W hb => rm.below hb
  go_enter Tryz.func11, Tryz.ntmps11
  have ka_c0 := ka.here.cell 0 _ rfl
  have ka_c1 := ka.here.cell 1 _ rfl
  go_wp2_with fail
  clear ka_c0 ka_c1
  refine (szT_cal _ a (1048576) _ (capT_of hza) (by omega) (by omega) (RFa.out _ bb0)).mono ?_
  rintro e w1 ⟨rfl, b1⟩
  rw [leftI_of (by omega)]
  have bb1 := Below.next bb0 b1
  replace ka := ka.below b1
  replace km := km.below b1
  have hn : decide (((1048576 : Int) - szT a : Int) < 0) = false := decide_eq_false (by omega)
  have km_c0 := km.here.cell 0 _ rfl
  have km_c1 := km.here.cell 1 _ rfl
  have km_c2 := km.here.cell 2 _ rfl
  go_wp2_with fail
  clear km_c0 km_c1 km_c2
  refine (szM_cal _ m (1048576 - szT a) _ (capM_of hzm) (by omega) (by omega) (RFm.out _ bb1)).mono ?_
  rintro e w2 ⟨rfl, b2⟩
  rw [leftI_of (by omega)]
  have bb2 := Below.next bb1 b2
  replace ka := ka.below b2
  replace km := km.below b2
  clear hn
  have hn : decide (((1048576 : Int) - szT a - szM m : Int) < 0) = false := decide_eq_false (by omega)
  have HKa := Lib.hid (ka.lt (w.heap.size) (by simp))
  have HKm := Lib.hid (km.lt (w.heap.size + 1) (by simp))
  have ka_c0 := ka.here.cell 0 _ rfl
  have ka_c1 := ka.here.cell 1 _ rfl
  have km_c0 := km.here.cell 0 _ rfl
  have km_c1 := km.here.cell 1 _ rfl
  have km_c2 := km.here.cell 2 _ rfl
  go_upto_region 10 with fail
  go_cut [8, 9] (fun s t1 wx => NewLocV 32 (fun v => OwnM v R0) w2 s wx ∧ t1 = .bool R1)
  case first =>
    have HB0 := Lib.hid (show Below w2.heap.size w2 w2.drew from (Below.refl _ _).drew)
    have KL := Lib.hid (show ∀ W, Below w2.heap.size w2 W → W.cell? ⟨w.heap.size, 0, none⟩ = some (.string a.1) ∧ W.cell? ⟨w.heap.size, 1, none⟩ = some (.slice Aa a.2.length ca) ∧ W.cell? ⟨w.heap.size + 1, 0, none⟩ = some (.string m.1) ∧ W.cell? ⟨w.heap.size + 1, 1, none⟩ = some (.bool m.2.1) ∧ W.cell? ⟨w.heap.size + 1, 2, none⟩ = some (.slice Am m.2.2.length cm) ∧ Hid (Below w2.heap.size w2 W) from
      fun W hb => ⟨(ka.below hb).here.cell 0 _ rfl, (ka.below hb).here.cell 1 _ rfl, (km.below hb).here.cell 0 _ rfl, (km.below hb).here.cell 1 _ rfl, (km.below hb).here.cell 2 _ rfl, Lib.hid hb⟩)
    have BBF := Lib.hid (show ∀ W, Below w2.heap.size w2 W → Below w.heap.size w W from fun W hb => Below.next bb2 hb)
    clear ka_c0 ka_c1 km_c0 km_c1 km_c2
    go_region_held3 (fun W => W.cell? ⟨w.heap.size, 0, none⟩ = some (.string a.1) ∧ W.cell? ⟨w.heap.size, 1, none⟩ = some (.slice Aa a.2.length ca) ∧ W.cell? ⟨w.heap.size + 1, 0, none⟩ = some (.string m.1) ∧ W.cell? ⟨w.heap.size + 1, 1, none⟩ = some (.bool m.2.1) ∧ W.cell? ⟨w.heap.size + 1, 2, none⟩ = some (.slice Am m.2.2.length cm) ∧ Hid (Below w2.heap.size w2 W))
      ((refine KL.out _ ?_; (first | exact HBf.out | exact HBtm.out | exact HBta.out | exact HB0.out | exact below_al HBf.out _ | exact below_al HBtm.out _ | exact below_al HBta.out _ | exact below_al HB0.out _ | exact below_set3 HBf.out (by first | exact HBtm.out.size | exact HBta.out.size | exact HB0.out.size) | fail)))
      (first
        | (go_at_call 48; (have hBB := (‹_ ∧ _ ∧ _ ∧ _ ∧ _ ∧ Hid (Below w2.heap.size w2 _)›).2.2.2.2.2); (with_reducible refine (toT_new _ a _ hza (RFa.out _ (BBF.out _ hBB.out))).mono ?_); rintro e wta ⟨ta, Sta, rfl, ota, lta, bta⟩; have HBta := Lib.hid (Below.next hBB.out bta); (try have hbxa : At [w2.heap.size] (BoxAt w2.heap.size #[.string ⟨#[]⟩, .bool false, .slice none 0 0] 32) wta := At.below (box_new w2.drew _ _) bta); clear hBB)
        | (go_at_call 56; (have hBB := (‹_ ∧ _ ∧ _ ∧ _ ∧ _ ∧ Hid (Below w2.heap.size w2 _)›).2.2.2.2.2); (with_reducible refine (toM_new _ m _ hzm (RFm.out _ (BBF.out _ hBB.out))).mono ?_); rintro e wtm ⟨tm, Stm, rfl, otm, ltm, btm⟩; have HBtm := Lib.hid (Below.next hBB.out btm); (have otam := At.below (by first | exact ota | exact At.below ota (below_al (Below.refl _ _) _)) btm); (first | have hbxm := At.below (box_new _ _ _) btm | have hbxm := At.below hbxa btm | skip); clear hBB)
        | (go_at_call 61; (have hBB := (‹_ ∧ _ ∧ _ ∧ _ ∧ _ ∧ Hid (Below w2.heap.size w2 _)›).2.2.2.2.2); (with_reducible refine (HS.out _ _ _ (At.here (by first | exact otam | exact At.below otam (below_al (Below.refl _ _) _))) (At.here (by first | exact otm | exact At.below otm (below_al (Below.refl _ _) _)))).mono ?_); rintro e wf ⟨uf, Sf, rfl, of, lf, bf⟩; have HBf := Lib.hid (Below.next hBB.out bf); have HBS := Lib.hid hBB.out.size; (first | have hbxg := At.below_lt (box_new _ _ _) bf | have hbxg := At.below_lt hbxm bf | skip); (try (have hbxf := hbxg.1; have HGB := Lib.hid hbxg.2; clear hbxg)); obtain ⟨Af, cf, rfl⟩ := ownM_form of.here; (try (have cz0 := hbxf.here.cell 0 _ rfl; have cz1 := hbxf.here.cell 1 _ rfl; have cz2 := hbxf.here.cell 2 _ rfl; have fz0 := Lib.frozen_of_heap hbxf.here 0; have fz1 := Lib.frozen_of_heap hbxf.here 1; have fz2 := Lib.frozen_of_heap hbxf.here 2)); clear hBB))
    all_goals (go_wp2_with fail; go_meet; first | exact ⟨newLocV_last of lf HBS.out HBf.out, rfl⟩ | exact ⟨newLocV_early3 hbxf.here of lf (by first | exact HBtm.out.size | exact HBta.out.size | exact HB0.out.size) HGB.out HBf.out, rfl⟩)
  rename World => w3
  clear ka_c0 ka_c1 km_c0 km_c1 km_c2
  obtain ⟨⟨gw0, csw0, Sw0, rfl, kw0, ow0, nw0, lw0, b3⟩, rfl⟩ := hcut
  obtain ⟨Aw0, cw0, ew0⟩ := ownM_form ow0.here
  injection ew0 with ew0
  subst ew0
  have bb3 := Below.next bb2 b3
  replace ka := ka.below b3
  replace km := km.below b3
  have ka_c0 := ka.here.cell 0 _ rfl
  have ka_c1 := ka.here.cell 1 _ rfl
  go_upto_region 11 with fail
  go_cut [10] (fun s wx => NewLocV 25 (fun v => OwnT v a) w3 s wx)
  case first =>
    go_wp2_with fail
    refine (toT_new _ a _ hza (RFa.out _ bb3)).mono ?_
    rintro e wt ⟨ut, St, rfl, ot, lt, bt⟩
    obtain ⟨At, ct, rfl⟩ := ownT_form ot.here
    go_wp2_with fail
    go_meet
    exact newLocV_last ot lt (Nat.le_refl _) bt
  rename World => w4
  clear ka_c0 ka_c1
  obtain ⟨gxa, csxa, Sxa, rfl, kxa, oxa, nxa, lxa, b4⟩ := hcut
  obtain ⟨Axa, cxa, exa⟩ := ownT_form oxa.here
  injection exa with exa
  subst exa
  have bb4 := Below.next bb3 b4
  replace ka := ka.below b4
  replace km := km.below b4
  replace kw0 := kw0.below b4
  replace ow0 := ow0.below b4
  have km_c0 := km.here.cell 0 _ rfl
  have km_c1 := km.here.cell 1 _ rfl
  have km_c2 := km.here.cell 2 _ rfl
  go_upto_region 12 with fail
  go_cut [11] (fun s wx => NewLocV 32 (fun v => OwnM v m) w4 s wx)
  case first =>
    go_wp2_with fail
    refine (toM_new _ m _ hzm (RFm.out _ bb4)).mono ?_
    rintro e wt ⟨ut, St, rfl, ot, lt, bt⟩
    obtain ⟨At, ct, rfl⟩ := ownM_form ot.here
    go_wp2_with fail
    go_meet
    exact newLocV_last ot lt (Nat.le_refl _) bt
  rename World => w5
  clear km_c0 km_c1 km_c2
  obtain ⟨gxm, csxm, Sxm, rfl, kxm, oxm, nxm, lxm, b5⟩ := hcut
  obtain ⟨Axm, cxm, exm⟩ := ownM_form oxm.here
  injection exm with exm
  subst exm
  have bb5 := Below.next bb4 b5
  replace ka := ka.below b5
  replace km := km.below b5
  replace kw0 := kw0.below b5
  replace ow0 := ow0.below b5
  replace kxa := kxa.below b5
  replace oxa := oxa.below b5
  have kxa_c0 := kxa.here.cell 0 _ rfl
  have kxa_c1 := kxa.here.cell 1 _ rfl
  have kxm_c0 := kxm.here.cell 0 _ rfl
  have kxm_c1 := kxm.here.cell 1 _ rfl
  have kxm_c2 := kxm.here.cell 2 _ rfl
  go_upto_region 13 with fail
  go_cut [12, 13] (fun s t1 wx => NewLocV 32 (fun v => OwnM v R0) w5 s wx ∧ t1 = .bool R1)
  case first =>
    go_wp2_with fail
    refine (HI.out _ _ _ oxa.here oxm.here (HT0.out.below bb5) (HT1.out.below bb5)).mono ?_
    rintro e wf ⟨uf, Sf, rfl, of, lf, bf⟩
    obtain ⟨Af, cf, rfl⟩ := ownM_form of.here
    go_wp2_with fail
    go_meet
    exact ⟨newLocV_last of lf (Nat.le_refl _) bf, rfl⟩
  rename World => w6
  clear kxa_c0 kxa_c1 kxm_c0 kxm_c1 kxm_c2
  obtain ⟨⟨gg0, csg0, Sg0, rfl, kg0, og0, ng0, lg0, b6⟩, rfl⟩ := hcut
  obtain ⟨Ag0, cg0, eg0⟩ := ownM_form og0.here
  injection eg0 with eg0
  subst eg0
  have bb6 := Below.next bb5 b6
  replace ka := ka.below b6
  replace km := km.below b6
  replace kw0 := kw0.below b6
  replace ow0 := ow0.below b6
  replace kxa := kxa.below b6
  replace oxa := oxa.below b6
  replace kxm := kxm.below b6
  replace oxm := oxm.below b6
  have kg0_c0 := kg0.here.cell 0 _ rfl
  have kg0_c1 := kg0.here.cell 1 _ rfl
  have kg0_c2 := kg0.here.cell 2 _ rfl
  have kw0_c0 := kw0.here.cell 0 _ rfl
  have kw0_c1 := kw0.here.cell 1 _ rfl
  have kw0_c2 := kw0.here.cell 2 _ rfl
  go_wp2_with fail
  clear kg0_c0 kg0_c1 kg0_c2 kw0_c0 kw0_c1 kw0_c2
  refine (eqM_cal _ _ R0 R0 _ (capM_of (by omega)) (OwnM.rd og0.here) (OwnM.rd ow0.here)).mono ?_
  rintro e w7 ⟨rfl, b7⟩
  rw [decide_refl]
  have bb7 := Below.next bb6 b7
  replace ka := ka.below b7
  replace km := km.below b7
  replace kw0 := kw0.below b7
  replace ow0 := ow0.below b7
  replace kxa := kxa.below b7
  replace oxa := oxa.below b7
  replace kxm := kxm.below b7
  replace oxm := oxm.below b7
  replace kg0 := kg0.below b7
  replace og0 := og0.below b7
  have ka_c0 := ka.here.cell 0 _ rfl
  have ka_c1 := ka.here.cell 1 _ rfl
  have kxa_c0 := kxa.here.cell 0 _ rfl
  have kxa_c1 := kxa.here.cell 1 _ rfl
  go_wp2_with fail
  have HB0 := Lib.hid (show Below w7.heap.size w7 w7.drew from (Below.refl _ _).drew)
  have KL := Lib.hid (show ∀ W, Below w7.heap.size w7 W → W.cell? ⟨w.heap.size, 0, none⟩ = some (.string a.1) ∧ W.cell? ⟨w.heap.size, 1, none⟩ = some (.slice Aa a.2.length ca) ∧ W.cell? ⟨gxa, 0, none⟩ = some (.string a.1) ∧ W.cell? ⟨gxa, 1, none⟩ = some (.slice Axa a.2.length cxa) ∧ Hid (Below w7.heap.size w7 W) from
    fun W hb => ⟨(ka.below hb).here.cell 0 _ rfl, (ka.below hb).here.cell 1 _ rfl, (kxa.below hb).here.cell 0 _ rfl, (kxa.below hb).here.cell 1 _ rfl, Lib.hid hb⟩)
  have BBF := Lib.hid (show ∀ W, Below w7.heap.size w7 W → Below w.heap.size w W from fun W hb => Below.next bb7 hb)
  have OXF := Lib.hid (show ∀ W, Below w7.heap.size w7 W → OwnT (.agg #[.string a.1, .slice Axa a.2.length cxa]) a W from fun W hb => (oxa.below hb).here)
  clear ka_c0 ka_c1 kxa_c0 kxa_c1
  go_region_held3 (fun W => W.cell? ⟨w.heap.size, 0, none⟩ = some (.string a.1) ∧ W.cell? ⟨w.heap.size, 1, none⟩ = some (.slice Aa a.2.length ca) ∧ W.cell? ⟨gxa, 0, none⟩ = some (.string a.1) ∧ W.cell? ⟨gxa, 1, none⟩ = some (.slice Axa a.2.length cxa) ∧ Hid (Below w7.heap.size w7 W))
    ((refine KL.out _ ?_; (first | exact HBe.out | exact HBt.out | exact HB0.out | fail)))
    (first
      | (go_at_call 48; (have hBB := (‹_ ∧ _ ∧ _ ∧ _ ∧ Hid (Below w7.heap.size w7 _)›).2.2.2.2); (with_reducible refine (toT_new _ a _ hza (RFa.out _ (BBF.out _ hBB.out))).mono ?_); rintro e wt ⟨t, St, rfl, ot, lt, bt⟩; have HBt := Lib.hid (Below.next hBB.out bt); clear hBB)
      | (go_at_call 50; (have hBB := (‹_ ∧ _ ∧ _ ∧ _ ∧ Hid (Below w7.heap.size w7 _)›).2.2.2.2); (with_reducible refine (eqT_cal _ _ a a _ (capTS_of hza) (OwnT.rd (OXF.out _ hBB.out)) (OwnT.rd ot.here)).mono ?_); rintro e w8 ⟨rfl, be⟩; rw [decide_refl]; have HBe := Lib.hid (Below.next hBB.out be); clear hBB))
  have b8 := HBe.out
  have bb8 := Below.next bb7 b8
  replace ka := ka.below b8
  replace km := km.below b8
  replace kw0 := kw0.below b8
  replace ow0 := ow0.below b8
  replace kxa := kxa.below b8
  replace oxa := oxa.below b8
  replace kxm := kxm.below b8
  replace oxm := oxm.below b8
  replace kg0 := kg0.below b8
  replace og0 := og0.below b8
  clear HB0 KL BBF OXF HBt HBe ot lt
  have km_c0 := km.here.cell 0 _ rfl
  have km_c1 := km.here.cell 1 _ rfl
  have km_c2 := km.here.cell 2 _ rfl
  have kxm_c0 := kxm.here.cell 0 _ rfl
  have kxm_c1 := kxm.here.cell 1 _ rfl
  have kxm_c2 := kxm.here.cell 2 _ rfl
  go_wp2_with fail
  have HB0 := Lib.hid (show Below w8.heap.size w8 w8.drew from (Below.refl _ _).drew)
  have KL := Lib.hid (show ∀ W, Below w8.heap.size w8 W → W.cell? ⟨w.heap.size + 1, 0, none⟩ = some (.string m.1) ∧ W.cell? ⟨w.heap.size + 1, 1, none⟩ = some (.bool m.2.1) ∧ W.cell? ⟨w.heap.size + 1, 2, none⟩ = some (.slice Am m.2.2.length cm) ∧ W.cell? ⟨gxm, 0, none⟩ = some (.string m.1) ∧ W.cell? ⟨gxm, 1, none⟩ = some (.bool m.2.1) ∧ W.cell? ⟨gxm, 2, none⟩ = some (.slice Axm m.2.2.length cxm) ∧ Hid (Below w8.heap.size w8 W) from
    fun W hb => ⟨(km.below hb).here.cell 0 _ rfl, (km.below hb).here.cell 1 _ rfl, (km.below hb).here.cell 2 _ rfl, (kxm.below hb).here.cell 0 _ rfl, (kxm.below hb).here.cell 1 _ rfl, (kxm.below hb).here.cell 2 _ rfl, Lib.hid hb⟩)
  have BBF := Lib.hid (show ∀ W, Below w8.heap.size w8 W → Below w.heap.size w W from fun W hb => Below.next bb8 hb)
  have OXF := Lib.hid (show ∀ W, Below w8.heap.size w8 W → OwnM (.agg #[.string m.1, .bool m.2.1, .slice Axm m.2.2.length cxm]) m W from fun W hb => (oxm.below hb).here)
  clear km_c0 km_c1 km_c2 kxm_c0 kxm_c1 kxm_c2
  go_region_held3 (fun W => W.cell? ⟨w.heap.size + 1, 0, none⟩ = some (.string m.1) ∧ W.cell? ⟨w.heap.size + 1, 1, none⟩ = some (.bool m.2.1) ∧ W.cell? ⟨w.heap.size + 1, 2, none⟩ = some (.slice Am m.2.2.length cm) ∧ W.cell? ⟨gxm, 0, none⟩ = some (.string m.1) ∧ W.cell? ⟨gxm, 1, none⟩ = some (.bool m.2.1) ∧ W.cell? ⟨gxm, 2, none⟩ = some (.slice Axm m.2.2.length cxm) ∧ Hid (Below w8.heap.size w8 W))
    ((refine KL.out _ ?_; (first | exact HBe.out | exact HBt.out | exact HB0.out | fail)))
    (first
      | (go_at_call 56; (have hBB := (‹_ ∧ _ ∧ _ ∧ _ ∧ _ ∧ _ ∧ Hid (Below w8.heap.size w8 _)›).2.2.2.2.2.2); (with_reducible refine (toM_new _ m _ hzm (RFm.out _ (BBF.out _ hBB.out))).mono ?_); rintro e wt ⟨t, St, rfl, ot, lt, bt⟩; have HBt := Lib.hid (Below.next hBB.out bt); clear hBB)
      | (go_at_call 57; (have hBB := (‹_ ∧ _ ∧ _ ∧ _ ∧ _ ∧ _ ∧ Hid (Below w8.heap.size w8 _)›).2.2.2.2.2.2); (with_reducible refine (eqM_cal _ _ m m _ (capM_of hzm) (OwnM.rd (OXF.out _ hBB.out)) (OwnM.rd ot.here)).mono ?_); rintro e w9 ⟨rfl, be⟩; rw [decide_refl]; have HBe := Lib.hid (Below.next hBB.out be); clear hBB))
  have b9 := HBe.out
  have bb9 := Below.next bb8 b9
  replace ka := ka.below b9
  replace km := km.below b9
  replace kw0 := kw0.below b9
  replace ow0 := ow0.below b9
  replace kxa := kxa.below b9
  replace oxa := oxa.below b9
  replace kxm := kxm.below b9
  replace oxm := oxm.below b9
  replace kg0 := kg0.below b9
  replace og0 := og0.below b9
  clear HB0 KL BBF OXF HBt HBe ot lt
  have z1 := b1.size
  have z2 := b2.size
  have z3 := b3.size
  have z4 := b4.size
  have z5 := b5.size
  have z6 := b6.size
  have z7 := b7.size
  have z8 := b8.size
  have z9 := b9.size
  have AP_xa_xm := Lib.hid (Within.apart lxa lxm (.inl (by omega)))
  have AP_xa_g0 := Lib.hid (Within.apart lxa lg0 (.inl (by omega)))
  have AP_xm_g0 := Lib.hid (Within.apart lxm lg0 (.inl (by omega)))
  have AP_w0_xa := Lib.hid (Within.apart lw0 lxa (.inl (by omega)))
  have AP_w0_xm := Lib.hid (Within.apart lw0 lxm (.inl (by omega)))
  have AP_w0_g0 := Lib.hid (Within.apart lw0 lg0 (.inl (by omega)))
  have F_xa := Lib.hid (Within.from (B := w.heap.size) lxa (by have := bb2.size; omega))
  have N_xa := Lib.hid nxa
  have KX_a_xa := Lib.hid (show ∀ i ∈ [w.heap.size], i ∉ gxa :: Sxa from fun i hi hm => by have h1 := (lxa i hm).1; have h2 := HKa.out; simp at hi; omega)
  have KX_m_xa := Lib.hid (show ∀ i ∈ [w.heap.size + 1], i ∉ gxa :: Sxa from fun i hi hm => by have h1 := (lxa i hm).1; have h2 := HKm.out; simp at hi; omega)
  have F_xm := Lib.hid (Within.from (B := w.heap.size) lxm (by have := bb2.size; omega))
  have N_xm := Lib.hid nxm
  have KX_a_xm := Lib.hid (show ∀ i ∈ [w.heap.size], i ∉ gxm :: Sxm from fun i hi hm => by have h1 := (lxm i hm).1; have h2 := HKa.out; simp at hi; omega)
  have KX_m_xm := Lib.hid (show ∀ i ∈ [w.heap.size + 1], i ∉ gxm :: Sxm from fun i hi hm => by have h1 := (lxm i hm).1; have h2 := HKm.out; simp at hi; omega)
  have F_g0 := Lib.hid (Within.from (B := w.heap.size) lg0 (by have := bb2.size; omega))
  have N_g0 := Lib.hid ng0
  have KX_a_g0 := Lib.hid (show ∀ i ∈ [w.heap.size], i ∉ gg0 :: Sg0 from fun i hi hm => by have h1 := (lg0 i hm).1; have h2 := HKa.out; simp at hi; omega)
  have KX_m_g0 := Lib.hid (show ∀ i ∈ [w.heap.size + 1], i ∉ gg0 :: Sg0 from fun i hi hm => by have h1 := (lg0 i hm).1; have h2 := HKm.out; simp at hi; omega)
  clear z1 z2 z3 z4 z5 z6 z7 z8 z9
  have kxa_c0 := kxa.here.cell 0 _ rfl
  have kxa_c1 := kxa.here.cell 1 _ rfl
  go_wp2_with fail
  clear kxa_c0 kxa_c1
  refine (markT_cal _ a _ (1) _ (by omega) (by omega) oxa).mono ?_
  rintro e w10 ⟨rfl, mkxa, c10⟩
  clear oxa
  have bb10 := below_chg bb9 c10 bb9.size (fun i hi => F_xa.out i (List.mem_cons_of_mem _ hi))
  replace ka := ka.chg c10 (fun i hi hm => KX_a_xa.out i hi (List.mem_cons_of_mem _ hm))
  replace km := km.chg c10 (fun i hi hm => KX_m_xa.out i hi (List.mem_cons_of_mem _ hm))
  replace kw0 := kw0.chg c10 (fun i hi hm => AP_w0_xa.out i (by simp at hi; subst hi; exact List.mem_cons_self ..) (List.mem_cons_of_mem _ hm))
  replace ow0 := ow0.chg c10 (fun i hi hm => AP_w0_xa.out i (List.mem_cons_of_mem _ hi) (List.mem_cons_of_mem _ hm))
  replace kxa := kxa.chg c10 (fun i hi hm => by simp at hi; subst hi; exact N_xa.out hm)
  replace kxm := kxm.chg c10 (fun i hi hm => (apart_symm AP_xa_xm.out) i (by simp at hi; subst hi; exact List.mem_cons_self ..) (List.mem_cons_of_mem _ hm))
  replace oxm := oxm.chg c10 (fun i hi hm => (apart_symm AP_xa_xm.out) i (List.mem_cons_of_mem _ hi) (List.mem_cons_of_mem _ hm))
  replace kg0 := kg0.chg c10 (fun i hi hm => (apart_symm AP_xa_g0.out) i (by simp at hi; subst hi; exact List.mem_cons_self ..) (List.mem_cons_of_mem _ hm))
  replace og0 := og0.chg c10 (fun i hi hm => (apart_symm AP_xa_g0.out) i (List.mem_cons_of_mem _ hi) (List.mem_cons_of_mem _ hm))
  have kxm_c0 := kxm.here.cell 0 _ rfl
  have kxm_c1 := kxm.here.cell 1 _ rfl
  have kxm_c2 := kxm.here.cell 2 _ rfl
  go_wp2_with fail
  clear kxm_c0 kxm_c1 kxm_c2
  refine (markM_cal _ m _ (1 + mkT a) _ (by omega) (by omega) oxm).mono ?_
  rintro e w11 ⟨rfl, mkxm, c11⟩
  clear oxm
  have bb11 := below_chg bb10 c11 bb10.size (fun i hi => F_xm.out i (List.mem_cons_of_mem _ hi))
  replace ka := ka.chg c11 (fun i hi hm => KX_a_xm.out i hi (List.mem_cons_of_mem _ hm))
  replace km := km.chg c11 (fun i hi hm => KX_m_xm.out i hi (List.mem_cons_of_mem _ hm))
  replace kw0 := kw0.chg c11 (fun i hi hm => AP_w0_xm.out i (by simp at hi; subst hi; exact List.mem_cons_self ..) (List.mem_cons_of_mem _ hm))
  replace ow0 := ow0.chg c11 (fun i hi hm => AP_w0_xm.out i (List.mem_cons_of_mem _ hi) (List.mem_cons_of_mem _ hm))
  replace kxa := kxa.chg c11 (fun i hi hm => AP_xa_xm.out i (by simp at hi; subst hi; exact List.mem_cons_self ..) (List.mem_cons_of_mem _ hm))
  replace kxm := kxm.chg c11 (fun i hi hm => by simp at hi; subst hi; exact N_xm.out hm)
  replace kg0 := kg0.chg c11 (fun i hi hm => (apart_symm AP_xm_g0.out) i (by simp at hi; subst hi; exact List.mem_cons_self ..) (List.mem_cons_of_mem _ hm))
  replace og0 := og0.chg c11 (fun i hi hm => (apart_symm AP_xm_g0.out) i (List.mem_cons_of_mem _ hi) (List.mem_cons_of_mem _ hm))
  replace mkxa := mkxa.chg c11 (fun i hi hm => AP_xa_xm.out i (List.mem_cons_of_mem _ hi) (List.mem_cons_of_mem _ hm))
  have hk : decide (((1 + mkT a + mkM m) : Int) < 0) = false := decide_eq_false (by omega)
  have kg0_c0 := kg0.here.cell 0 _ rfl
  have kg0_c1 := kg0.here.cell 1 _ rfl
  have kg0_c2 := kg0.here.cell 2 _ rfl
  have kw0_c0 := kw0.here.cell 0 _ rfl
  have kw0_c1 := kw0.here.cell 1 _ rfl
  have kw0_c2 := kw0.here.cell 2 _ rfl
  go_wp2_with fail
  clear kg0_c0 kg0_c1 kg0_c2 kw0_c0 kw0_c1 kw0_c2
  refine (eqM_cal _ _ R0 R0 _ (capM_of (by omega)) (OwnM.rd og0.here) (OwnM.rd ow0.here)).mono ?_
  rintro e w12 ⟨rfl, b12⟩
  rw [decide_refl]
  have bb12 := Below.next bb11 b12
  replace ka := ka.below b12
  replace km := km.below b12
  replace kw0 := kw0.below b12
  replace ow0 := ow0.below b12
  replace kxa := kxa.below b12
  replace kxm := kxm.below b12
  replace kg0 := kg0.below b12
  replace og0 := og0.below b12
  replace mkxa := mkxa.below b12
  replace mkxm := mkxm.below b12
  clear hk
  have kg0_c0 := kg0.here.cell 0 _ rfl
  have kg0_c1 := kg0.here.cell 1 _ rfl
  have kg0_c2 := kg0.here.cell 2 _ rfl
  go_wp2_with fail
  clear kg0_c0 kg0_c1 kg0_c2
  refine (markM_cal _ R0 _ (1) _ (by omega) (by omega) og0).mono ?_
  rintro e w13 ⟨rfl, mkg0, c13⟩
  clear og0
  have bb13 := below_chg bb12 c13 bb12.size (fun i hi => F_g0.out i (List.mem_cons_of_mem _ hi))
  replace ka := ka.chg c13 (fun i hi hm => KX_a_g0.out i hi (List.mem_cons_of_mem _ hm))
  replace km := km.chg c13 (fun i hi hm => KX_m_g0.out i hi (List.mem_cons_of_mem _ hm))
  replace kw0 := kw0.chg c13 (fun i hi hm => AP_w0_g0.out i (by simp at hi; subst hi; exact List.mem_cons_self ..) (List.mem_cons_of_mem _ hm))
  replace ow0 := ow0.chg c13 (fun i hi hm => AP_w0_g0.out i (List.mem_cons_of_mem _ hi) (List.mem_cons_of_mem _ hm))
  replace kxa := kxa.chg c13 (fun i hi hm => AP_xa_g0.out i (by simp at hi; subst hi; exact List.mem_cons_self ..) (List.mem_cons_of_mem _ hm))
  replace kxm := kxm.chg c13 (fun i hi hm => AP_xm_g0.out i (by simp at hi; subst hi; exact List.mem_cons_self ..) (List.mem_cons_of_mem _ hm))
  replace kg0 := kg0.chg c13 (fun i hi hm => by simp at hi; subst hi; exact N_g0.out hm)
  replace mkxa := mkxa.chg c13 (fun i hi hm => AP_xa_g0.out i (List.mem_cons_of_mem _ hi) (List.mem_cons_of_mem _ hm))
  replace mkxm := mkxm.chg c13 (fun i hi hm => AP_xm_g0.out i (List.mem_cons_of_mem _ hi) (List.mem_cons_of_mem _ hm))
  have kg0_c0 := kg0.here.cell 0 _ rfl
  have kg0_c1 := kg0.here.cell 1 _ rfl
  have kg0_c2 := kg0.here.cell 2 _ rfl
  go_wp2_with fail
  clear kg0_c0 kg0_c1 kg0_c2
  refine (heldM_cal _ R0 (1) _ (by omega) (by omega) mkg0.here).mono ?_
  rintro e w14 ⟨rfl, b14⟩
  have bb14 := Below.next bb13 b14
  replace ka := ka.below b14
  replace km := km.below b14
  replace kw0 := kw0.below b14
  replace ow0 := ow0.below b14
  replace kxa := kxa.below b14
  replace kxm := kxm.below b14
  replace kg0 := kg0.below b14
  replace mkxa := mkxa.below b14
  replace mkxm := mkxm.below b14
  replace mkg0 := mkg0.below b14
  have hq14 : decide ((1 : Int) + mkM R0 < 0) = false := decide_eq_false (by omega)
  have ka_c0 := ka.here.cell 0 _ rfl
  have ka_c1 := ka.here.cell 1 _ rfl
  have km_c0 := km.here.cell 0 _ rfl
  have km_c1 := km.here.cell 1 _ rfl
  have km_c2 := km.here.cell 2 _ rfl
  go_upto_region 33 with fail
  go_cut [17, 18] (fun s t1 wx => NewLocV 32 (fun v => OwnM v R0) w14 s wx ∧ t1 = .bool R1)
  case first =>
    have HB0 := Lib.hid (show Below w14.heap.size w14 w14.drew from (Below.refl _ _).drew)
    have KL := Lib.hid (show ∀ W, Below w14.heap.size w14 W → W.cell? ⟨w.heap.size, 0, none⟩ = some (.string a.1) ∧ W.cell? ⟨w.heap.size, 1, none⟩ = some (.slice Aa a.2.length ca) ∧ W.cell? ⟨w.heap.size + 1, 0, none⟩ = some (.string m.1) ∧ W.cell? ⟨w.heap.size + 1, 1, none⟩ = some (.bool m.2.1) ∧ W.cell? ⟨w.heap.size + 1, 2, none⟩ = some (.slice Am m.2.2.length cm) ∧ Hid (Below w14.heap.size w14 W) from
      fun W hb => ⟨(ka.below hb).here.cell 0 _ rfl, (ka.below hb).here.cell 1 _ rfl, (km.below hb).here.cell 0 _ rfl, (km.below hb).here.cell 1 _ rfl, (km.below hb).here.cell 2 _ rfl, Lib.hid hb⟩)
    have BBF := Lib.hid (show ∀ W, Below w14.heap.size w14 W → Below w.heap.size w W from fun W hb => Below.next bb14 hb)
    clear ka_c0 ka_c1 km_c0 km_c1 km_c2
    go_region_held3 (fun W => W.cell? ⟨w.heap.size, 0, none⟩ = some (.string a.1) ∧ W.cell? ⟨w.heap.size, 1, none⟩ = some (.slice Aa a.2.length ca) ∧ W.cell? ⟨w.heap.size + 1, 0, none⟩ = some (.string m.1) ∧ W.cell? ⟨w.heap.size + 1, 1, none⟩ = some (.bool m.2.1) ∧ W.cell? ⟨w.heap.size + 1, 2, none⟩ = some (.slice Am m.2.2.length cm) ∧ Hid (Below w14.heap.size w14 W))
      ((refine KL.out _ ?_; (first | exact HBf.out | exact HBtm.out | exact HBta.out | exact HB0.out | exact below_al HBf.out _ | exact below_al HBtm.out _ | exact below_al HBta.out _ | exact below_al HB0.out _ | exact below_set3 HBf.out (by first | exact HBtm.out.size | exact HBta.out.size | exact HB0.out.size) | fail)))
      (first
        | (go_at_call 48; (have hBB := (‹_ ∧ _ ∧ _ ∧ _ ∧ _ ∧ Hid (Below w14.heap.size w14 _)›).2.2.2.2.2); (with_reducible refine (toT_new _ a _ hza (RFa.out _ (BBF.out _ hBB.out))).mono ?_); rintro e wta ⟨ta, Sta, rfl, ota, lta, bta⟩; have HBta := Lib.hid (Below.next hBB.out bta); (try have hbxa : At [w14.heap.size] (BoxAt w14.heap.size #[.string ⟨#[]⟩, .bool false, .slice none 0 0] 32) wta := At.below (box_new w14.drew _ _) bta); clear hBB)
        | (go_at_call 56; (have hBB := (‹_ ∧ _ ∧ _ ∧ _ ∧ _ ∧ Hid (Below w14.heap.size w14 _)›).2.2.2.2.2); (with_reducible refine (toM_new _ m _ hzm (RFm.out _ (BBF.out _ hBB.out))).mono ?_); rintro e wtm ⟨tm, Stm, rfl, otm, ltm, btm⟩; have HBtm := Lib.hid (Below.next hBB.out btm); (have otam := At.below (by first | exact ota | exact At.below ota (below_al (Below.refl _ _) _)) btm); (first | have hbxm := At.below (box_new _ _ _) btm | have hbxm := At.below hbxa btm | skip); clear hBB)
        | (go_at_call 38; (have hBB := (‹_ ∧ _ ∧ _ ∧ _ ∧ _ ∧ Hid (Below w14.heap.size w14 _)›).2.2.2.2.2); (with_reducible refine (HI.out _ _ _ (At.here (by first | exact otam | exact At.below otam (below_al (Below.refl _ _) _))) (At.here (by first | exact otm | exact At.below otm (below_al (Below.refl _ _) _))) (HT0.out.below (BBF.out _ hBB.out)) (HT1.out.below (BBF.out _ hBB.out))).mono ?_); rintro e wf ⟨uf, Sf, rfl, of, lf, bf⟩; have HBf := Lib.hid (Below.next hBB.out bf); have HBS := Lib.hid hBB.out.size; (first | have hbxg := At.below_lt (box_new _ _ _) bf | have hbxg := At.below_lt hbxm bf | skip); (try (have hbxf := hbxg.1; have HGB := Lib.hid hbxg.2; clear hbxg)); obtain ⟨Af, cf, rfl⟩ := ownM_form of.here; (try (have cz0 := hbxf.here.cell 0 _ rfl; have cz1 := hbxf.here.cell 1 _ rfl; have cz2 := hbxf.here.cell 2 _ rfl; have fz0 := Lib.frozen_of_heap hbxf.here 0; have fz1 := Lib.frozen_of_heap hbxf.here 1; have fz2 := Lib.frozen_of_heap hbxf.here 2)); clear hBB))
    all_goals (go_wp2_with fail; go_meet; first | exact ⟨newLocV_last of lf HBS.out HBf.out, rfl⟩ | exact ⟨newLocV_early3 hbxf.here of lf (by first | exact HBtm.out.size | exact HBta.out.size | exact HB0.out.size) HGB.out HBf.out, rfl⟩)
  rename World => w15
  clear ka_c0 ka_c1 km_c0 km_c1 km_c2
  obtain ⟨⟨gh0, csh0, Sh0, rfl, kh0, oh0, nh0, lh0, b15⟩, rfl⟩ := hcut
  obtain ⟨Ah0, ch0, eh0⟩ := ownM_form oh0.here
  injection eh0 with eh0
  subst eh0
  have bb15 := Below.next bb14 b15
  replace ka := ka.below b15
  replace km := km.below b15
  replace kw0 := kw0.below b15
  replace ow0 := ow0.below b15
  replace kxa := kxa.below b15
  replace kxm := kxm.below b15
  replace kg0 := kg0.below b15
  replace mkxa := mkxa.below b15
  replace mkxm := mkxm.below b15
  replace mkg0 := mkg0.below b15
  have kh0_c0 := kh0.here.cell 0 _ rfl
  have kh0_c1 := kh0.here.cell 1 _ rfl
  have kh0_c2 := kh0.here.cell 2 _ rfl
  have kw0_c0 := kw0.here.cell 0 _ rfl
  have kw0_c1 := kw0.here.cell 1 _ rfl
  have kw0_c2 := kw0.here.cell 2 _ rfl
  go_wp2_with fail
  clear kh0_c0 kh0_c1 kh0_c2 kw0_c0 kw0_c1 kw0_c2
  refine (eqM_cal _ _ R0 R0 _ (capM_of (by omega)) (OwnM.rd oh0.here) (OwnM.rd ow0.here)).mono ?_
  rintro e w16 ⟨rfl, b16⟩
  rw [decide_refl]
  have bb16 := Below.next bb15 b16
  replace ka := ka.below b16
  replace km := km.below b16
  replace kw0 := kw0.below b16
  replace ow0 := ow0.below b16
  replace kxa := kxa.below b16
  replace kxm := kxm.below b16
  replace kg0 := kg0.below b16
  replace mkxa := mkxa.below b16
  replace mkxm := mkxm.below b16
  replace mkg0 := mkg0.below b16
  replace kh0 := kh0.below b16
  replace oh0 := oh0.below b16
  have kg0_c0 := kg0.here.cell 0 _ rfl
  have kg0_c1 := kg0.here.cell 1 _ rfl
  have kg0_c2 := kg0.here.cell 2 _ rfl
  go_wp2_with fail
  clear kg0_c0 kg0_c1 kg0_c2
  refine (heldM_cal _ R0 (1) _ (by omega) (by omega) mkg0.here).mono ?_
  rintro e w17 ⟨rfl, b17⟩
  have bb17 := Below.next bb16 b17
  replace ka := ka.below b17
  replace km := km.below b17
  replace kw0 := kw0.below b17
  replace ow0 := ow0.below b17
  replace kxa := kxa.below b17
  replace kxm := kxm.below b17
  replace kg0 := kg0.below b17
  replace mkxa := mkxa.below b17
  replace mkxm := mkxm.below b17
  replace mkg0 := mkg0.below b17
  replace kh0 := kh0.below b17
  replace oh0 := oh0.below b17
  have hq17 : decide ((1 : Int) + mkM R0 < 0) = false := decide_eq_false (by omega)
  go_wp2
  go_ret
  exact ⟨rfl, bb17⟩
end Go.Proofs.YtehkknphcflofaaGreatDoor
