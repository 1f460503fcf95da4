/-
  The law FnExactMoneySub of chapter 10, walked: it returns true wherever both packages answer alike.
  The law FnExactMoneyNeg of chapter 10, walked: it returns true wherever both packages answer alike.
  The law FnExactMoneyTimes of chapter 10, walked: it returns true wherever both packages answer alike.
  The law FnExactMoneyCmp of chapter 10, walked: it returns true wherever both packages answer alike.
  What errors.Is answers over the sentinel impl.errZeroDivisor: true for itself, false for nil.
  What a law needs whose row names one package-level variable, the sentinel impl.errZeroDivisor, and lists it.
  A world for the witness: the settled one, the table of currencies and the sentinel holding what their initialisers lay.
  Plain facts on fractions: a signed numerator, the limbs of a denominator.
  Values of type impl.Rat: what laws.toRat, eqRat, markRat, heldRat and szRat return.
  The words that kind R, impl.Rat, answers to: to, eq, sz, mark, held.
-/
import Derived.Deep.RegionHeld3
import Derived.Deep.DeepCutAuto
import Derived.LaidEql
import Derived.Stop.Asserts
import Derived.RowKitTokens
import Derived.Test.YtcenmdiblbooeaaDoorCards
import Derived.Test.YtcenmdiblbooeaaDoorTie
import Derived.Deep.DeepHandedRow
import Derived.Stop.LaidErr
import Derived.Test.YtcenmdiblbooeaaDoorJA8
namespace Go.Proofs.YtcenmdiblbooeaaDoor
open Go.RowKit

set_option maxHeartbeats 4000000 in
set_option maxRecDepth 100000 in
theorem lawMoneySub_walk (va : Value) (vb : Value) (a : MI) (b : MI) (R0 : MI) (R1 : Bool) (w : World)
    (hS : ∀ (ua : Value) (ub : Value) (W : World), OwnM ua a W → OwnM ub b W → Calls Tryd.prog 29 #[ua, ub] W (PostMb R0 R1 W))
    (hI : ∀ (ua : Value) (ub : Value) (W : World), OwnM ua a W → OwnM ub b W → CurTab W → Calls Tryd.prog 30 #[ua, ub] W (PostMb R0 R1 W))
    (ht0 : CurTab w) (hl : szM a + szM b ≤ 1048576) (hlR0 : szM R0 ≤ 1048576) (ra : RdM w va a) (rb : RdM w vb b) :
    Calls Tryd.prog 8 #[va, vb] w fun e w' => e = .returned (.bool true) ∧ Below w.heap.size w w' := by
  have HS := Lib.hid hS
  have HI := Lib.hid hI
  clear hS hI
  have HT0 := Lib.hid ht0
  clear ht0
  have hsa := szM_nonneg a
  have hsb := szM_nonneg b
  have hsR0 := szM_nonneg R0
  have hma := mkM_range a
  have hmb := mkM_range b
  have hmR0 := mkM_range R0
  have hza : szM a ≤ 1048576 := by omega
  obtain ⟨Aa, ca, rfl⟩ := rdM_form ra
  have hzb : szM b ≤ 1048576 := by omega
  obtain ⟨Ab, cb, rfl⟩ := rdM_form rb
  have bb0 : Below w.heap.size w ((w.alloc (.cells #[.string a.1, .bool a.2.1, .slice Aa a.2.2.length ca] 27)).alloc (.cells #[.string b.1, .bool b.2.1, .slice Ab b.2.2.length cb] 27)) := below_al (below_al (Below.refl _ _) _) _
  have ka := (box_new w #[.string a.1, .bool a.2.1, .slice Aa a.2.2.length ca] 27).below (below_al (Below.refl _ _) (.cells #[.string b.1, .bool b.2.1, .slice Ab b.2.2.length cb] 27))
  have kb := (box_new (w.alloc (.cells #[.string a.1, .bool a.2.1, .slice Aa a.2.2.length ca] 27)) #[.string b.1, .bool b.2.1, .slice Ab b.2.2.length cb] 27)
  rw [show (w.alloc (.cells #[.string a.1, .bool a.2.1, .slice Aa a.2.2.length ca] 27)).heap.size = w.heap.size + 1 by simp] at kb
  have RFa : Hid (∀ W, Below w.heap.size w W → RdM W (.agg #[.string a.1, .bool a.2.1, .slice Aa a.2.2.length ca]) a) := Lib.hid fun W hb => ra.below hb
  have RFb : Hid (∀ W, Below w.heap.size w W → RdM W (.agg #[.string b.1, .bool b.2.1, .slice Ab b.2.2.length cb]) b) := Lib.hid fun W hb => rb.below hb
  go_enter Tryd.func8, Tryd.ntmps8
  have ka_c0 := ka.here.cell 0 _ rfl
  have ka_c1 := ka.here.cell 1 _ rfl
  have ka_c2 := ka.here.cell 2 _ rfl
  go_wp2_with fail
  clear ka_c0 ka_c1 ka_c2
  refine (szM_cal _ a (1048576) _ (capM_of hza) (by omega) (by omega) (RFa.out _ bb0)).mono ?_
  rintro e w1 ⟨rfl, b1⟩
  rw [leftI_of (by omega)]
  have bb1 := Below.next bb0 b1
  replace ka := ka.below b1
  replace kb := kb.below b1
  have hn : decide (((1048576 : Int) - szM a : Int) < 0) = false := decide_eq_false (by omega)
  have kb_c0 := kb.here.cell 0 _ rfl
  have kb_c1 := kb.here.cell 1 _ rfl
  have kb_c2 := kb.here.cell 2 _ rfl
  go_wp2_with fail
  clear kb_c0 kb_c1 kb_c2
  refine (szM_cal _ b (1048576 - szM a) _ (capM_of hzb) (by omega) (by omega) (RFb.out _ bb1)).mono ?_
  rintro e w2 ⟨rfl, b2⟩
  rw [leftI_of (by omega)]
  have bb2 := Below.next bb1 b2
  replace ka := ka.below b2
  replace kb := kb.below b2
  clear hn
  have hn : decide (((1048576 : Int) - szM a - szM b : Int) < 0) = false := decide_eq_false (by omega)
  have HKa := Lib.hid (ka.lt (w.heap.size) (by simp))
  have HKb := Lib.hid (kb.lt (w.heap.size + 1) (by simp))
  have ka_c0 := ka.here.cell 0 _ rfl
  have ka_c1 := ka.here.cell 1 _ rfl
  have ka_c2 := ka.here.cell 2 _ rfl
  have kb_c0 := kb.here.cell 0 _ rfl
  have kb_c1 := kb.here.cell 1 _ rfl
  have kb_c2 := kb.here.cell 2 _ rfl
  go_upto_region 8 with fail
  go_cut [6, 7] (fun s t1 wx => NewLocV 32 (fun v => OwnM v R0) w2 s wx ∧ t1 = .bool R1)
  case first =>
    have HB0 := Lib.hid (show Below w2.heap.size w2 w2.drew from (Below.refl _ _).drew)
    have KL := Lib.hid (show ∀ W, Below w2.heap.size w2 W → W.cell? ⟨w.heap.size, 0, none⟩ = some (.string a.1) ∧ W.cell? ⟨w.heap.size, 1, none⟩ = some (.bool a.2.1) ∧ W.cell? ⟨w.heap.size, 2, none⟩ = some (.slice Aa a.2.2.length ca) ∧ W.cell? ⟨w.heap.size + 1, 0, none⟩ = some (.string b.1) ∧ W.cell? ⟨w.heap.size + 1, 1, none⟩ = some (.bool b.2.1) ∧ W.cell? ⟨w.heap.size + 1, 2, none⟩ = some (.slice Ab b.2.2.length cb) ∧ Hid (Below w2.heap.size w2 W) from
      fun W hb => ⟨(ka.below hb).here.cell 0 _ rfl, (ka.below hb).here.cell 1 _ rfl, (ka.below hb).here.cell 2 _ rfl, (kb.below hb).here.cell 0 _ rfl, (kb.below hb).here.cell 1 _ rfl, (kb.below hb).here.cell 2 _ rfl, Lib.hid hb⟩)
    have BBF := Lib.hid (show ∀ W, Below w2.heap.size w2 W → Below w.heap.size w W from fun W hb => Below.next bb2 hb)
    clear ka_c0 ka_c1 ka_c2 kb_c0 kb_c1 kb_c2
    go_region_held3 (fun W => W.cell? ⟨w.heap.size, 0, none⟩ = some (.string a.1) ∧ W.cell? ⟨w.heap.size, 1, none⟩ = some (.bool a.2.1) ∧ W.cell? ⟨w.heap.size, 2, none⟩ = some (.slice Aa a.2.2.length ca) ∧ W.cell? ⟨w.heap.size + 1, 0, none⟩ = some (.string b.1) ∧ W.cell? ⟨w.heap.size + 1, 1, none⟩ = some (.bool b.2.1) ∧ W.cell? ⟨w.heap.size + 1, 2, none⟩ = some (.slice Ab b.2.2.length cb) ∧ Hid (Below w2.heap.size w2 W))
      ((refine KL.out _ ?_; (first | exact HBf.out | exact HBtb.out | exact HBta.out | exact HB0.out | exact below_al HBf.out _ | exact below_al HBtb.out _ | exact below_al HBta.out _ | exact below_al HB0.out _ | exact below_set3 HBf.out (by first | exact HBtb.out.size | exact HBta.out.size | exact HB0.out.size) | fail)))
      (first
        | (go_at_call 18; (have hBB := (‹_ ∧ _ ∧ _ ∧ _ ∧ _ ∧ _ ∧ Hid (Below w2.heap.size w2 _)›).2.2.2.2.2.2); (with_reducible refine (toM_new _ a _ hza (RFa.out _ (BBF.out _ hBB.out))).mono ?_); rintro e wta ⟨ta, Sta, rfl, ota, lta, bta⟩; have HBta := Lib.hid (Below.next hBB.out bta); (try have hbxa : At [w2.heap.size] (BoxAt w2.heap.size #[.string ⟨#[]⟩, .bool false, .slice none 0 0] 32) wta := At.below (box_new w2.drew _ _) bta); clear hBB)
        | (go_at_call 18; (have hBB := (‹_ ∧ _ ∧ _ ∧ _ ∧ _ ∧ _ ∧ Hid (Below w2.heap.size w2 _)›).2.2.2.2.2.2); (with_reducible refine (toM_new _ b _ hzb (RFb.out _ (BBF.out _ hBB.out))).mono ?_); rintro e wtb ⟨tb, Stb, rfl, otb, ltb, btb⟩; have HBtb := Lib.hid (Below.next hBB.out btb); (have otab := At.below (by first | exact ota | exact At.below ota (below_al (Below.refl _ _) _)) btb); (first | have hbxb := At.below (box_new _ _ _) btb | have hbxb := At.below hbxa btb | skip); clear hBB)
        | (go_at_call 29; (have hBB := (‹_ ∧ _ ∧ _ ∧ _ ∧ _ ∧ _ ∧ Hid (Below w2.heap.size w2 _)›).2.2.2.2.2.2); (with_reducible refine (HS.out _ _ _ (At.here (by first | exact otab | exact At.below otab (below_al (Below.refl _ _) _))) (At.here (by first | exact otb | exact At.below otb (below_al (Below.refl _ _) _)))).mono ?_); rintro e wf ⟨uf, Sf, rfl, of, lf, bf⟩; have HBf := Lib.hid (Below.next hBB.out bf); have HBS := Lib.hid hBB.out.size; (first | have hbxg := At.below_lt (box_new _ _ _) bf | have hbxg := At.below_lt hbxb bf | skip); (try (have hbxf := hbxg.1; have HGB := Lib.hid hbxg.2; clear hbxg)); obtain ⟨Af, cf, rfl⟩ := ownM_form of.here; (try (have cz0 := hbxf.here.cell 0 _ rfl; have cz1 := hbxf.here.cell 1 _ rfl; have cz2 := hbxf.here.cell 2 _ rfl; have fz0 := Lib.frozen_of_heap hbxf.here 0; have fz1 := Lib.frozen_of_heap hbxf.here 1; have fz2 := Lib.frozen_of_heap hbxf.here 2)); clear hBB))
    all_goals (go_wp2_with fail; go_meet; first | exact ⟨newLocV_last of lf HBS.out HBf.out, rfl⟩ | exact ⟨newLocV_early3 hbxf.here of lf (by first | exact HBtb.out.size | exact HBta.out.size | exact HB0.out.size) HGB.out HBf.out, rfl⟩)
  rename World => w3
  clear ka_c0 ka_c1 ka_c2 kb_c0 kb_c1 kb_c2
  obtain ⟨⟨gw0, csw0, Sw0, rfl, kw0, ow0, nw0, lw0, b3⟩, rfl⟩ := hcut
  obtain ⟨Aw0, cw0, ew0⟩ := ownM_form ow0.here
  injection ew0 with ew0
  subst ew0
  have bb3 := Below.next bb2 b3
  replace ka := ka.below b3
  replace kb := kb.below b3
  have ka_c0 := ka.here.cell 0 _ rfl
  have ka_c1 := ka.here.cell 1 _ rfl
  have ka_c2 := ka.here.cell 2 _ rfl
  go_upto_region 9 with fail
  go_cut [8] (fun s wx => NewLocV 32 (fun v => OwnM v a) w3 s wx)
  case first =>
    go_wp2_with fail
    refine (toM_new _ a _ hza (RFa.out _ bb3)).mono ?_
    rintro e wt ⟨ut, St, rfl, ot, lt, bt⟩
    obtain ⟨At, ct, rfl⟩ := ownM_form ot.here
    go_wp2_with fail
    go_meet
    exact newLocV_last ot lt (Nat.le_refl _) bt
  rename World => w4
  clear ka_c0 ka_c1 ka_c2
  obtain ⟨gxa, csxa, Sxa, rfl, kxa, oxa, nxa, lxa, b4⟩ := hcut
  obtain ⟨Axa, cxa, exa⟩ := ownM_form oxa.here
  injection exa with exa
  subst exa
  have bb4 := Below.next bb3 b4
  replace ka := ka.below b4
  replace kb := kb.below b4
  replace kw0 := kw0.below b4
  replace ow0 := ow0.below b4
  have kb_c0 := kb.here.cell 0 _ rfl
  have kb_c1 := kb.here.cell 1 _ rfl
  have kb_c2 := kb.here.cell 2 _ rfl
  go_upto_region 10 with fail
  go_cut [9] (fun s wx => NewLocV 32 (fun v => OwnM v b) w4 s wx)
  case first =>
    go_wp2_with fail
    refine (toM_new _ b _ hzb (RFb.out _ bb4)).mono ?_
    rintro e wt ⟨ut, St, rfl, ot, lt, bt⟩
    obtain ⟨At, ct, rfl⟩ := ownM_form ot.here
    go_wp2_with fail
    go_meet
    exact newLocV_last ot lt (Nat.le_refl _) bt
  rename World => w5
  clear kb_c0 kb_c1 kb_c2
  obtain ⟨gxb, csxb, Sxb, rfl, kxb, oxb, nxb, lxb, b5⟩ := hcut
  obtain ⟨Axb, cxb, exb⟩ := ownM_form oxb.here
  injection exb with exb
  subst exb
  have bb5 := Below.next bb4 b5
  replace ka := ka.below b5
  replace kb := kb.below b5
  replace kw0 := kw0.below b5
  replace ow0 := ow0.below b5
  replace kxa := kxa.below b5
  replace oxa := oxa.below b5
  have kxa_c0 := kxa.here.cell 0 _ rfl
  have kxa_c1 := kxa.here.cell 1 _ rfl
  have kxa_c2 := kxa.here.cell 2 _ rfl
  have kxb_c0 := kxb.here.cell 0 _ rfl
  have kxb_c1 := kxb.here.cell 1 _ rfl
  have kxb_c2 := kxb.here.cell 2 _ rfl
  go_upto_region 11 with fail
  go_cut [10, 11] (fun s t1 wx => NewLocV 32 (fun v => OwnM v R0) w5 s wx ∧ t1 = .bool R1)
  case first =>
    go_wp2_with fail
    refine (HI.out _ _ _ oxa.here oxb.here (HT0.out.below bb5)).mono ?_
    rintro e wf ⟨uf, Sf, rfl, of, lf, bf⟩
    obtain ⟨Af, cf, rfl⟩ := ownM_form of.here
    go_wp2_with fail
    go_meet
    exact ⟨newLocV_last of lf (Nat.le_refl _) bf, rfl⟩
  rename World => w6
  clear kxa_c0 kxa_c1 kxa_c2 kxb_c0 kxb_c1 kxb_c2
  obtain ⟨⟨gg0, csg0, Sg0, rfl, kg0, og0, ng0, lg0, b6⟩, rfl⟩ := hcut
  obtain ⟨Ag0, cg0, eg0⟩ := ownM_form og0.here
  injection eg0 with eg0
  subst eg0
  have bb6 := Below.next bb5 b6
  replace ka := ka.below b6
  replace kb := kb.below b6
  replace kw0 := kw0.below b6
  replace ow0 := ow0.below b6
  replace kxa := kxa.below b6
  replace oxa := oxa.below b6
  replace kxb := kxb.below b6
  replace oxb := oxb.below b6
  have kg0_c0 := kg0.here.cell 0 _ rfl
  have kg0_c1 := kg0.here.cell 1 _ rfl
  have kg0_c2 := kg0.here.cell 2 _ rfl
  have kw0_c0 := kw0.here.cell 0 _ rfl
  have kw0_c1 := kw0.here.cell 1 _ rfl
  have kw0_c2 := kw0.here.cell 2 _ rfl
  go_wp2_with fail
  clear kg0_c0 kg0_c1 kg0_c2 kw0_c0 kw0_c1 kw0_c2
  refine (eqM_cal _ _ R0 R0 _ (capM_of (by omega)) (OwnM.rd og0.here) (OwnM.rd ow0.here)).mono ?_
  rintro e w7 ⟨rfl, b7⟩
  rw [decide_refl]
  have bb7 := Below.next bb6 b7
  replace ka := ka.below b7
  replace kb := kb.below b7
  replace kw0 := kw0.below b7
  replace ow0 := ow0.below b7
  replace kxa := kxa.below b7
  replace oxa := oxa.below b7
  replace kxb := kxb.below b7
  replace oxb := oxb.below b7
  replace kg0 := kg0.below b7
  replace og0 := og0.below b7
  have ka_c0 := ka.here.cell 0 _ rfl
  have ka_c1 := ka.here.cell 1 _ rfl
  have ka_c2 := ka.here.cell 2 _ rfl
  have kxa_c0 := kxa.here.cell 0 _ rfl
  have kxa_c1 := kxa.here.cell 1 _ rfl
  have kxa_c2 := kxa.here.cell 2 _ rfl
  go_wp2_with fail
  have HB0 := Lib.hid (show Below w7.heap.size w7 w7.drew from (Below.refl _ _).drew)
  have KL := Lib.hid (show ∀ W, Below w7.heap.size w7 W → W.cell? ⟨w.heap.size, 0, none⟩ = some (.string a.1) ∧ W.cell? ⟨w.heap.size, 1, none⟩ = some (.bool a.2.1) ∧ W.cell? ⟨w.heap.size, 2, none⟩ = some (.slice Aa a.2.2.length ca) ∧ W.cell? ⟨gxa, 0, none⟩ = some (.string a.1) ∧ W.cell? ⟨gxa, 1, none⟩ = some (.bool a.2.1) ∧ W.cell? ⟨gxa, 2, none⟩ = some (.slice Axa a.2.2.length cxa) ∧ Hid (Below w7.heap.size w7 W) from
    fun W hb => ⟨(ka.below hb).here.cell 0 _ rfl, (ka.below hb).here.cell 1 _ rfl, (ka.below hb).here.cell 2 _ rfl, (kxa.below hb).here.cell 0 _ rfl, (kxa.below hb).here.cell 1 _ rfl, (kxa.below hb).here.cell 2 _ rfl, Lib.hid hb⟩)
  have BBF := Lib.hid (show ∀ W, Below w7.heap.size w7 W → Below w.heap.size w W from fun W hb => Below.next bb7 hb)
  have OXF := Lib.hid (show ∀ W, Below w7.heap.size w7 W → OwnM (.agg #[.string a.1, .bool a.2.1, .slice Axa a.2.2.length cxa]) a W from fun W hb => (oxa.below hb).here)
  clear ka_c0 ka_c1 ka_c2 kxa_c0 kxa_c1 kxa_c2
  go_region_held3 (fun W => W.cell? ⟨w.heap.size, 0, none⟩ = some (.string a.1) ∧ W.cell? ⟨w.heap.size, 1, none⟩ = some (.bool a.2.1) ∧ W.cell? ⟨w.heap.size, 2, none⟩ = some (.slice Aa a.2.2.length ca) ∧ W.cell? ⟨gxa, 0, none⟩ = some (.string a.1) ∧ W.cell? ⟨gxa, 1, none⟩ = some (.bool a.2.1) ∧ W.cell? ⟨gxa, 2, none⟩ = some (.slice Axa a.2.2.length cxa) ∧ Hid (Below w7.heap.size w7 W))
    ((refine KL.out _ ?_; (first | exact HBe.out | exact HBt.out | exact HB0.out | fail)))
    (first
      | (go_at_call 18; (have hBB := (‹_ ∧ _ ∧ _ ∧ _ ∧ _ ∧ _ ∧ Hid (Below w7.heap.size w7 _)›).2.2.2.2.2.2); (with_reducible refine (toM_new _ a _ hza (RFa.out _ (BBF.out _ hBB.out))).mono ?_); rintro e wt ⟨t, St, rfl, ot, lt, bt⟩; have HBt := Lib.hid (Below.next hBB.out bt); clear hBB)
      | (go_at_call 20; (have hBB := (‹_ ∧ _ ∧ _ ∧ _ ∧ _ ∧ _ ∧ Hid (Below w7.heap.size w7 _)›).2.2.2.2.2.2); (with_reducible refine (eqM_cal _ _ a a _ (capM_of hza) (OwnM.rd (OXF.out _ hBB.out)) (OwnM.rd ot.here)).mono ?_); rintro e w8 ⟨rfl, be⟩; rw [decide_refl]; have HBe := Lib.hid (Below.next hBB.out be); clear hBB))
  have b8 := HBe.out
  have bb8 := Below.next bb7 b8
  replace ka := ka.below b8
  replace kb := kb.below b8
  replace kw0 := kw0.below b8
  replace ow0 := ow0.below b8
  replace kxa := kxa.below b8
  replace oxa := oxa.below b8
  replace kxb := kxb.below b8
  replace oxb := oxb.below b8
  replace kg0 := kg0.below b8
  replace og0 := og0.below b8
  clear HB0 KL BBF OXF HBt HBe ot lt
  have kb_c0 := kb.here.cell 0 _ rfl
  have kb_c1 := kb.here.cell 1 _ rfl
  have kb_c2 := kb.here.cell 2 _ rfl
  have kxb_c0 := kxb.here.cell 0 _ rfl
  have kxb_c1 := kxb.here.cell 1 _ rfl
  have kxb_c2 := kxb.here.cell 2 _ rfl
  go_wp2_with fail
  have HB0 := Lib.hid (show Below w8.heap.size w8 w8.drew from (Below.refl _ _).drew)
  have KL := Lib.hid (show ∀ W, Below w8.heap.size w8 W → W.cell? ⟨w.heap.size + 1, 0, none⟩ = some (.string b.1) ∧ W.cell? ⟨w.heap.size + 1, 1, none⟩ = some (.bool b.2.1) ∧ W.cell? ⟨w.heap.size + 1, 2, none⟩ = some (.slice Ab b.2.2.length cb) ∧ W.cell? ⟨gxb, 0, none⟩ = some (.string b.1) ∧ W.cell? ⟨gxb, 1, none⟩ = some (.bool b.2.1) ∧ W.cell? ⟨gxb, 2, none⟩ = some (.slice Axb b.2.2.length cxb) ∧ Hid (Below w8.heap.size w8 W) from
    fun W hb => ⟨(kb.below hb).here.cell 0 _ rfl, (kb.below hb).here.cell 1 _ rfl, (kb.below hb).here.cell 2 _ rfl, (kxb.below hb).here.cell 0 _ rfl, (kxb.below hb).here.cell 1 _ rfl, (kxb.below hb).here.cell 2 _ rfl, Lib.hid hb⟩)
  have BBF := Lib.hid (show ∀ W, Below w8.heap.size w8 W → Below w.heap.size w W from fun W hb => Below.next bb8 hb)
  have OXF := Lib.hid (show ∀ W, Below w8.heap.size w8 W → OwnM (.agg #[.string b.1, .bool b.2.1, .slice Axb b.2.2.length cxb]) b W from fun W hb => (oxb.below hb).here)
  clear kb_c0 kb_c1 kb_c2 kxb_c0 kxb_c1 kxb_c2
  go_region_held3 (fun W => W.cell? ⟨w.heap.size + 1, 0, none⟩ = some (.string b.1) ∧ W.cell? ⟨w.heap.size + 1, 1, none⟩ = some (.bool b.2.1) ∧ W.cell? ⟨w.heap.size + 1, 2, none⟩ = some (.slice Ab b.2.2.length cb) ∧ W.cell? ⟨gxb, 0, none⟩ = some (.string b.1) ∧ W.cell? ⟨gxb, 1, none⟩ = some (.bool b.2.1) ∧ W.cell? ⟨gxb, 2, none⟩ = some (.slice Axb b.2.2.length cxb) ∧ Hid (Below w8.heap.size w8 W))
    ((refine KL.out _ ?_; (first | exact HBe.out | exact HBt.out | exact HB0.out | fail)))
    (first
      | (go_at_call 18; (have hBB := (‹_ ∧ _ ∧ _ ∧ _ ∧ _ ∧ _ ∧ Hid (Below w8.heap.size w8 _)›).2.2.2.2.2.2); (with_reducible refine (toM_new _ b _ hzb (RFb.out _ (BBF.out _ hBB.out))).mono ?_); rintro e wt ⟨t, St, rfl, ot, lt, bt⟩; have HBt := Lib.hid (Below.next hBB.out bt); clear hBB)
      | (go_at_call 20; (have hBB := (‹_ ∧ _ ∧ _ ∧ _ ∧ _ ∧ _ ∧ Hid (Below w8.heap.size w8 _)›).2.2.2.2.2.2); (with_reducible refine (eqM_cal _ _ b b _ (capM_of hzb) (OwnM.rd (OXF.out _ hBB.out)) (OwnM.rd ot.here)).mono ?_); rintro e w9 ⟨rfl, be⟩; rw [decide_refl]; have HBe := Lib.hid (Below.next hBB.out be); clear hBB))
  have b9 := HBe.out
  have bb9 := Below.next bb8 b9
  replace ka := ka.below b9
  replace kb := kb.below b9
  replace kw0 := kw0.below b9
  replace ow0 := ow0.below b9
  replace kxa := kxa.below b9
  replace oxa := oxa.below b9
  replace kxb := kxb.below b9
  replace oxb := oxb.below b9
  replace kg0 := kg0.below b9
  replace og0 := og0.below b9
  clear HB0 KL BBF OXF HBt HBe ot lt
  have z1 := b1.size
  have z2 := b2.size
  have z3 := b3.size
  have z4 := b4.size
  have z5 := b5.size
  have z6 := b6.size
  have z7 := b7.size
  have z8 := b8.size
  have z9 := b9.size
  have AP_xa_xb := Lib.hid (Within.apart lxa lxb (.inl (by omega)))
  have AP_xa_g0 := Lib.hid (Within.apart lxa lg0 (.inl (by omega)))
  have AP_xb_g0 := Lib.hid (Within.apart lxb lg0 (.inl (by omega)))
  have AP_w0_xa := Lib.hid (Within.apart lw0 lxa (.inl (by omega)))
  have AP_w0_xb := Lib.hid (Within.apart lw0 lxb (.inl (by omega)))
  have AP_w0_g0 := Lib.hid (Within.apart lw0 lg0 (.inl (by omega)))
  have F_xa := Lib.hid (Within.from (B := w.heap.size) lxa (by have := bb2.size; omega))
  have N_xa := Lib.hid nxa
  have KX_a_xa := Lib.hid (show ∀ i ∈ [w.heap.size], i ∉ gxa :: Sxa from fun i hi hm => by have h1 := (lxa i hm).1; have h2 := HKa.out; simp at hi; omega)
  have KX_b_xa := Lib.hid (show ∀ i ∈ [w.heap.size + 1], i ∉ gxa :: Sxa from fun i hi hm => by have h1 := (lxa i hm).1; have h2 := HKb.out; simp at hi; omega)
  have F_xb := Lib.hid (Within.from (B := w.heap.size) lxb (by have := bb2.size; omega))
  have N_xb := Lib.hid nxb
  have KX_a_xb := Lib.hid (show ∀ i ∈ [w.heap.size], i ∉ gxb :: Sxb from fun i hi hm => by have h1 := (lxb i hm).1; have h2 := HKa.out; simp at hi; omega)
  have KX_b_xb := Lib.hid (show ∀ i ∈ [w.heap.size + 1], i ∉ gxb :: Sxb from fun i hi hm => by have h1 := (lxb i hm).1; have h2 := HKb.out; simp at hi; omega)
  have F_g0 := Lib.hid (Within.from (B := w.heap.size) lg0 (by have := bb2.size; omega))
  have N_g0 := Lib.hid ng0
  have KX_a_g0 := Lib.hid (show ∀ i ∈ [w.heap.size], i ∉ gg0 :: Sg0 from fun i hi hm => by have h1 := (lg0 i hm).1; have h2 := HKa.out; simp at hi; omega)
  have KX_b_g0 := Lib.hid (show ∀ i ∈ [w.heap.size + 1], i ∉ gg0 :: Sg0 from fun i hi hm => by have h1 := (lg0 i hm).1; have h2 := HKb.out; simp at hi; omega)
  clear z1 z2 z3 z4 z5 z6 z7 z8 z9
  have kxa_c0 := kxa.here.cell 0 _ rfl
  have kxa_c1 := kxa.here.cell 1 _ rfl
  have kxa_c2 := kxa.here.cell 2 _ rfl
  go_wp2_with fail
  clear kxa_c0 kxa_c1 kxa_c2
  refine (markM_cal _ a _ (1) _ (by omega) (by omega) oxa).mono ?_
  rintro e w10 ⟨rfl, mkxa, c10⟩
  clear oxa
  have bb10 := below_chg bb9 c10 bb9.size (fun i hi => F_xa.out i (List.mem_cons_of_mem _ hi))
  replace ka := ka.chg c10 (fun i hi hm => KX_a_xa.out i hi (List.mem_cons_of_mem _ hm))
  replace kb := kb.chg c10 (fun i hi hm => KX_b_xa.out i hi (List.mem_cons_of_mem _ hm))
  replace kw0 := kw0.chg c10 (fun i hi hm => AP_w0_xa.out i (by simp at hi; subst hi; exact List.mem_cons_self ..) (List.mem_cons_of_mem _ hm))
  replace ow0 := ow0.chg c10 (fun i hi hm => AP_w0_xa.out i (List.mem_cons_of_mem _ hi) (List.mem_cons_of_mem _ hm))
  replace kxa := kxa.chg c10 (fun i hi hm => by simp at hi; subst hi; exact N_xa.out hm)
  replace kxb := kxb.chg c10 (fun i hi hm => (apart_symm AP_xa_xb.out) i (by simp at hi; subst hi; exact List.mem_cons_self ..) (List.mem_cons_of_mem _ hm))
  replace oxb := oxb.chg c10 (fun i hi hm => (apart_symm AP_xa_xb.out) i (List.mem_cons_of_mem _ hi) (List.mem_cons_of_mem _ hm))
  replace kg0 := kg0.chg c10 (fun i hi hm => (apart_symm AP_xa_g0.out) i (by simp at hi; subst hi; exact List.mem_cons_self ..) (List.mem_cons_of_mem _ hm))
  replace og0 := og0.chg c10 (fun i hi hm => (apart_symm AP_xa_g0.out) i (List.mem_cons_of_mem _ hi) (List.mem_cons_of_mem _ hm))
  have kxb_c0 := kxb.here.cell 0 _ rfl
  have kxb_c1 := kxb.here.cell 1 _ rfl
  have kxb_c2 := kxb.here.cell 2 _ rfl
  go_wp2_with fail
  clear kxb_c0 kxb_c1 kxb_c2
  refine (markM_cal _ b _ (1 + mkM a) _ (by omega) (by omega) oxb).mono ?_
  rintro e w11 ⟨rfl, mkxb, c11⟩
  clear oxb
  have bb11 := below_chg bb10 c11 bb10.size (fun i hi => F_xb.out i (List.mem_cons_of_mem _ hi))
  replace ka := ka.chg c11 (fun i hi hm => KX_a_xb.out i hi (List.mem_cons_of_mem _ hm))
  replace kb := kb.chg c11 (fun i hi hm => KX_b_xb.out i hi (List.mem_cons_of_mem _ hm))
  replace kw0 := kw0.chg c11 (fun i hi hm => AP_w0_xb.out i (by simp at hi; subst hi; exact List.mem_cons_self ..) (List.mem_cons_of_mem _ hm))
  replace ow0 := ow0.chg c11 (fun i hi hm => AP_w0_xb.out i (List.mem_cons_of_mem _ hi) (List.mem_cons_of_mem _ hm))
  replace kxa := kxa.chg c11 (fun i hi hm => AP_xa_xb.out i (by simp at hi; subst hi; exact List.mem_cons_self ..) (List.mem_cons_of_mem _ hm))
  replace kxb := kxb.chg c11 (fun i hi hm => by simp at hi; subst hi; exact N_xb.out hm)
  replace kg0 := kg0.chg c11 (fun i hi hm => (apart_symm AP_xb_g0.out) i (by simp at hi; subst hi; exact List.mem_cons_self ..) (List.mem_cons_of_mem _ hm))
  replace og0 := og0.chg c11 (fun i hi hm => (apart_symm AP_xb_g0.out) i (List.mem_cons_of_mem _ hi) (List.mem_cons_of_mem _ hm))
  replace mkxa := mkxa.chg c11 (fun i hi hm => AP_xa_xb.out i (List.mem_cons_of_mem _ hi) (List.mem_cons_of_mem _ hm))
  have hk : decide (((1 + mkM a + mkM b) : Int) < 0) = false := decide_eq_false (by omega)
  have kg0_c0 := kg0.here.cell 0 _ rfl
  have kg0_c1 := kg0.here.cell 1 _ rfl
  have kg0_c2 := kg0.here.cell 2 _ rfl
  have kw0_c0 := kw0.here.cell 0 _ rfl
  have kw0_c1 := kw0.here.cell 1 _ rfl
  have kw0_c2 := kw0.here.cell 2 _ rfl
  go_wp2_with fail
  clear kg0_c0 kg0_c1 kg0_c2 kw0_c0 kw0_c1 kw0_c2
  refine (eqM_cal _ _ R0 R0 _ (capM_of (by omega)) (OwnM.rd og0.here) (OwnM.rd ow0.here)).mono ?_
  rintro e w12 ⟨rfl, b12⟩
  rw [decide_refl]
  have bb12 := Below.next bb11 b12
  replace ka := ka.below b12
  replace kb := kb.below b12
  replace kw0 := kw0.below b12
  replace ow0 := ow0.below b12
  replace kxa := kxa.below b12
  replace kxb := kxb.below b12
  replace kg0 := kg0.below b12
  replace og0 := og0.below b12
  replace mkxa := mkxa.below b12
  replace mkxb := mkxb.below b12
  clear hk
  have kg0_c0 := kg0.here.cell 0 _ rfl
  have kg0_c1 := kg0.here.cell 1 _ rfl
  have kg0_c2 := kg0.here.cell 2 _ rfl
  go_wp2_with fail
  clear kg0_c0 kg0_c1 kg0_c2
  refine (markM_cal _ R0 _ (1) _ (by omega) (by omega) og0).mono ?_
  rintro e w13 ⟨rfl, mkg0, c13⟩
  clear og0
  have bb13 := below_chg bb12 c13 bb12.size (fun i hi => F_g0.out i (List.mem_cons_of_mem _ hi))
  replace ka := ka.chg c13 (fun i hi hm => KX_a_g0.out i hi (List.mem_cons_of_mem _ hm))
  replace kb := kb.chg c13 (fun i hi hm => KX_b_g0.out i hi (List.mem_cons_of_mem _ hm))
  replace kw0 := kw0.chg c13 (fun i hi hm => AP_w0_g0.out i (by simp at hi; subst hi; exact List.mem_cons_self ..) (List.mem_cons_of_mem _ hm))
  replace ow0 := ow0.chg c13 (fun i hi hm => AP_w0_g0.out i (List.mem_cons_of_mem _ hi) (List.mem_cons_of_mem _ hm))
  replace kxa := kxa.chg c13 (fun i hi hm => AP_xa_g0.out i (by simp at hi; subst hi; exact List.mem_cons_self ..) (List.mem_cons_of_mem _ hm))
  replace kxb := kxb.chg c13 (fun i hi hm => AP_xb_g0.out i (by simp at hi; subst hi; exact List.mem_cons_self ..) (List.mem_cons_of_mem _ hm))
  replace kg0 := kg0.chg c13 (fun i hi hm => by simp at hi; subst hi; exact N_g0.out hm)
  replace mkxa := mkxa.chg c13 (fun i hi hm => AP_xa_g0.out i (List.mem_cons_of_mem _ hi) (List.mem_cons_of_mem _ hm))
  replace mkxb := mkxb.chg c13 (fun i hi hm => AP_xb_g0.out i (List.mem_cons_of_mem _ hi) (List.mem_cons_of_mem _ hm))
  have kg0_c0 := kg0.here.cell 0 _ rfl
  have kg0_c1 := kg0.here.cell 1 _ rfl
  have kg0_c2 := kg0.here.cell 2 _ rfl
  go_wp2_with fail
  clear kg0_c0 kg0_c1 kg0_c2
  refine (heldM_cal _ R0 (1) _ (by omega) (by omega) mkg0.here).mono ?_
  rintro e w14 ⟨rfl, b14⟩
  have bb14 := Below.next bb13 b14
  replace ka := ka.below b14
  replace kb := kb.below b14
  replace kw0 := kw0.below b14
  replace ow0 := ow0.below b14
  replace kxa := kxa.below b14
  replace kxb := kxb.below b14
  replace kg0 := kg0.below b14
  replace mkxa := mkxa.below b14
  replace mkxb := mkxb.below b14
  replace mkg0 := mkg0.below b14
  have hq14 : decide ((1 : Int) + mkM R0 < 0) = false := decide_eq_false (by omega)
  have ka_c0 := ka.here.cell 0 _ rfl
  have ka_c1 := ka.here.cell 1 _ rfl
  have ka_c2 := ka.here.cell 2 _ rfl
  have kb_c0 := kb.here.cell 0 _ rfl
  have kb_c1 := kb.here.cell 1 _ rfl
  have kb_c2 := kb.here.cell 2 _ rfl
  go_upto_region 31 with fail
  go_cut [15, 16] (fun s t1 wx => NewLocV 32 (fun v => OwnM v R0) w14 s wx ∧ t1 = .bool R1)
  case first =>
    have HB0 := Lib.hid (show Below w14.heap.size w14 w14.drew from (Below.refl _ _).drew)
    have KL := Lib.hid (show ∀ W, Below w14.heap.size w14 W → W.cell? ⟨w.heap.size, 0, none⟩ = some (.string a.1) ∧ W.cell? ⟨w.heap.size, 1, none⟩ = some (.bool a.2.1) ∧ W.cell? ⟨w.heap.size, 2, none⟩ = some (.slice Aa a.2.2.length ca) ∧ W.cell? ⟨w.heap.size + 1, 0, none⟩ = some (.string b.1) ∧ W.cell? ⟨w.heap.size + 1, 1, none⟩ = some (.bool b.2.1) ∧ W.cell? ⟨w.heap.size + 1, 2, none⟩ = some (.slice Ab b.2.2.length cb) ∧ Hid (Below w14.heap.size w14 W) from
      fun W hb => ⟨(ka.below hb).here.cell 0 _ rfl, (ka.below hb).here.cell 1 _ rfl, (ka.below hb).here.cell 2 _ rfl, (kb.below hb).here.cell 0 _ rfl, (kb.below hb).here.cell 1 _ rfl, (kb.below hb).here.cell 2 _ rfl, Lib.hid hb⟩)
    have BBF := Lib.hid (show ∀ W, Below w14.heap.size w14 W → Below w.heap.size w W from fun W hb => Below.next bb14 hb)
    clear ka_c0 ka_c1 ka_c2 kb_c0 kb_c1 kb_c2
    go_region_held3 (fun W => W.cell? ⟨w.heap.size, 0, none⟩ = some (.string a.1) ∧ W.cell? ⟨w.heap.size, 1, none⟩ = some (.bool a.2.1) ∧ W.cell? ⟨w.heap.size, 2, none⟩ = some (.slice Aa a.2.2.length ca) ∧ W.cell? ⟨w.heap.size + 1, 0, none⟩ = some (.string b.1) ∧ W.cell? ⟨w.heap.size + 1, 1, none⟩ = some (.bool b.2.1) ∧ W.cell? ⟨w.heap.size + 1, 2, none⟩ = some (.slice Ab b.2.2.length cb) ∧ Hid (Below w14.heap.size w14 W))
      ((refine KL.out _ ?_; (first | exact HBf.out | exact HBtb.out | exact HBta.out | exact HB0.out | exact below_al HBf.out _ | exact below_al HBtb.out _ | exact below_al HBta.out _ | exact below_al HB0.out _ | exact below_set3 HBf.out (by first | exact HBtb.out.size | exact HBta.out.size | exact HB0.out.size) | fail)))
      (first
        | (go_at_call 18; (have hBB := (‹_ ∧ _ ∧ _ ∧ _ ∧ _ ∧ _ ∧ Hid (Below w14.heap.size w14 _)›).2.2.2.2.2.2); (with_reducible refine (toM_new _ a _ hza (RFa.out _ (BBF.out _ hBB.out))).mono ?_); rintro e wta ⟨ta, Sta, rfl, ota, lta, bta⟩; have HBta := Lib.hid (Below.next hBB.out bta); (try have hbxa : At [w14.heap.size] (BoxAt w14.heap.size #[.string ⟨#[]⟩, .bool false, .slice none 0 0] 32) wta := At.below (box_new w14.drew _ _) bta); clear hBB)
        | (go_at_call 18; (have hBB := (‹_ ∧ _ ∧ _ ∧ _ ∧ _ ∧ _ ∧ Hid (Below w14.heap.size w14 _)›).2.2.2.2.2.2); (with_reducible refine (toM_new _ b _ hzb (RFb.out _ (BBF.out _ hBB.out))).mono ?_); rintro e wtb ⟨tb, Stb, rfl, otb, ltb, btb⟩; have HBtb := Lib.hid (Below.next hBB.out btb); (have otab := At.below (by first | exact ota | exact At.below ota (below_al (Below.refl _ _) _)) btb); (first | have hbxb := At.below (box_new _ _ _) btb | have hbxb := At.below hbxa btb | skip); clear hBB)
        | (go_at_call 30; (have hBB := (‹_ ∧ _ ∧ _ ∧ _ ∧ _ ∧ _ ∧ Hid (Below w14.heap.size w14 _)›).2.2.2.2.2.2); (with_reducible refine (HI.out _ _ _ (At.here (by first | exact otab | exact At.below otab (below_al (Below.refl _ _) _))) (At.here (by first | exact otb | exact At.below otb (below_al (Below.refl _ _) _))) (HT0.out.below (BBF.out _ hBB.out))).mono ?_); rintro e wf ⟨uf, Sf, rfl, of, lf, bf⟩; have HBf := Lib.hid (Below.next hBB.out bf); have HBS := Lib.hid hBB.out.size; (first | have hbxg := At.below_lt (box_new _ _ _) bf | have hbxg := At.below_lt hbxb bf | skip); (try (have hbxf := hbxg.1; have HGB := Lib.hid hbxg.2; clear hbxg)); obtain ⟨Af, cf, rfl⟩ := ownM_form of.here; (try (have cz0 := hbxf.here.cell 0 _ rfl; have cz1 := hbxf.here.cell 1 _ rfl; have cz2 := hbxf.here.cell 2 _ rfl; have fz0 := Lib.frozen_of_heap hbxf.here 0; have fz1 := Lib.frozen_of_heap hbxf.here 1; have fz2 := Lib.frozen_of_heap hbxf.here 2)); clear hBB))
    all_goals (go_wp2_with fail; go_meet; first | exact ⟨newLocV_last of lf HBS.out HBf.out, rfl⟩ | exact ⟨newLocV_early3 hbxf.here of lf (by first | exact HBtb.out.size | exact HBta.out.size | exact HB0.out.size) HGB.out HBf.out, rfl⟩)
  rename World => w15
  clear ka_c0 ka_c1 ka_c2 kb_c0 kb_c1 kb_c2
  obtain ⟨⟨gh0, csh0, Sh0, rfl, kh0, oh0, nh0, lh0, b15⟩, rfl⟩ := hcut
  obtain ⟨Ah0, ch0, eh0⟩ := ownM_form oh0.here
  injection eh0 with eh0
  subst eh0
  have bb15 := Below.next bb14 b15
  replace ka := ka.below b15
  replace kb := kb.below b15
  replace kw0 := kw0.below b15
  replace ow0 := ow0.below b15
  replace kxa := kxa.below b15
  replace kxb := kxb.below b15
  replace kg0 := kg0.below b15
  replace mkxa := mkxa.below b15
  replace mkxb := mkxb.below b15
  replace mkg0 := mkg0.below b15
  have kh0_c0 := kh0.here.cell 0 _ rfl
  have kh0_c1 := kh0.here.cell 1 _ rfl
  have kh0_c2 := kh0.here.cell 2 _ rfl
  have kw0_c0 := kw0.here.cell 0 _ rfl
  have kw0_c1 := kw0.here.cell 1 _ rfl
  have kw0_c2 := kw0.here.cell 2 _ rfl
  go_wp2_with fail
  clear kh0_c0 kh0_c1 kh0_c2 kw0_c0 kw0_c1 kw0_c2
  refine (eqM_cal _ _ R0 R0 _ (capM_of (by omega)) (OwnM.rd oh0.here) (OwnM.rd ow0.here)).mono ?_
  rintro e w16 ⟨rfl, b16⟩
  rw [decide_refl]
  have bb16 := Below.next bb15 b16
  replace ka := ka.below b16
  replace kb := kb.below b16
  replace kw0 := kw0.below b16
  replace ow0 := ow0.below b16
  replace kxa := kxa.below b16
  replace kxb := kxb.below b16
  replace kg0 := kg0.below b16
  replace mkxa := mkxa.below b16
  replace mkxb := mkxb.below b16
  replace mkg0 := mkg0.below b16
  replace kh0 := kh0.below b16
  replace oh0 := oh0.below b16
  have kg0_c0 := kg0.here.cell 0 _ rfl
  have kg0_c1 := kg0.here.cell 1 _ rfl
  have kg0_c2 := kg0.here.cell 2 _ rfl
  go_wp2_with fail
  clear kg0_c0 kg0_c1 kg0_c2
  refine (heldM_cal _ R0 (1) _ (by omega) (by omega) mkg0.here).mono ?_
  rintro e w17 ⟨rfl, b17⟩
  have bb17 := Below.next bb16 b17
  replace ka := ka.below b17
  replace kb := kb.below b17
  replace kw0 := kw0.below b17
  replace ow0 := ow0.below b17
  replace kxa := kxa.below b17
  replace kxb := kxb.below b17
  replace kg0 := kg0.below b17
  replace mkxa := mkxa.below b17
  replace mkxb := mkxb.below b17
  replace mkg0 := mkg0.below b17
  replace kh0 := kh0.below b17
  replace oh0 := oh0.below b17
  have hq17 : decide ((1 : Int) + mkM R0 < 0) = false := decide_eq_false (by omega)
  go_wp2
  go_ret
  exact ⟨rfl, bb17⟩
end Go.Proofs.YtcenmdiblbooeaaDoor

namespace Go.Proofs.YtcenmdiblbooeaaDoor
open Go.RowKit

set_option maxHeartbeats 4000000 in
set_option maxRecDepth 100000 in
theorem lawMoneyNeg_walk (va : Value) (a : MI) (R0 : MI) (R1 : Bool) (w : World)
    (hS : ∀ (ua : Value) (W : World), OwnM ua a W → Calls Tryd.prog 31 #[ua] W (PostMb R0 R1 W))
    (hI : ∀ (ua : Value) (W : World), OwnM ua a W → CurTab W → Calls Tryd.prog 32 #[ua] W (PostMb R0 R1 W))
    (ht0 : CurTab w) (hl : szM a ≤ 1048576) (hlR0 : szM R0 ≤ 1048576) (ra : RdM w va a) :
    Calls Tryd.prog 9 #[va] w fun e w' => e = .returned (.bool true) ∧ Below w.heap.size w w' := by
  have HS := Lib.hid hS
  have HI := Lib.hid hI
  clear hS hI
  have HT0 := Lib.hid ht0
  clear ht0
  have hsa := szM_nonneg a
  have hsR0 := szM_nonneg R0
  have hma := mkM_range a
  have hmR0 := mkM_range R0
  have hza : szM a ≤ 1048576 := by omega
  obtain ⟨Aa, ca, rfl⟩ := rdM_form ra
  have bb0 : Below w.heap.size w (w.alloc (.cells #[.string a.1, .bool a.2.1, .slice Aa a.2.2.length ca] 27)) := below_al (Below.refl _ _) _
  have ka := (box_new w #[.string a.1, .bool a.2.1, .slice Aa a.2.2.length ca] 27)
  have RFa : Hid (∀ W, Below w.heap.size w W → RdM W (.agg #[.string a.1, .bool a.2.1, .slice Aa a.2.2.length ca]) a) := Lib.hid fun W hb => ra.below hb
  go_enter Tryd.func9, Tryd.ntmps9
  have ka_c0 := ka.here.cell 0 _ rfl
  have ka_c1 := ka.here.cell 1 _ rfl
  have ka_c2 := ka.here.cell 2 _ rfl
  go_wp2_with fail
  clear ka_c0 ka_c1 ka_c2
  refine (szM_cal _ a (1048576) _ (capM_of hza) (by omega) (by omega) (RFa.out _ bb0)).mono ?_
  rintro e w1 ⟨rfl, b1⟩
  rw [leftI_of (by omega)]
  have bb1 := Below.next bb0 b1
  replace ka := ka.below b1
  have hn : decide (((1048576 : Int) - szM a : Int) < 0) = false := decide_eq_false (by omega)
  have HKa := Lib.hid (ka.lt (w.heap.size) (by simp))
  have ka_c0 := ka.here.cell 0 _ rfl
  have ka_c1 := ka.here.cell 1 _ rfl
  have ka_c2 := ka.here.cell 2 _ rfl
  go_upto_region 5 with fail
  go_cut [4, 5] (fun s t1 wx => NewLocV 32 (fun v => OwnM v R0) w1 s wx ∧ t1 = .bool R1)
  case first =>
    go_wp2_with fail
    refine (toM_new _ a _ hza (RFa.out _ bb1)).mono ?_
    rintro e wt ⟨ut, St, rfl, ot, lt, bt⟩
    obtain ⟨At, ct, rfl⟩ := ownM_form ot.here
    go_wp2_with fail
    refine (HS.out _ _ ot.here).mono ?_
    rintro e wf ⟨uf, Sf, rfl, of, lf, bf⟩
    obtain ⟨Af, cf, rfl⟩ := ownM_form of.here
    have bwf := Below.next bt bf
    go_wp2_with fail
    go_meet
    exact ⟨newLocV_last of lf bt.size bwf, rfl⟩
  rename World => w2
  clear ka_c0 ka_c1 ka_c2
  obtain ⟨⟨gw0, csw0, Sw0, rfl, kw0, ow0, nw0, lw0, b2⟩, rfl⟩ := hcut
  obtain ⟨Aw0, cw0, ew0⟩ := ownM_form ow0.here
  injection ew0 with ew0
  subst ew0
  have bb2 := Below.next bb1 b2
  replace ka := ka.below b2
  have ka_c0 := ka.here.cell 0 _ rfl
  have ka_c1 := ka.here.cell 1 _ rfl
  have ka_c2 := ka.here.cell 2 _ rfl
  go_upto_region 6 with fail
  go_cut [6] (fun s wx => NewLocV 32 (fun v => OwnM v a) w2 s wx)
  case first =>
    go_wp2_with fail
    refine (toM_new _ a _ hza (RFa.out _ bb2)).mono ?_
    rintro e wt ⟨ut, St, rfl, ot, lt, bt⟩
    obtain ⟨At, ct, rfl⟩ := ownM_form ot.here
    go_wp2_with fail
    go_meet
    exact newLocV_last ot lt (Nat.le_refl _) bt
  rename World => w3
  clear ka_c0 ka_c1 ka_c2
  obtain ⟨gxa, csxa, Sxa, rfl, kxa, oxa, nxa, lxa, b3⟩ := hcut
  obtain ⟨Axa, cxa, exa⟩ := ownM_form oxa.here
  injection exa with exa
  subst exa
  have bb3 := Below.next bb2 b3
  replace ka := ka.below b3
  replace kw0 := kw0.below b3
  replace ow0 := ow0.below b3
  have kxa_c0 := kxa.here.cell 0 _ rfl
  have kxa_c1 := kxa.here.cell 1 _ rfl
  have kxa_c2 := kxa.here.cell 2 _ rfl
  go_upto_region 7 with fail
  go_cut [7, 8] (fun s t1 wx => NewLocV 32 (fun v => OwnM v R0) w3 s wx ∧ t1 = .bool R1)
  case first =>
    go_wp2_with fail
    refine (HI.out _ _ oxa.here (HT0.out.below bb3)).mono ?_
    rintro e wf ⟨uf, Sf, rfl, of, lf, bf⟩
    obtain ⟨Af, cf, rfl⟩ := ownM_form of.here
    go_wp2_with fail
    go_meet
    exact ⟨newLocV_last of lf (Nat.le_refl _) bf, rfl⟩
  rename World => w4
  clear kxa_c0 kxa_c1 kxa_c2
  obtain ⟨⟨gg0, csg0, Sg0, rfl, kg0, og0, ng0, lg0, b4⟩, rfl⟩ := hcut
  obtain ⟨Ag0, cg0, eg0⟩ := ownM_form og0.here
  injection eg0 with eg0
  subst eg0
  have bb4 := Below.next bb3 b4
  replace ka := ka.below b4
  replace kw0 := kw0.below b4
  replace ow0 := ow0.below b4
  replace kxa := kxa.below b4
  replace oxa := oxa.below b4
  have kg0_c0 := kg0.here.cell 0 _ rfl
  have kg0_c1 := kg0.here.cell 1 _ rfl
  have kg0_c2 := kg0.here.cell 2 _ rfl
  have kw0_c0 := kw0.here.cell 0 _ rfl
  have kw0_c1 := kw0.here.cell 1 _ rfl
  have kw0_c2 := kw0.here.cell 2 _ rfl
  go_wp2_with fail
  clear kg0_c0 kg0_c1 kg0_c2 kw0_c0 kw0_c1 kw0_c2
  refine (eqM_cal _ _ R0 R0 _ (capM_of (by omega)) (OwnM.rd og0.here) (OwnM.rd ow0.here)).mono ?_
  rintro e w5 ⟨rfl, b5⟩
  rw [decide_refl]
  have bb5 := Below.next bb4 b5
  replace ka := ka.below b5
  replace kw0 := kw0.below b5
  replace ow0 := ow0.below b5
  replace kxa := kxa.below b5
  replace oxa := oxa.below b5
  replace kg0 := kg0.below b5
  replace og0 := og0.below b5
  have ka_c0 := ka.here.cell 0 _ rfl
  have ka_c1 := ka.here.cell 1 _ rfl
  have ka_c2 := ka.here.cell 2 _ rfl
  have kxa_c0 := kxa.here.cell 0 _ rfl
  have kxa_c1 := kxa.here.cell 1 _ rfl
  have kxa_c2 := kxa.here.cell 2 _ rfl
  go_wp2_with fail
  have HB0 := Lib.hid (show Below w5.heap.size w5 w5.drew from (Below.refl _ _).drew)
  have KL := Lib.hid (show ∀ W, Below w5.heap.size w5 W → W.cell? ⟨w.heap.size, 0, none⟩ = some (.string a.1) ∧ W.cell? ⟨w.heap.size, 1, none⟩ = some (.bool a.2.1) ∧ W.cell? ⟨w.heap.size, 2, none⟩ = some (.slice Aa a.2.2.length ca) ∧ W.cell? ⟨gxa, 0, none⟩ = some (.string a.1) ∧ W.cell? ⟨gxa, 1, none⟩ = some (.bool a.2.1) ∧ W.cell? ⟨gxa, 2, none⟩ = some (.slice Axa a.2.2.length cxa) ∧ Hid (Below w5.heap.size w5 W) from
    fun W hb => ⟨(ka.below hb).here.cell 0 _ rfl, (ka.below hb).here.cell 1 _ rfl, (ka.below hb).here.cell 2 _ rfl, (kxa.below hb).here.cell 0 _ rfl, (kxa.below hb).here.cell 1 _ rfl, (kxa.below hb).here.cell 2 _ rfl, Lib.hid hb⟩)
  have BBF := Lib.hid (show ∀ W, Below w5.heap.size w5 W → Below w.heap.size w W from fun W hb => Below.next bb5 hb)
  have OXF := Lib.hid (show ∀ W, Below w5.heap.size w5 W → OwnM (.agg #[.string a.1, .bool a.2.1, .slice Axa a.2.2.length cxa]) a W from fun W hb => (oxa.below hb).here)
  clear ka_c0 ka_c1 ka_c2 kxa_c0 kxa_c1 kxa_c2
  go_region_held3 (fun W => W.cell? ⟨w.heap.size, 0, none⟩ = some (.string a.1) ∧ W.cell? ⟨w.heap.size, 1, none⟩ = some (.bool a.2.1) ∧ W.cell? ⟨w.heap.size, 2, none⟩ = some (.slice Aa a.2.2.length ca) ∧ W.cell? ⟨gxa, 0, none⟩ = some (.string a.1) ∧ W.cell? ⟨gxa, 1, none⟩ = some (.bool a.2.1) ∧ W.cell? ⟨gxa, 2, none⟩ = some (.slice Axa a.2.2.length cxa) ∧ Hid (Below w5.heap.size w5 W))
    ((refine KL.out _ ?_; (first | exact HBe.out | exact HBt.out | exact HB0.out | fail)))
    (first
      | (go_at_call 18; (have hBB := (‹_ ∧ _ ∧ _ ∧ _ ∧ _ ∧ _ ∧ Hid (Below w5.heap.size w5 _)›).2.2.2.2.2.2); (with_reducible refine (toM_new _ a _ hza (RFa.out _ (BBF.out _ hBB.out))).mono ?_); rintro e wt ⟨t, St, rfl, ot, lt, bt⟩; have HBt := Lib.hid (Below.next hBB.out bt); clear hBB)
      | (go_at_call 20; (have hBB := (‹_ ∧ _ ∧ _ ∧ _ ∧ _ ∧ _ ∧ Hid (Below w5.heap.size w5 _)›).2.2.2.2.2.2); (with_reducible refine (eqM_cal _ _ a a _ (capM_of hza) (OwnM.rd (OXF.out _ hBB.out)) (OwnM.rd ot.here)).mono ?_); rintro e w6 ⟨rfl, be⟩; rw [decide_refl]; have HBe := Lib.hid (Below.next hBB.out be); clear hBB))
  have b6 := HBe.out
  have bb6 := Below.next bb5 b6
  replace ka := ka.below b6
  replace kw0 := kw0.below b6
  replace ow0 := ow0.below b6
  replace kxa := kxa.below b6
  replace oxa := oxa.below b6
  replace kg0 := kg0.below b6
  replace og0 := og0.below b6
  clear HB0 KL BBF OXF HBt HBe ot lt
  have z1 := b1.size
  have z2 := b2.size
  have z3 := b3.size
  have z4 := b4.size
  have z5 := b5.size
  have z6 := b6.size
  have AP_xa_g0 := Lib.hid (Within.apart lxa lg0 (.inl (by omega)))
  have AP_w0_xa := Lib.hid (Within.apart lw0 lxa (.inl (by omega)))
  have AP_w0_g0 := Lib.hid (Within.apart lw0 lg0 (.inl (by omega)))
  have F_xa := Lib.hid (Within.from (B := w.heap.size) lxa (by have := bb1.size; omega))
  have N_xa := Lib.hid nxa
  have KX_a_xa := Lib.hid (show ∀ i ∈ [w.heap.size], i ∉ gxa :: Sxa from fun i hi hm => by have h1 := (lxa i hm).1; have h2 := HKa.out; simp at hi; omega)
  have F_g0 := Lib.hid (Within.from (B := w.heap.size) lg0 (by have := bb1.size; omega))
  have N_g0 := Lib.hid ng0
  have KX_a_g0 := Lib.hid (show ∀ i ∈ [w.heap.size], i ∉ gg0 :: Sg0 from fun i hi hm => by have h1 := (lg0 i hm).1; have h2 := HKa.out; simp at hi; omega)
  clear z1 z2 z3 z4 z5 z6
  have kxa_c0 := kxa.here.cell 0 _ rfl
  have kxa_c1 := kxa.here.cell 1 _ rfl
  have kxa_c2 := kxa.here.cell 2 _ rfl
  go_wp2_with fail
  clear kxa_c0 kxa_c1 kxa_c2
  refine (markM_cal _ a _ (1) _ (by omega) (by omega) oxa).mono ?_
  rintro e w7 ⟨rfl, mkxa, c7⟩
  clear oxa
  have bb7 := below_chg bb6 c7 bb6.size (fun i hi => F_xa.out i (List.mem_cons_of_mem _ hi))
  replace ka := ka.chg c7 (fun i hi hm => KX_a_xa.out i hi (List.mem_cons_of_mem _ hm))
  replace kw0 := kw0.chg c7 (fun i hi hm => AP_w0_xa.out i (by simp at hi; subst hi; exact List.mem_cons_self ..) (List.mem_cons_of_mem _ hm))
  replace ow0 := ow0.chg c7 (fun i hi hm => AP_w0_xa.out i (List.mem_cons_of_mem _ hi) (List.mem_cons_of_mem _ hm))
  replace kxa := kxa.chg c7 (fun i hi hm => by simp at hi; subst hi; exact N_xa.out hm)
  replace kg0 := kg0.chg c7 (fun i hi hm => (apart_symm AP_xa_g0.out) i (by simp at hi; subst hi; exact List.mem_cons_self ..) (List.mem_cons_of_mem _ hm))
  replace og0 := og0.chg c7 (fun i hi hm => (apart_symm AP_xa_g0.out) i (List.mem_cons_of_mem _ hi) (List.mem_cons_of_mem _ hm))
  have hk : decide (((1 + mkM a) : Int) < 0) = false := decide_eq_false (by omega)
  have kg0_c0 := kg0.here.cell 0 _ rfl
  have kg0_c1 := kg0.here.cell 1 _ rfl
  have kg0_c2 := kg0.here.cell 2 _ rfl
  have kw0_c0 := kw0.here.cell 0 _ rfl
  have kw0_c1 := kw0.here.cell 1 _ rfl
  have kw0_c2 := kw0.here.cell 2 _ rfl
  go_wp2_with fail
  clear kg0_c0 kg0_c1 kg0_c2 kw0_c0 kw0_c1 kw0_c2
  refine (eqM_cal _ _ R0 R0 _ (capM_of (by omega)) (OwnM.rd og0.here) (OwnM.rd ow0.here)).mono ?_
  rintro e w8 ⟨rfl, b8⟩
  rw [decide_refl]
  have bb8 := Below.next bb7 b8
  replace ka := ka.below b8
  replace kw0 := kw0.below b8
  replace ow0 := ow0.below b8
  replace kxa := kxa.below b8
  replace kg0 := kg0.below b8
  replace og0 := og0.below b8
  replace mkxa := mkxa.below b8
  clear hk
  have kg0_c0 := kg0.here.cell 0 _ rfl
  have kg0_c1 := kg0.here.cell 1 _ rfl
  have kg0_c2 := kg0.here.cell 2 _ rfl
  go_wp2_with fail
  clear kg0_c0 kg0_c1 kg0_c2
  refine (markM_cal _ R0 _ (1) _ (by omega) (by omega) og0).mono ?_
  rintro e w9 ⟨rfl, mkg0, c9⟩
  clear og0
  have bb9 := below_chg bb8 c9 bb8.size (fun i hi => F_g0.out i (List.mem_cons_of_mem _ hi))
  replace ka := ka.chg c9 (fun i hi hm => KX_a_g0.out i hi (List.mem_cons_of_mem _ hm))
  replace kw0 := kw0.chg c9 (fun i hi hm => AP_w0_g0.out i (by simp at hi; subst hi; exact List.mem_cons_self ..) (List.mem_cons_of_mem _ hm))
  replace ow0 := ow0.chg c9 (fun i hi hm => AP_w0_g0.out i (List.mem_cons_of_mem _ hi) (List.mem_cons_of_mem _ hm))
  replace kxa := kxa.chg c9 (fun i hi hm => AP_xa_g0.out i (by simp at hi; subst hi; exact List.mem_cons_self ..) (List.mem_cons_of_mem _ hm))
  replace kg0 := kg0.chg c9 (fun i hi hm => by simp at hi; subst hi; exact N_g0.out hm)
  replace mkxa := mkxa.chg c9 (fun i hi hm => AP_xa_g0.out i (List.mem_cons_of_mem _ hi) (List.mem_cons_of_mem _ hm))
  have kg0_c0 := kg0.here.cell 0 _ rfl
  have kg0_c1 := kg0.here.cell 1 _ rfl
  have kg0_c2 := kg0.here.cell 2 _ rfl
  go_wp2_with fail
  clear kg0_c0 kg0_c1 kg0_c2
  refine (heldM_cal _ R0 (1) _ (by omega) (by omega) mkg0.here).mono ?_
  rintro e w10 ⟨rfl, b10⟩
  have bb10 := Below.next bb9 b10
  replace ka := ka.below b10
  replace kw0 := kw0.below b10
  replace ow0 := ow0.below b10
  replace kxa := kxa.below b10
  replace kg0 := kg0.below b10
  replace mkxa := mkxa.below b10
  replace mkg0 := mkg0.below b10
  have hq10 : decide ((1 : Int) + mkM R0 < 0) = false := decide_eq_false (by omega)
  have ka_c0 := ka.here.cell 0 _ rfl
  have ka_c1 := ka.here.cell 1 _ rfl
  have ka_c2 := ka.here.cell 2 _ rfl
  go_upto_region 24 with fail
  go_cut [12, 13] (fun s t1 wx => NewLocV 32 (fun v => OwnM v R0) w10 s wx ∧ t1 = .bool R1)
  case first =>
    go_wp2_with fail
    refine (toM_new _ a _ hza (RFa.out _ bb10)).mono ?_
    rintro e wt ⟨ut, St, rfl, ot, lt, bt⟩
    obtain ⟨At, ct, rfl⟩ := ownM_form ot.here
    go_wp2_with fail
    have bb_t := Below.next bb10 bt
    refine (HI.out _ _ ot.here (HT0.out.below bb_t)).mono ?_
    rintro e wf ⟨uf, Sf, rfl, of, lf, bf⟩
    obtain ⟨Af, cf, rfl⟩ := ownM_form of.here
    have bwf := Below.next bt bf
    go_wp2_with fail
    go_meet
    exact ⟨newLocV_last of lf bt.size bwf, rfl⟩
  rename World => w11
  clear ka_c0 ka_c1 ka_c2
  obtain ⟨⟨gh0, csh0, Sh0, rfl, kh0, oh0, nh0, lh0, b11⟩, rfl⟩ := hcut
  obtain ⟨Ah0, ch0, eh0⟩ := ownM_form oh0.here
  injection eh0 with eh0
  subst eh0
  have bb11 := Below.next bb10 b11
  replace ka := ka.below b11
  replace kw0 := kw0.below b11
  replace ow0 := ow0.below b11
  replace kxa := kxa.below b11
  replace kg0 := kg0.below b11
  replace mkxa := mkxa.below b11
  replace mkg0 := mkg0.below b11
  have kh0_c0 := kh0.here.cell 0 _ rfl
  have kh0_c1 := kh0.here.cell 1 _ rfl
  have kh0_c2 := kh0.here.cell 2 _ rfl
  have kw0_c0 := kw0.here.cell 0 _ rfl
  have kw0_c1 := kw0.here.cell 1 _ rfl
  have kw0_c2 := kw0.here.cell 2 _ rfl
  go_wp2_with fail
  clear kh0_c0 kh0_c1 kh0_c2 kw0_c0 kw0_c1 kw0_c2
  refine (eqM_cal _ _ R0 R0 _ (capM_of (by omega)) (OwnM.rd oh0.here) (OwnM.rd ow0.here)).mono ?_
  rintro e w12 ⟨rfl, b12⟩
  rw [decide_refl]
  have bb12 := Below.next bb11 b12
  replace ka := ka.below b12
  replace kw0 := kw0.below b12
  replace ow0 := ow0.below b12
  replace kxa := kxa.below b12
  replace kg0 := kg0.below b12
  replace mkxa := mkxa.below b12
  replace mkg0 := mkg0.below b12
  replace kh0 := kh0.below b12
  replace oh0 := oh0.below b12
  have kg0_c0 := kg0.here.cell 0 _ rfl
  have kg0_c1 := kg0.here.cell 1 _ rfl
  have kg0_c2 := kg0.here.cell 2 _ rfl
  go_wp2_with fail
  clear kg0_c0 kg0_c1 kg0_c2
  refine (heldM_cal _ R0 (1) _ (by omega) (by omega) mkg0.here).mono ?_
  rintro e w13 ⟨rfl, b13⟩
  have bb13 := Below.next bb12 b13
  replace ka := ka.below b13
  replace kw0 := kw0.below b13
  replace ow0 := ow0.below b13
  replace kxa := kxa.below b13
  replace kg0 := kg0.below b13
  replace mkxa := mkxa.below b13
  replace mkg0 := mkg0.below b13
  replace kh0 := kh0.below b13
  replace oh0 := oh0.below b13
  have hq13 : decide ((1 : Int) + mkM R0 < 0) = false := decide_eq_false (by omega)
  go_wp2
  go_ret
  exact ⟨rfl, bb13⟩
end Go.Proofs.YtcenmdiblbooeaaDoor

namespace Go.Proofs.YtcenmdiblbooeaaDoor
open Go.RowKit

set_option maxHeartbeats 4000000 in
set_option maxRecDepth 100000 in
theorem lawMoneyTimes_walk (va : Value) (a : MI) (k : Int) (R0 : MI) (R1 : Bool) (w : World)
    (hS : ∀ (ua : Value) (W : World), OwnM ua a W → Calls Tryd.prog 33 #[ua, .int .i64 k] W (PostMb R0 R1 W))
    (hI : ∀ (ua : Value) (W : World), OwnM ua a W → CurTab W → Calls Tryd.prog 34 #[ua, .int .i64 k] W (PostMb R0 R1 W))
    (ht0 : CurTab w) (hl : szM a ≤ 1048576) (hlR0 : szM R0 ≤ 1048576) (ra : RdM w va a) :
    Calls Tryd.prog 10 #[va, .int .i64 k] w fun e w' => e = .returned (.bool true) ∧ Below w.heap.size w w' := by
  have HS := Lib.hid hS
  have HI := Lib.hid hI
  clear hS hI
  have HT0 := Lib.hid ht0
  clear ht0
  have hsa := szM_nonneg a
  have hsR0 := szM_nonneg R0
  have hma := mkM_range a
  have hmR0 := mkM_range R0
  have hza : szM a ≤ 1048576 := by omega
  obtain ⟨Aa, ca, rfl⟩ := rdM_form ra
  have bb0 : Below w.heap.size w (w.alloc (.cells #[.string a.1, .bool a.2.1, .slice Aa a.2.2.length ca] 27)) := below_al (Below.refl _ _) _
  have ka := (box_new w #[.string a.1, .bool a.2.1, .slice Aa a.2.2.length ca] 27)
  have RFa : Hid (∀ W, Below w.heap.size w W → RdM W (.agg #[.string a.1, .bool a.2.1, .slice Aa a.2.2.length ca]) a) := Lib.hid fun W hb => ra.below hb
  go_enter Tryd.func10, Tryd.ntmps10
  have ka_c0 := ka.here.cell 0 _ rfl
  have ka_c1 := ka.here.cell 1 _ rfl
  have ka_c2 := ka.here.cell 2 _ rfl
  go_wp2_with fail
  clear ka_c0 ka_c1 ka_c2
  refine (szM_cal _ a (1048576) _ (capM_of hza) (by omega) (by omega) (RFa.out _ bb0)).mono ?_
  rintro e w1 ⟨rfl, b1⟩
  rw [leftI_of (by omega)]
  have bb1 := Below.next bb0 b1
  replace ka := ka.below b1
  have hn : decide (((1048576 : Int) - szM a : Int) < 0) = false := decide_eq_false (by omega)
  have HKa := Lib.hid (ka.lt (w.heap.size) (by simp))
  have ka_c0 := ka.here.cell 0 _ rfl
  have ka_c1 := ka.here.cell 1 _ rfl
  have ka_c2 := ka.here.cell 2 _ rfl
  go_upto_region 5 with fail
  go_cut [6, 7] (fun s t1 wx => NewLocV 32 (fun v => OwnM v R0) w1 s wx ∧ t1 = .bool R1)
  case first =>
    go_wp2_with fail
    refine (toM_new _ a _ hza (RFa.out _ bb1)).mono ?_
    rintro e wt ⟨ut, St, rfl, ot, lt, bt⟩
    obtain ⟨At, ct, rfl⟩ := ownM_form ot.here
    go_wp2_with fail
    refine (HS.out _ _ ot.here).mono ?_
    rintro e wf ⟨uf, Sf, rfl, of, lf, bf⟩
    obtain ⟨Af, cf, rfl⟩ := ownM_form of.here
    have bwf := Below.next bt bf
    go_wp2_with fail
    go_meet
    exact ⟨newLocV_last of lf bt.size bwf, rfl⟩
  rename World => w2
  clear ka_c0 ka_c1 ka_c2
  obtain ⟨⟨gw0, csw0, Sw0, rfl, kw0, ow0, nw0, lw0, b2⟩, rfl⟩ := hcut
  obtain ⟨Aw0, cw0, ew0⟩ := ownM_form ow0.here
  injection ew0 with ew0
  subst ew0
  have bb2 := Below.next bb1 b2
  replace ka := ka.below b2
  have ka_c0 := ka.here.cell 0 _ rfl
  have ka_c1 := ka.here.cell 1 _ rfl
  have ka_c2 := ka.here.cell 2 _ rfl
  go_upto_region 6 with fail
  go_cut [8] (fun s wx => NewLocV 32 (fun v => OwnM v a) w2 s wx)
  case first =>
    go_wp2_with fail
    refine (toM_new _ a _ hza (RFa.out _ bb2)).mono ?_
    rintro e wt ⟨ut, St, rfl, ot, lt, bt⟩
    obtain ⟨At, ct, rfl⟩ := ownM_form ot.here
    go_wp2_with fail
    go_meet
    exact newLocV_last ot lt (Nat.le_refl _) bt
  rename World => w3
  clear ka_c0 ka_c1 ka_c2
  obtain ⟨gxa, csxa, Sxa, rfl, kxa, oxa, nxa, lxa, b3⟩ := hcut
  obtain ⟨Axa, cxa, exa⟩ := ownM_form oxa.here
  injection exa with exa
  subst exa
  have bb3 := Below.next bb2 b3
  replace ka := ka.below b3
  replace kw0 := kw0.below b3
  replace ow0 := ow0.below b3
  have kxa_c0 := kxa.here.cell 0 _ rfl
  have kxa_c1 := kxa.here.cell 1 _ rfl
  have kxa_c2 := kxa.here.cell 2 _ rfl
  go_upto_region 7 with fail
  go_cut [9, 10] (fun s t1 wx => NewLocV 32 (fun v => OwnM v R0) w3 s wx ∧ t1 = .bool R1)
  case first =>
    go_wp2_with fail
    refine (HI.out _ _ oxa.here (HT0.out.below bb3)).mono ?_
    rintro e wf ⟨uf, Sf, rfl, of, lf, bf⟩
    obtain ⟨Af, cf, rfl⟩ := ownM_form of.here
    go_wp2_with fail
    go_meet
    exact ⟨newLocV_last of lf (Nat.le_refl _) bf, rfl⟩
  rename World => w4
  clear kxa_c0 kxa_c1 kxa_c2
  obtain ⟨⟨gg0, csg0, Sg0, rfl, kg0, og0, ng0, lg0, b4⟩, rfl⟩ := hcut
  obtain ⟨Ag0, cg0, eg0⟩ := ownM_form og0.here
  injection eg0 with eg0
  subst eg0
  have bb4 := Below.next bb3 b4
  replace ka := ka.below b4
  replace kw0 := kw0.below b4
  replace ow0 := ow0.below b4
  replace kxa := kxa.below b4
  replace oxa := oxa.below b4
  have kg0_c0 := kg0.here.cell 0 _ rfl
  have kg0_c1 := kg0.here.cell 1 _ rfl
  have kg0_c2 := kg0.here.cell 2 _ rfl
  have kw0_c0 := kw0.here.cell 0 _ rfl
  have kw0_c1 := kw0.here.cell 1 _ rfl
  have kw0_c2 := kw0.here.cell 2 _ rfl
  go_wp2_with fail
  clear kg0_c0 kg0_c1 kg0_c2 kw0_c0 kw0_c1 kw0_c2
  refine (eqM_cal _ _ R0 R0 _ (capM_of (by omega)) (OwnM.rd og0.here) (OwnM.rd ow0.here)).mono ?_
  rintro e w5 ⟨rfl, b5⟩
  rw [decide_refl]
  have bb5 := Below.next bb4 b5
  replace ka := ka.below b5
  replace kw0 := kw0.below b5
  replace ow0 := ow0.below b5
  replace kxa := kxa.below b5
  replace oxa := oxa.below b5
  replace kg0 := kg0.below b5
  replace og0 := og0.below b5
  have ka_c0 := ka.here.cell 0 _ rfl
  have ka_c1 := ka.here.cell 1 _ rfl
  have ka_c2 := ka.here.cell 2 _ rfl
  have kxa_c0 := kxa.here.cell 0 _ rfl
  have kxa_c1 := kxa.here.cell 1 _ rfl
  have kxa_c2 := kxa.here.cell 2 _ rfl
  go_wp2_with fail
  have HB0 := Lib.hid (show Below w5.heap.size w5 w5.drew from (Below.refl _ _).drew)
  have KL := Lib.hid (show ∀ W, Below w5.heap.size w5 W → W.cell? ⟨w.heap.size, 0, none⟩ = some (.string a.1) ∧ W.cell? ⟨w.heap.size, 1, none⟩ = some (.bool a.2.1) ∧ W.cell? ⟨w.heap.size, 2, none⟩ = some (.slice Aa a.2.2.length ca) ∧ W.cell? ⟨gxa, 0, none⟩ = some (.string a.1) ∧ W.cell? ⟨gxa, 1, none⟩ = some (.bool a.2.1) ∧ W.cell? ⟨gxa, 2, none⟩ = some (.slice Axa a.2.2.length cxa) ∧ Hid (Below w5.heap.size w5 W) from
    fun W hb => ⟨(ka.below hb).here.cell 0 _ rfl, (ka.below hb).here.cell 1 _ rfl, (ka.below hb).here.cell 2 _ rfl, (kxa.below hb).here.cell 0 _ rfl, (kxa.below hb).here.cell 1 _ rfl, (kxa.below hb).here.cell 2 _ rfl, Lib.hid hb⟩)
  have BBF := Lib.hid (show ∀ W, Below w5.heap.size w5 W → Below w.heap.size w W from fun W hb => Below.next bb5 hb)
  have OXF := Lib.hid (show ∀ W, Below w5.heap.size w5 W → OwnM (.agg #[.string a.1, .bool a.2.1, .slice Axa a.2.2.length cxa]) a W from fun W hb => (oxa.below hb).here)
  clear ka_c0 ka_c1 ka_c2 kxa_c0 kxa_c1 kxa_c2
  go_region_held3 (fun W => W.cell? ⟨w.heap.size, 0, none⟩ = some (.string a.1) ∧ W.cell? ⟨w.heap.size, 1, none⟩ = some (.bool a.2.1) ∧ W.cell? ⟨w.heap.size, 2, none⟩ = some (.slice Aa a.2.2.length ca) ∧ W.cell? ⟨gxa, 0, none⟩ = some (.string a.1) ∧ W.cell? ⟨gxa, 1, none⟩ = some (.bool a.2.1) ∧ W.cell? ⟨gxa, 2, none⟩ = some (.slice Axa a.2.2.length cxa) ∧ Hid (Below w5.heap.size w5 W))
    ((refine KL.out _ ?_; (first | exact HBe.out | exact HBt.out | exact HB0.out | fail)))
    (first
      | (go_at_call 18; (have hBB := (‹_ ∧ _ ∧ _ ∧ _ ∧ _ ∧ _ ∧ Hid (Below w5.heap.size w5 _)›).2.2.2.2.2.2); (with_reducible refine (toM_new _ a _ hza (RFa.out _ (BBF.out _ hBB.out))).mono ?_); rintro e wt ⟨t, St, rfl, ot, lt, bt⟩; have HBt := Lib.hid (Below.next hBB.out bt); clear hBB)
      | (go_at_call 20; (have hBB := (‹_ ∧ _ ∧ _ ∧ _ ∧ _ ∧ _ ∧ Hid (Below w5.heap.size w5 _)›).2.2.2.2.2.2); (with_reducible refine (eqM_cal _ _ a a _ (capM_of hza) (OwnM.rd (OXF.out _ hBB.out)) (OwnM.rd ot.here)).mono ?_); rintro e w6 ⟨rfl, be⟩; rw [decide_refl]; have HBe := Lib.hid (Below.next hBB.out be); clear hBB))
  have b6 := HBe.out
  have bb6 := Below.next bb5 b6
  replace ka := ka.below b6
  replace kw0 := kw0.below b6
  replace ow0 := ow0.below b6
  replace kxa := kxa.below b6
  replace oxa := oxa.below b6
  replace kg0 := kg0.below b6
  replace og0 := og0.below b6
  clear HB0 KL BBF OXF HBt HBe ot lt
  have z1 := b1.size
  have z2 := b2.size
  have z3 := b3.size
  have z4 := b4.size
  have z5 := b5.size
  have z6 := b6.size
  have AP_xa_g0 := Lib.hid (Within.apart lxa lg0 (.inl (by omega)))
  have AP_w0_xa := Lib.hid (Within.apart lw0 lxa (.inl (by omega)))
  have AP_w0_g0 := Lib.hid (Within.apart lw0 lg0 (.inl (by omega)))
  have F_xa := Lib.hid (Within.from (B := w.heap.size) lxa (by have := bb1.size; omega))
  have N_xa := Lib.hid nxa
  have KX_a_xa := Lib.hid (show ∀ i ∈ [w.heap.size], i ∉ gxa :: Sxa from fun i hi hm => by have h1 := (lxa i hm).1; have h2 := HKa.out; simp at hi; omega)
  have F_g0 := Lib.hid (Within.from (B := w.heap.size) lg0 (by have := bb1.size; omega))
  have N_g0 := Lib.hid ng0
  have KX_a_g0 := Lib.hid (show ∀ i ∈ [w.heap.size], i ∉ gg0 :: Sg0 from fun i hi hm => by have h1 := (lg0 i hm).1; have h2 := HKa.out; simp at hi; omega)
  clear z1 z2 z3 z4 z5 z6
  have kxa_c0 := kxa.here.cell 0 _ rfl
  have kxa_c1 := kxa.here.cell 1 _ rfl
  have kxa_c2 := kxa.here.cell 2 _ rfl
  go_wp2_with fail
  clear kxa_c0 kxa_c1 kxa_c2
  refine (markM_cal _ a _ (1) _ (by omega) (by omega) oxa).mono ?_
  rintro e w7 ⟨rfl, mkxa, c7⟩
  clear oxa
  have bb7 := below_chg bb6 c7 bb6.size (fun i hi => F_xa.out i (List.mem_cons_of_mem _ hi))
  replace ka := ka.chg c7 (fun i hi hm => KX_a_xa.out i hi (List.mem_cons_of_mem _ hm))
  replace kw0 := kw0.chg c7 (fun i hi hm => AP_w0_xa.out i (by simp at hi; subst hi; exact List.mem_cons_self ..) (List.mem_cons_of_mem _ hm))
  replace ow0 := ow0.chg c7 (fun i hi hm => AP_w0_xa.out i (List.mem_cons_of_mem _ hi) (List.mem_cons_of_mem _ hm))
  replace kxa := kxa.chg c7 (fun i hi hm => by simp at hi; subst hi; exact N_xa.out hm)
  replace kg0 := kg0.chg c7 (fun i hi hm => (apart_symm AP_xa_g0.out) i (by simp at hi; subst hi; exact List.mem_cons_self ..) (List.mem_cons_of_mem _ hm))
  replace og0 := og0.chg c7 (fun i hi hm => (apart_symm AP_xa_g0.out) i (List.mem_cons_of_mem _ hi) (List.mem_cons_of_mem _ hm))
  have hk : decide (((1 + mkM a) : Int) < 0) = false := decide_eq_false (by omega)
  have kg0_c0 := kg0.here.cell 0 _ rfl
  have kg0_c1 := kg0.here.cell 1 _ rfl
  have kg0_c2 := kg0.here.cell 2 _ rfl
  have kw0_c0 := kw0.here.cell 0 _ rfl
  have kw0_c1 := kw0.here.cell 1 _ rfl
  have kw0_c2 := kw0.here.cell 2 _ rfl
  go_wp2_with fail
  clear kg0_c0 kg0_c1 kg0_c2 kw0_c0 kw0_c1 kw0_c2
  refine (eqM_cal _ _ R0 R0 _ (capM_of (by omega)) (OwnM.rd og0.here) (OwnM.rd ow0.here)).mono ?_
  rintro e w8 ⟨rfl, b8⟩
  rw [decide_refl]
  have bb8 := Below.next bb7 b8
  replace ka := ka.below b8
  replace kw0 := kw0.below b8
  replace ow0 := ow0.below b8
  replace kxa := kxa.below b8
  replace kg0 := kg0.below b8
  replace og0 := og0.below b8
  replace mkxa := mkxa.below b8
  clear hk
  have kg0_c0 := kg0.here.cell 0 _ rfl
  have kg0_c1 := kg0.here.cell 1 _ rfl
  have kg0_c2 := kg0.here.cell 2 _ rfl
  go_wp2_with fail
  clear kg0_c0 kg0_c1 kg0_c2
  refine (markM_cal _ R0 _ (1) _ (by omega) (by omega) og0).mono ?_
  rintro e w9 ⟨rfl, mkg0, c9⟩
  clear og0
  have bb9 := below_chg bb8 c9 bb8.size (fun i hi => F_g0.out i (List.mem_cons_of_mem _ hi))
  replace ka := ka.chg c9 (fun i hi hm => KX_a_g0.out i hi (List.mem_cons_of_mem _ hm))
  replace kw0 := kw0.chg c9 (fun i hi hm => AP_w0_g0.out i (by simp at hi; subst hi; exact List.mem_cons_self ..) (List.mem_cons_of_mem _ hm))
  replace ow0 := ow0.chg c9 (fun i hi hm => AP_w0_g0.out i (List.mem_cons_of_mem _ hi) (List.mem_cons_of_mem _ hm))
  replace kxa := kxa.chg c9 (fun i hi hm => AP_xa_g0.out i (by simp at hi; subst hi; exact List.mem_cons_self ..) (List.mem_cons_of_mem _ hm))
  replace kg0 := kg0.chg c9 (fun i hi hm => by simp at hi; subst hi; exact N_g0.out hm)
  replace mkxa := mkxa.chg c9 (fun i hi hm => AP_xa_g0.out i (List.mem_cons_of_mem _ hi) (List.mem_cons_of_mem _ hm))
  have kg0_c0 := kg0.here.cell 0 _ rfl
  have kg0_c1 := kg0.here.cell 1 _ rfl
  have kg0_c2 := kg0.here.cell 2 _ rfl
  go_wp2_with fail
  clear kg0_c0 kg0_c1 kg0_c2
  refine (heldM_cal _ R0 (1) _ (by omega) (by omega) mkg0.here).mono ?_
  rintro e w10 ⟨rfl, b10⟩
  have bb10 := Below.next bb9 b10
  replace ka := ka.below b10
  replace kw0 := kw0.below b10
  replace ow0 := ow0.below b10
  replace kxa := kxa.below b10
  replace kg0 := kg0.below b10
  replace mkxa := mkxa.below b10
  replace mkg0 := mkg0.below b10
  have hq10 : decide ((1 : Int) + mkM R0 < 0) = false := decide_eq_false (by omega)
  have ka_c0 := ka.here.cell 0 _ rfl
  have ka_c1 := ka.here.cell 1 _ rfl
  have ka_c2 := ka.here.cell 2 _ rfl
  go_upto_region 24 with fail
  go_cut [14, 15] (fun s t1 wx => NewLocV 32 (fun v => OwnM v R0) w10 s wx ∧ t1 = .bool R1)
  case first =>
    go_wp2_with fail
    refine (toM_new _ a _ hza (RFa.out _ bb10)).mono ?_
    rintro e wt ⟨ut, St, rfl, ot, lt, bt⟩
    obtain ⟨At, ct, rfl⟩ := ownM_form ot.here
    go_wp2_with fail
    have bb_t := Below.next bb10 bt
    refine (HI.out _ _ ot.here (HT0.out.below bb_t)).mono ?_
    rintro e wf ⟨uf, Sf, rfl, of, lf, bf⟩
    obtain ⟨Af, cf, rfl⟩ := ownM_form of.here
    have bwf := Below.next bt bf
    go_wp2_with fail
    go_meet
    exact ⟨newLocV_last of lf bt.size bwf, rfl⟩
  rename World => w11
  clear ka_c0 ka_c1 ka_c2
  obtain ⟨⟨gh0, csh0, Sh0, rfl, kh0, oh0, nh0, lh0, b11⟩, rfl⟩ := hcut
  obtain ⟨Ah0, ch0, eh0⟩ := ownM_form oh0.here
  injection eh0 with eh0
  subst eh0
  have bb11 := Below.next bb10 b11
  replace ka := ka.below b11
  replace kw0 := kw0.below b11
  replace ow0 := ow0.below b11
  replace kxa := kxa.below b11
  replace kg0 := kg0.below b11
  replace mkxa := mkxa.below b11
  replace mkg0 := mkg0.below b11
  have kh0_c0 := kh0.here.cell 0 _ rfl
  have kh0_c1 := kh0.here.cell 1 _ rfl
  have kh0_c2 := kh0.here.cell 2 _ rfl
  have kw0_c0 := kw0.here.cell 0 _ rfl
  have kw0_c1 := kw0.here.cell 1 _ rfl
  have kw0_c2 := kw0.here.cell 2 _ rfl
  go_wp2_with fail
  clear kh0_c0 kh0_c1 kh0_c2 kw0_c0 kw0_c1 kw0_c2
  refine (eqM_cal _ _ R0 R0 _ (capM_of (by omega)) (OwnM.rd oh0.here) (OwnM.rd ow0.here)).mono ?_
  rintro e w12 ⟨rfl, b12⟩
  rw [decide_refl]
  have bb12 := Below.next bb11 b12
  replace ka := ka.below b12
  replace kw0 := kw0.below b12
  replace ow0 := ow0.below b12
  replace kxa := kxa.below b12
  replace kg0 := kg0.below b12
  replace mkxa := mkxa.below b12
  replace mkg0 := mkg0.below b12
  replace kh0 := kh0.below b12
  replace oh0 := oh0.below b12
  have kg0_c0 := kg0.here.cell 0 _ rfl
  have kg0_c1 := kg0.here.cell 1 _ rfl
  have kg0_c2 := kg0.here.cell 2 _ rfl
  go_wp2_with fail
  clear kg0_c0 kg0_c1 kg0_c2
  refine (heldM_cal _ R0 (1) _ (by omega) (by omega) mkg0.here).mono ?_
  rintro e w13 ⟨rfl, b13⟩
  have bb13 := Below.next bb12 b13
  replace ka := ka.below b13
  replace kw0 := kw0.below b13
  replace ow0 := ow0.below b13
  replace kxa := kxa.below b13
  replace kg0 := kg0.below b13
  replace mkxa := mkxa.below b13
  replace mkg0 := mkg0.below b13
  replace kh0 := kh0.below b13
  replace oh0 := oh0.below b13
  have hq13 : decide ((1 : Int) + mkM R0 < 0) = false := decide_eq_false (by omega)
  go_wp2
  go_ret
  exact ⟨rfl, bb13⟩
end Go.Proofs.YtcenmdiblbooeaaDoor

namespace Go.Proofs.YtcenmdiblbooeaaDoor
open Go.RowKit

set_option maxHeartbeats 4000000 in
set_option maxRecDepth 100000 in
theorem lawMoneyCmp_walk (va : Value) (vb : Value) (a : MI) (b : MI) (R0 : Int) (R1 : Bool) (w : World)
    (hS : ∀ (ua : Value) (ub : Value) (W : World), OwnM ua a W → OwnM ub b W → Calls Tryd.prog 35 #[ua, ub] W (Postnb R0 R1 W))
    (hI : ∀ (ua : Value) (ub : Value) (W : World), OwnM ua a W → OwnM ub b W → CurTab W → Calls Tryd.prog 36 #[ua, ub] W (Postnb R0 R1 W))
    (ht0 : CurTab w) (hl : szM a + szM b ≤ 1048576) (ra : RdM w va a) (rb : RdM w vb b) :
    Calls Tryd.prog 11 #[va, vb] w fun e w' => e = .returned (.bool true) ∧ Below w.heap.size w w' := by
  have HS := Lib.hid hS
  have HI := Lib.hid hI
  clear hS hI
  have HT0 := Lib.hid ht0
  clear ht0
  have hsa := szM_nonneg a
  have hsb := szM_nonneg b
  have hma := mkM_range a
  have hmb := mkM_range b
  have hza : szM a ≤ 1048576 := by omega
  obtain ⟨Aa, ca, rfl⟩ := rdM_form ra
  have hzb : szM b ≤ 1048576 := by omega
  obtain ⟨Ab, cb, rfl⟩ := rdM_form rb
  have bb0 : Below w.heap.size w ((w.alloc (.cells #[.string a.1, .bool a.2.1, .slice Aa a.2.2.length ca] 27)).alloc (.cells #[.string b.1, .bool b.2.1, .slice Ab b.2.2.length cb] 27)) := below_al (below_al (Below.refl _ _) _) _
  have ka := (box_new w #[.string a.1, .bool a.2.1, .slice Aa a.2.2.length ca] 27).below (below_al (Below.refl _ _) (.cells #[.string b.1, .bool b.2.1, .slice Ab b.2.2.length cb] 27))
  have kb := (box_new (w.alloc (.cells #[.string a.1, .bool a.2.1, .slice Aa a.2.2.length ca] 27)) #[.string b.1, .bool b.2.1, .slice Ab b.2.2.length cb] 27)
  rw [show (w.alloc (.cells #[.string a.1, .bool a.2.1, .slice Aa a.2.2.length ca] 27)).heap.size = w.heap.size + 1 by simp] at kb
  have RFa : Hid (∀ W, Below w.heap.size w W → RdM W (.agg #[.string a.1, .bool a.2.1, .slice Aa a.2.2.length ca]) a) := Lib.hid fun W hb => ra.below hb
  have RFb : Hid (∀ W, Below w.heap.size w W → RdM W (.agg #[.string b.1, .bool b.2.1, .slice Ab b.2.2.length cb]) b) := Lib.hid fun W hb => rb.below hb
  go_enter Tryd.func11, Tryd.ntmps11
  have ka_c0 := ka.here.cell 0 _ rfl
  have ka_c1 := ka.here.cell 1 _ rfl
  have ka_c2 := ka.here.cell 2 _ rfl
  go_wp2_with fail
  clear ka_c0 ka_c1 ka_c2
  refine (szM_cal _ a (1048576) _ (capM_of hza) (by omega) (by omega) (RFa.out _ bb0)).mono ?_
  rintro e w1 ⟨rfl, b1⟩
  rw [leftI_of (by omega)]
  have bb1 := Below.next bb0 b1
  replace ka := ka.below b1
  replace kb := kb.below b1
  have hn : decide (((1048576 : Int) - szM a : Int) < 0) = false := decide_eq_false (by omega)
  have kb_c0 := kb.here.cell 0 _ rfl
  have kb_c1 := kb.here.cell 1 _ rfl
  have kb_c2 := kb.here.cell 2 _ rfl
  go_wp2_with fail
  clear kb_c0 kb_c1 kb_c2
  refine (szM_cal _ b (1048576 - szM a) _ (capM_of hzb) (by omega) (by omega) (RFb.out _ bb1)).mono ?_
  rintro e w2 ⟨rfl, b2⟩
  rw [leftI_of (by omega)]
  have bb2 := Below.next bb1 b2
  replace ka := ka.below b2
  replace kb := kb.below b2
  clear hn
  have hn : decide (((1048576 : Int) - szM a - szM b : Int) < 0) = false := decide_eq_false (by omega)
  have HKa := Lib.hid (ka.lt (w.heap.size) (by simp))
  have HKb := Lib.hid (kb.lt (w.heap.size + 1) (by simp))
  have ka_c0 := ka.here.cell 0 _ rfl
  have ka_c1 := ka.here.cell 1 _ rfl
  have ka_c2 := ka.here.cell 2 _ rfl
  have kb_c0 := kb.here.cell 0 _ rfl
  have kb_c1 := kb.here.cell 1 _ rfl
  have kb_c2 := kb.here.cell 2 _ rfl
  go_wp2_with fail
  have HB0 := Lib.hid (show Below w2.heap.size w2 w2.drew from (Below.refl _ _).drew)
  have KL := Lib.hid (show ∀ W, Below w2.heap.size w2 W → W.cell? ⟨w.heap.size, 0, none⟩ = some (.string a.1) ∧ W.cell? ⟨w.heap.size, 1, none⟩ = some (.bool a.2.1) ∧ W.cell? ⟨w.heap.size, 2, none⟩ = some (.slice Aa a.2.2.length ca) ∧ W.cell? ⟨w.heap.size + 1, 0, none⟩ = some (.string b.1) ∧ W.cell? ⟨w.heap.size + 1, 1, none⟩ = some (.bool b.2.1) ∧ W.cell? ⟨w.heap.size + 1, 2, none⟩ = some (.slice Ab b.2.2.length cb) ∧ Hid (Below w2.heap.size w2 W) from
    fun W hb => ⟨(ka.below hb).here.cell 0 _ rfl, (ka.below hb).here.cell 1 _ rfl, (ka.below hb).here.cell 2 _ rfl, (kb.below hb).here.cell 0 _ rfl, (kb.below hb).here.cell 1 _ rfl, (kb.below hb).here.cell 2 _ rfl, Lib.hid hb⟩)
  have BBF := Lib.hid (show ∀ W, Below w2.heap.size w2 W → Below w.heap.size w W from fun W hb => Below.next bb2 hb)
  clear ka_c0 ka_c1 ka_c2 kb_c0 kb_c1 kb_c2
  go_region_held3 (fun W => W.cell? ⟨w.heap.size, 0, none⟩ = some (.string a.1) ∧ W.cell? ⟨w.heap.size, 1, none⟩ = some (.bool a.2.1) ∧ W.cell? ⟨w.heap.size, 2, none⟩ = some (.slice Aa a.2.2.length ca) ∧ W.cell? ⟨w.heap.size + 1, 0, none⟩ = some (.string b.1) ∧ W.cell? ⟨w.heap.size + 1, 1, none⟩ = some (.bool b.2.1) ∧ W.cell? ⟨w.heap.size + 1, 2, none⟩ = some (.slice Ab b.2.2.length cb) ∧ Hid (Below w2.heap.size w2 W))
    ((refine KL.out _ ?_; (first | exact HBf.out | exact HBtb.out | exact HBta.out | exact HB0.out | fail)))
    (first
      | (go_at_call 18; (have hBB := (‹_ ∧ _ ∧ _ ∧ _ ∧ _ ∧ _ ∧ Hid (Below w2.heap.size w2 _)›).2.2.2.2.2.2); (with_reducible refine (toM_new _ a _ hza (RFa.out _ (BBF.out _ hBB.out))).mono ?_); rintro e wta ⟨ta, Sta, rfl, ota, lta, bta⟩; have HBta := Lib.hid (Below.next hBB.out bta); clear hBB)
      | (go_at_call 18; (have hBB := (‹_ ∧ _ ∧ _ ∧ _ ∧ _ ∧ _ ∧ Hid (Below w2.heap.size w2 _)›).2.2.2.2.2.2); (with_reducible refine (toM_new _ b _ hzb (RFb.out _ (BBF.out _ hBB.out))).mono ?_); rintro e wtb ⟨tb, Stb, rfl, otb, ltb, btb⟩; have HBtb := Lib.hid (Below.next hBB.out btb); (have otab := At.below (by first | exact ota | exact At.below ota (below_al (Below.refl _ _) _)) btb); clear hBB)
      | (go_at_call 35; (have hBB := (‹_ ∧ _ ∧ _ ∧ _ ∧ _ ∧ _ ∧ Hid (Below w2.heap.size w2 _)›).2.2.2.2.2.2); (with_reducible refine (HS.out _ _ _ (At.here (by first | exact otab | exact At.below otab (below_al (Below.refl _ _) _))) (At.here (by first | exact otb | exact At.below otb (below_al (Below.refl _ _) _)))).mono ?_); rintro e w3 ⟨rfl, bf⟩; have HBf := Lib.hid (Below.next hBB.out bf); clear hBB))
  have b3 := HBf.out
  have bb3 := Below.next bb2 b3
  replace ka := ka.below b3
  replace kb := kb.below b3
  clear HB0 KL BBF HBf HBta ota lta HBtb otb ltb
  have ka_c0 := ka.here.cell 0 _ rfl
  have ka_c1 := ka.here.cell 1 _ rfl
  have ka_c2 := ka.here.cell 2 _ rfl
  go_upto_region 9 with fail
  go_cut [8] (fun s wx => NewLocV 32 (fun v => OwnM v a) w3 s wx)
  case first =>
    go_wp2_with fail
    refine (toM_new _ a _ hza (RFa.out _ bb3)).mono ?_
    rintro e wt ⟨ut, St, rfl, ot, lt, bt⟩
    obtain ⟨At, ct, rfl⟩ := ownM_form ot.here
    go_wp2_with fail
    go_meet
    exact newLocV_last ot lt (Nat.le_refl _) bt
  rename World => w4
  clear ka_c0 ka_c1 ka_c2
  obtain ⟨gxa, csxa, Sxa, rfl, kxa, oxa, nxa, lxa, b4⟩ := hcut
  obtain ⟨Axa, cxa, exa⟩ := ownM_form oxa.here
  injection exa with exa
  subst exa
  have bb4 := Below.next bb3 b4
  replace ka := ka.below b4
  replace kb := kb.below b4
  have kb_c0 := kb.here.cell 0 _ rfl
  have kb_c1 := kb.here.cell 1 _ rfl
  have kb_c2 := kb.here.cell 2 _ rfl
  go_upto_region 10 with fail
  go_cut [9] (fun s wx => NewLocV 32 (fun v => OwnM v b) w4 s wx)
  case first =>
    go_wp2_with fail
    refine (toM_new _ b _ hzb (RFb.out _ bb4)).mono ?_
    rintro e wt ⟨ut, St, rfl, ot, lt, bt⟩
    obtain ⟨At, ct, rfl⟩ := ownM_form ot.here
    go_wp2_with fail
    go_meet
    exact newLocV_last ot lt (Nat.le_refl _) bt
  rename World => w5
  clear kb_c0 kb_c1 kb_c2
  obtain ⟨gxb, csxb, Sxb, rfl, kxb, oxb, nxb, lxb, b5⟩ := hcut
  obtain ⟨Axb, cxb, exb⟩ := ownM_form oxb.here
  injection exb with exb
  subst exb
  have bb5 := Below.next bb4 b5
  replace ka := ka.below b5
  replace kb := kb.below b5
  replace kxa := kxa.below b5
  replace oxa := oxa.below b5
  have kxa_c0 := kxa.here.cell 0 _ rfl
  have kxa_c1 := kxa.here.cell 1 _ rfl
  have kxa_c2 := kxa.here.cell 2 _ rfl
  have kxb_c0 := kxb.here.cell 0 _ rfl
  have kxb_c1 := kxb.here.cell 1 _ rfl
  have kxb_c2 := kxb.here.cell 2 _ rfl
  go_wp2_with fail
  clear kxa_c0 kxa_c1 kxa_c2 kxb_c0 kxb_c1 kxb_c2
  refine (HI.out _ _ _ oxa.here oxb.here (HT0.out.below bb5)).mono ?_
  rintro e w6 ⟨rfl, b6⟩
  have bb6 := Below.next bb5 b6
  replace ka := ka.below b6
  replace kb := kb.below b6
  replace kxa := kxa.below b6
  replace oxa := oxa.below b6
  replace kxb := kxb.below b6
  replace oxb := oxb.below b6
  have ka_c0 := ka.here.cell 0 _ rfl
  have ka_c1 := ka.here.cell 1 _ rfl
  have ka_c2 := ka.here.cell 2 _ rfl
  have kxa_c0 := kxa.here.cell 0 _ rfl
  have kxa_c1 := kxa.here.cell 1 _ rfl
  have kxa_c2 := kxa.here.cell 2 _ rfl
  go_wp2_with fail
  have HB0 := Lib.hid (show Below w6.heap.size w6 w6.drew from (Below.refl _ _).drew)
  have KL := Lib.hid (show ∀ W, Below w6.heap.size w6 W → W.cell? ⟨w.heap.size, 0, none⟩ = some (.string a.1) ∧ W.cell? ⟨w.heap.size, 1, none⟩ = some (.bool a.2.1) ∧ W.cell? ⟨w.heap.size, 2, none⟩ = some (.slice Aa a.2.2.length ca) ∧ W.cell? ⟨gxa, 0, none⟩ = some (.string a.1) ∧ W.cell? ⟨gxa, 1, none⟩ = some (.bool a.2.1) ∧ W.cell? ⟨gxa, 2, none⟩ = some (.slice Axa a.2.2.length cxa) ∧ Hid (Below w6.heap.size w6 W) from
    fun W hb => ⟨(ka.below hb).here.cell 0 _ rfl, (ka.below hb).here.cell 1 _ rfl, (ka.below hb).here.cell 2 _ rfl, (kxa.below hb).here.cell 0 _ rfl, (kxa.below hb).here.cell 1 _ rfl, (kxa.below hb).here.cell 2 _ rfl, Lib.hid hb⟩)
  have BBF := Lib.hid (show ∀ W, Below w6.heap.size w6 W → Below w.heap.size w W from fun W hb => Below.next bb6 hb)
  have OXF := Lib.hid (show ∀ W, Below w6.heap.size w6 W → OwnM (.agg #[.string a.1, .bool a.2.1, .slice Axa a.2.2.length cxa]) a W from fun W hb => (oxa.below hb).here)
  clear ka_c0 ka_c1 ka_c2 kxa_c0 kxa_c1 kxa_c2
  go_region_held3 (fun W => W.cell? ⟨w.heap.size, 0, none⟩ = some (.string a.1) ∧ W.cell? ⟨w.heap.size, 1, none⟩ = some (.bool a.2.1) ∧ W.cell? ⟨w.heap.size, 2, none⟩ = some (.slice Aa a.2.2.length ca) ∧ W.cell? ⟨gxa, 0, none⟩ = some (.string a.1) ∧ W.cell? ⟨gxa, 1, none⟩ = some (.bool a.2.1) ∧ W.cell? ⟨gxa, 2, none⟩ = some (.slice Axa a.2.2.length cxa) ∧ Hid (Below w6.heap.size w6 W))
    ((refine KL.out _ ?_; (first | exact HBe.out | exact HBt.out | exact HB0.out | fail)))
    (first
      | (go_at_call 18; (have hBB := (‹_ ∧ _ ∧ _ ∧ _ ∧ _ ∧ _ ∧ Hid (Below w6.heap.size w6 _)›).2.2.2.2.2.2); (with_reducible refine (toM_new _ a _ hza (RFa.out _ (BBF.out _ hBB.out))).mono ?_); rintro e wt ⟨t, St, rfl, ot, lt, bt⟩; have HBt := Lib.hid (Below.next hBB.out bt); clear hBB)
      | (go_at_call 20; (have hBB := (‹_ ∧ _ ∧ _ ∧ _ ∧ _ ∧ _ ∧ Hid (Below w6.heap.size w6 _)›).2.2.2.2.2.2); (with_reducible refine (eqM_cal _ _ a a _ (capM_of hza) (OwnM.rd (OXF.out _ hBB.out)) (OwnM.rd ot.here)).mono ?_); rintro e w7 ⟨rfl, be⟩; rw [decide_refl]; have HBe := Lib.hid (Below.next hBB.out be); clear hBB))
  have b7 := HBe.out
  have bb7 := Below.next bb6 b7
  replace ka := ka.below b7
  replace kb := kb.below b7
  replace kxa := kxa.below b7
  replace oxa := oxa.below b7
  replace kxb := kxb.below b7
  replace oxb := oxb.below b7
  clear HB0 KL BBF OXF HBt HBe ot lt
  have kb_c0 := kb.here.cell 0 _ rfl
  have kb_c1 := kb.here.cell 1 _ rfl
  have kb_c2 := kb.here.cell 2 _ rfl
  have kxb_c0 := kxb.here.cell 0 _ rfl
  have kxb_c1 := kxb.here.cell 1 _ rfl
  have kxb_c2 := kxb.here.cell 2 _ rfl
  go_wp2_with fail
  have HB0 := Lib.hid (show Below w7.heap.size w7 w7.drew from (Below.refl _ _).drew)
  have KL := Lib.hid (show ∀ W, Below w7.heap.size w7 W → W.cell? ⟨w.heap.size + 1, 0, none⟩ = some (.string b.1) ∧ W.cell? ⟨w.heap.size + 1, 1, none⟩ = some (.bool b.2.1) ∧ W.cell? ⟨w.heap.size + 1, 2, none⟩ = some (.slice Ab b.2.2.length cb) ∧ W.cell? ⟨gxb, 0, none⟩ = some (.string b.1) ∧ W.cell? ⟨gxb, 1, none⟩ = some (.bool b.2.1) ∧ W.cell? ⟨gxb, 2, none⟩ = some (.slice Axb b.2.2.length cxb) ∧ Hid (Below w7.heap.size w7 W) from
    fun W hb => ⟨(kb.below hb).here.cell 0 _ rfl, (kb.below hb).here.cell 1 _ rfl, (kb.below hb).here.cell 2 _ rfl, (kxb.below hb).here.cell 0 _ rfl, (kxb.below hb).here.cell 1 _ rfl, (kxb.below hb).here.cell 2 _ rfl, Lib.hid hb⟩)
  have BBF := Lib.hid (show ∀ W, Below w7.heap.size w7 W → Below w.heap.size w W from fun W hb => Below.next bb7 hb)
  have OXF := Lib.hid (show ∀ W, Below w7.heap.size w7 W → OwnM (.agg #[.string b.1, .bool b.2.1, .slice Axb b.2.2.length cxb]) b W from fun W hb => (oxb.below hb).here)
  clear kb_c0 kb_c1 kb_c2 kxb_c0 kxb_c1 kxb_c2
  go_region_held3 (fun W => W.cell? ⟨w.heap.size + 1, 0, none⟩ = some (.string b.1) ∧ W.cell? ⟨w.heap.size + 1, 1, none⟩ = some (.bool b.2.1) ∧ W.cell? ⟨w.heap.size + 1, 2, none⟩ = some (.slice Ab b.2.2.length cb) ∧ W.cell? ⟨gxb, 0, none⟩ = some (.string b.1) ∧ W.cell? ⟨gxb, 1, none⟩ = some (.bool b.2.1) ∧ W.cell? ⟨gxb, 2, none⟩ = some (.slice Axb b.2.2.length cxb) ∧ Hid (Below w7.heap.size w7 W))
    ((refine KL.out _ ?_; (first | exact HBe.out | exact HBt.out | exact HB0.out | fail)))
    (first
      | (go_at_call 18; (have hBB := (‹_ ∧ _ ∧ _ ∧ _ ∧ _ ∧ _ ∧ Hid (Below w7.heap.size w7 _)›).2.2.2.2.2.2); (with_reducible refine (toM_new _ b _ hzb (RFb.out _ (BBF.out _ hBB.out))).mono ?_); rintro e wt ⟨t, St, rfl, ot, lt, bt⟩; have HBt := Lib.hid (Below.next hBB.out bt); clear hBB)
      | (go_at_call 20; (have hBB := (‹_ ∧ _ ∧ _ ∧ _ ∧ _ ∧ _ ∧ Hid (Below w7.heap.size w7 _)›).2.2.2.2.2.2); (with_reducible refine (eqM_cal _ _ b b _ (capM_of hzb) (OwnM.rd (OXF.out _ hBB.out)) (OwnM.rd ot.here)).mono ?_); rintro e w8 ⟨rfl, be⟩; rw [decide_refl]; have HBe := Lib.hid (Below.next hBB.out be); clear hBB))
  have b8 := HBe.out
  have bb8 := Below.next bb7 b8
  replace ka := ka.below b8
  replace kb := kb.below b8
  replace kxa := kxa.below b8
  replace oxa := oxa.below b8
  replace kxb := kxb.below b8
  replace oxb := oxb.below b8
  clear HB0 KL BBF OXF HBt HBe ot lt
  go_wp2
  go_ret
  exact ⟨rfl, bb8⟩
end Go.Proofs.YtcenmdiblbooeaaDoor

namespace Go.Proofs.YtcenmdiblbooeaaDoor
open Go.RowKit Go.Extern.Stop Go.Stop Go.Extern

theorem isTypeOf (v : Value) (w : World) : (Extern.ReflectliteType.typeOf #[.iface 189 v]).run Tryd.prog w = .ok (.iface 165 (.agg #[.pointer (some ⟨8, 189, none⟩)])) w := by kernel_rfl
theorem isComparable (w : World) : ((Extern.ReflectliteType.method fun t => do Extern.Rtype.noPackHeld "Comparable" t; (fun a => Value.bool a.comparable) <$> typeInfo t) #[.agg #[.pointer (some ⟨8, 189, none⟩)]]).run Tryd.prog w = .ok (.bool true) w := by kernel_rfl
theorem isMethodComparable (v : Value) (w : World) : (Go.method 322 165 v "Comparable").run Tryd.prog w = .ok (192, v) w := by kernel_rfl
theorem isComp : (Tryd.prog.info? 189).map (·.comparable) = some true := by kernel_rfl
theorem isSize : (Tryd.prog.info? 211).map (·.size) = some 1 := by kernel_rfl
/-- the sentinel is at hand -/
def Sen (w : World) : Prop := ∃ a : Addr, w.cell? ⟨1, 0, none⟩ = some (.iface 189 (.pointer (some a)))
theorem Sen.below {w w' : World} (h : Sen w) (hb : Below w.heap.size w w') : Sen w' := by
  obtain ⟨a, ha⟩ := h
  exact ⟨a, (hb.cell (cell_lt ha)).trans ha⟩

set_option maxHeartbeats 1000000 in
set_option maxRecDepth 100000 in
theorem is_same (a : Addr) (w : World) :
    Calls Tryd.prog 139 #[.iface 189 (.pointer (some a)), .iface 189 (.pointer (some a))] w fun e w' => e = .returned (.bool true) ∧ w = w' := by
  obtain ⟨i, hi, hcmp⟩ := Option.map_eq_some_iff.1 isComp
  obtain ⟨j, hj, hjs⟩ := Option.map_eq_some_iff.1 isSize
  have h8 := @run_callFunc_extern Tryd.prog 152 _ Extern.ReflectliteType.typeOf Tryd.func152 (by kernel_rfl) (by kernel_rfl) (by kernel_rfl) (by kernel_rfl)
  have h32 := @run_callFunc_extern Tryd.prog 192 _ (Extern.ReflectliteType.method fun t => do Extern.Rtype.noPackHeld "Comparable" t; pure (.bool (← typeInfo t).comparable)) Tryd.func192 (by kernel_rfl) (by kernel_rfl) (by kernel_rfl) (by kernel_rfl)
  have tT := isTypeOf
  have cT := isComparable
  have mR := isMethodComparable
  have heq := run_eql_iface_ptr_same (P := Tryd.prog) w a Tryd.underlying122 Tryd.underlying189 hi hcmp hj
  go_enter Tryd.func139, Tryd.ntmps139
  go_wp2
  refine wp_loop_rounds 1 ?_
  rw [rounds_succ]
  go_wp2
  go_ret
  exact ⟨rfl, rfl⟩
set_option maxHeartbeats 400000 in
set_option maxRecDepth 100000 in
theorem is_nil (b : Addr) (w : World) :
    Calls Tryd.prog 139 #[.nilIface, .iface 189 (.pointer (some b))] w fun e w' => e = .returned (.bool false) ∧ w = w' := by
  have hn := run_eql_iface_nil_left (P := Tryd.prog) w 189 (.pointer (some b)) Tryd.underlying122
  go_enter Tryd.func139, Tryd.ntmps139
  go_wp2
  go_ret
  exact ⟨rfl, rfl⟩
end Go.Proofs.YtcenmdiblbooeaaDoor

namespace Go.Proofs.YtcenmdiblbooeaaDoor
open Go.ChangeShapes Go.WideShapes Go.ChangeAt Go.RowKit

theorem senNamed : Tryd.prog.globalNamed "loop.example/g00793/impl.errZeroDivisor" = some 1 := by kernel_rfl
theorem senType : (Tryd.prog.globals[1]?).map (·.type) = some 122 := by kernel_rfl
theorem senCells : Tryd.prog.cellsOf 211 = 1 := by kernel_rfl
theorem strCells : Tryd.prog.cellsOf 9 = 1 := by kernel_rfl
theorem senStar : "*" ++ "errors.errorString" = "*errors.errorString" := by decide
theorem senRow (u : TypeId) (h : Tryd.prog.typeName? 3 u = some "*errors.errorString") : u = 189 :=
  typeName_ptr_named (nm := "errors.errorString") (by rw [senStar]; kernel_rfl) (by kernel_rfl) (by decide) u (by rw [senStar]; exact h)
/-- what the sentinel reads as -/
def senText : List UInt8 := [100, 105, 118, 105, 115, 105, 111, 110, 32, 98, 121, 32, 122, 101, 114, 111]
theorem senData : (Rows.laid_loop_example_g00793_impl_errZeroDivisor : DataW Unit) = .iface "*errors.errorString" (.ptr (.agg [.lit (.string senText)])) := by kernel_rfl
/-- the variable's value -/
def SenAt (a : Addr) (w : World) : Prop := w.var? Tryd.prog "loop.example/g00793/impl.errZeroDivisor" = some #[.iface 189 (.pointer (some a))]
theorem SenAt.sen {a : Addr} {w : World} (h : SenAt a w) : Sen w := ⟨a, by simpa using World.var?_cell senNamed h 0⟩
theorem sen_of {r : List (String × DataW Unit)} {W : World} (h : laidMet Tryd.prog (("loop.example/g00793/impl.errZeroDivisor", Rows.laid_loop_example_g00793_impl_errZeroDivisor) :: r) W) : ∃ a, SenAt a W := by
  rw [senData] at h
  obtain ⟨a, s, hv, _⟩ := laid_sentinel h senNamed senType Tryd.underlying122 senRow Tryd.underlying189 Tryd.underlying211 rfl rfl Tryd.underlying9 senCells strCells
  exact ⟨a, hv⟩
theorem SenAt.below {a : Addr} {w w' : World} (h : SenAt a w) (hb : Below w.heap.size w w') : SenAt a w' := by
  obtain ⟨_, hc⟩ := h.sen
  have hl := cell_lt hc
  unfold SenAt World.var? at h ⊢
  rw [senNamed] at h ⊢
  simp only [Option.bind_some] at h ⊢
  rw [hb.block _ hl]
  exact h

/-- the post of a law that names the sentinel -/
theorem law_post1 {H : Type} {enc : TypeId × Value → H} {f : Func} {s : ChangeSpec} {tb : TypeId} {a : Addr} {W W' : World} {args : Array Value} {ds gs : List (DataW H)} {before : List MemPlace}
    (hr : legible Tryd.prog f.params.toList = true) (hty : f.resultTypes = #[tb]) (htb : Tryd.prog.underlying tb = some .bool) (hvars : s.vars = ["loop.example/g00793/impl.errZeroDivisor"])
    (hs : SenAt a W) (hfn : ∀ g, s.fn H (ds ++ [g]) = { results := [.lit (.bool true)], args := ds, vars := [g] })
    (hW : DataW.Whole enc Tryd.prog f.params.toList s.vars false W args.toList ds gs before) (hb : Below W.heap.size W W') :
    s.post enc Tryd.prog f false true false false W args (.bool true) W' := by
  have hW' := hW
  obtain ⟨p, q, hA, hV, rfl, _, _⟩ := hW
  rw [hvars] at hV
  have vr : ∀ {X : World}, SenAt a X → ∀ sp : Nat → Bool, DataW.TrodVars enc Tryd.prog X sp ["loop.example/g00793/impl.errZeroDivisor"] [tok enc (.iface 189 (.pointer (some a)))] [.cell 1 0] :=
    fun x0 sp => vars_read1 enc senNamed senType Tryd.underlying122 x0 trivial sp
  obtain ⟨rfl, rfl⟩ := hV.unique (vr hs _)
  have hlt : ∀ x ∈ p, x.block < W.heap.size := fun x hx => hW'.lt x (by simp [hx])
  refine ⟨ds, _, _, [], p, [.cell 1 0], hW', ?_, ?_, ?_, hb.frame _, fun h => by cases h⟩
  · rw [hfn, hty]
    exact trodAll_mk1 (shut_bool htb _)
  · rw [hfn]
    exact args_below Tryd.laidOut hb hr hA hlt
  · rw [hfn, hvars]
    exact vr (hs.below hb) _

/-- a world for the witness: the settled one, the listed variable holding what its initialiser lays -/
def putSen (cs : Array Value) : Obj → Obj
  | .cells _ t frozen => .cells cs t frozen
  | o => o
noncomputable def low : Nat := (World.holding Tryd.prog default ⟨#[], #[], []⟩).heap.size
noncomputable def senWorld (os : Os) : World :=
  let w0 := World.holding Tryd.prog os ⟨#[.cells #[.string ⟨senText.toArray⟩] 211], #[], []⟩
  { w0 with heap := w0.heap.modify 1 (putSen #[.iface 189 (.pointer (some ⟨low, 0, none⟩))]) }

set_option maxRecDepth 100000 in
/-- from the walk at every argument, the listed variables at hand, to the lifted row -/
theorem law_lifted_sen {H : Type} {enc : TypeId × Value → H} {os : Os} (started : os.Started) {F : Stop.Interp} {f : FuncId} {fn : Func} {s : ChangeSpec} {conds : List PathCond} {tb : TypeId} {laidL : List (String × DataW Unit)}
    (noInit : Tryd.prog.inits.idxOf? f = none) (hfun : Tryd.prog.funcs[f]? = some fn)
    (hr : legible Tryd.prog fn.params.toList = true) (hty : fn.resultTypes = #[tb]) (htb : Tryd.prog.underlying tb = some .bool) (hvars : s.vars = ["loop.example/g00793/impl.errZeroDivisor"])
    (hsen : ∀ W, laidMetH Tryd.prog laidL W → ∃ a, SenAt a W)
    (witness : ∃ (w : World) (tape : Tape) (i : Input), w.os = os ∧ (w.forCall tape i).Shaped Tryd.checked.prog ∧ i.vars = [] ∧ Input.okWide Tryd.checked.prog (w.forCall tape i) .any w.heap.size f i ∧
      (OpenSpec.ofChange s).preRow enc Tryd.checked.prog fn conds false laidL (w.forCall tape i).memory i.args ∧ Assume.holds {} Tryd.checked.prog (lone (Frame.enter Tryd.checked.prog f i.args .normal) [] (w.forCall tape i)))
    (walk : ∀ (W : World) (base : Nat) (args : Array Value) (ds : List (DataW H)) (p : List MemPlace),
      (∀ (j : Nat) t v, fn.params[j]? = some t → args[j]? = some v → Value.okWide Tryd.prog W .any base t v) →
      DataW.TrodAll enc Tryd.prog W 0 (fun _ => true) true fn.params.toList args.toList ds p → (∀ x ∈ p, x.block < W.heap.size) → laidMetH Tryd.prog laidL W → Sen W →
      (∀ g, s.fn H (ds ++ [g]) = { results := [.lit (.bool true)], args := ds, vars := [g] }) ∧ Calls Tryd.prog f args W fun e W' => e = .returned (.bool true) ∧ Below W.heap.size W W') :
    ReturnsInHanded {} Tryd.checked os f .any ((OpenSpec.ofChange s).preRow enc Tryd.prog fn conds false laidL) (((OpenSpec.ofChange s).at F).post enc Tryd.prog fn false true false false) := by
  refine returnsInHanded_of_row (C := Tryd.checked) (s := OpenSpec.ofChange s) Tryd.own started noInit hfun witness ?_
  intro W base args ds gs before hval hW0 _ _ _ hL _ _
  have hW : DataW.Whole enc Tryd.prog fn.params.toList s.vars false W args.toList ds gs before := hW0
  have hW' := hW
  obtain ⟨p, q, hA, hV, rfl, _, _⟩ := hW
  obtain ⟨a, ha⟩ := hsen W hL
  obtain ⟨hfn, hc⟩ := walk W base args ds p hval hA (fun x hx => hW'.lt x (by simp [hx])) hL ha.sen
  refine hc.mono fun e W' ⟨he, hb⟩ => ?_
  subst he
  exact ⟨_, rfl, law_post1 hr hty htb hvars ha hfn hW' hb⟩
end Go.Proofs.YtcenmdiblbooeaaDoor

namespace Go.Proofs.YtcenmdiblbooeaaDoor
open Go.ChangeShapes Go.WideShapes Go.ChangeAt Go.RowKit

noncomputable def curSenWorld (os : Os) : World :=
  { senWorld os with heap := (senWorld os).heap.modify 0 (putC (cellsT implT).toArray) }
end Go.Proofs.YtcenmdiblbooeaaDoor

namespace Go.Proofs.YtcenmdiblbooeaaDoor
open Go.RowKit

/-- a fraction as data -/
abbrev QI : Type := SI × List Int
def zeroQ : QI := (zeroS, [])
/-- what RatOk answers -/
def okQ (q : QI) : Bool := okS q.1 && natOkB q.2 && decide (0 < q.2.length ∧ q.2.length ≤ 18 ∧ q.1.2.length ≤ 18 ∧ Nat.gcd (nval q.1.2).toNat (nval q.2).toNat = 1)
/-- a fraction in lowest terms, with its sign; false where it has too many limbs, or is by 0 -/
def lowQ (n : Bool) (a b : Nat) : QI × Bool :=
  if b ≠ 0 ∧ (limbs (a / Nat.gcd a b)).length ≤ 18 ∧ (limbs (b / Nat.gcd a b)).length ≤ 18 then ((mkS n (limbs (a / Nat.gcd a b)), limbs (b / Nat.gcd a b)), true) else (zeroQ, false)
def numQ (q : QI) : Int := valS q.1
def denQ (q : QI) : Nat := (nval q.2).toNat
theorem okQ_parts {q : QI} (h : okQ q = true) : okS q.1 = true ∧ natOkB q.2 = true ∧ 0 < q.2.length ∧ q.2.length ≤ 18 ∧ q.1.2.length ≤ 18 ∧ Nat.gcd (nval q.1.2).toNat (nval q.2).toNat = 1 := by
  unfold okQ at h
  rw [Bool.and_eq_true, Bool.and_eq_true, decide_eq_true_eq] at h
  exact ⟨h.1.1, h.1.2, h.2.1, h.2.2.1, h.2.2.2.1, h.2.2.2.2⟩
/-- what the functions answer -/
def makeQ (x y : SI) : QI × Bool := if okS x = true ∧ okS y = true then lowQ (x.1 != y.1) (nval x.2).toNat (nval y.2).toNat else (zeroQ, false)
def addQ (r s : QI) : QI × Bool := if okQ r = true ∧ okQ s = true then lowQ (decide (numQ r * denQ s + numQ s * denQ r < 0)) (numQ r * denQ s + numQ s * denQ r).natAbs (denQ r * denQ s) else (zeroQ, false)
def negQ (r : QI) : QI × Bool := if okQ r = true then ((negS r.1, r.2), true) else (zeroQ, false)
def mulQ (r s : QI) : QI × Bool := if okQ r = true ∧ okQ s = true then lowQ (r.1.1 != s.1.1) ((nval r.1.2).toNat * (nval s.1.2).toNat) (denQ r * denQ s) else (zeroQ, false)
def divQ (r s : QI) : QI × Bool := if okQ r = true ∧ okQ s = true then lowQ (r.1.1 != s.1.1) ((nval r.1.2).toNat * denQ s) (denQ r * (nval s.1.2).toNat) else (zeroQ, false)
def subQ (r s : QI) : QI × Bool := if (negQ s).2 = true then addQ r (negQ s).1 else (zeroQ, false)
def cmpQ (r s : QI) : Int := if okQ r = true ∧ okQ s = true then cmpI (numQ r * denQ s) (numQ s * denQ r) else 0
def oneQ : QI := (zeroS, [1])
theorem denQ_pos {q : QI} (h : okQ q = true) : 0 < denQ q := by
  have hp := okQ_parts h
  have h1 := ok_ge hp.2.1 hp.2.2.1
  have h2 := bp_pos (q.2.length - 1)
  unfold denQ
  omega
theorem oneQ_ok : okQ oneQ = true := by
  have e : nval [1] = 1 := rfl
  unfold okQ oneQ
  rw [e]
  rfl
theorem limbs_18 {n : Bool} {m : Nat} (h : (limbs m).length ≤ 18) : mkS n (limbs m) = (n && decide (0 < (limbs m).length), limbs m) := by
  unfold mkS capL
  rw [if_neg (by omega)]
/-- what comes out in lowest terms is right -/
theorem lowQ_ok (n : Bool) (a b : Nat) (h : (lowQ n a b).2 = true) : okQ (lowQ n a b).1 = true := by
  unfold lowQ at h ⊢
  split
  · rename_i hc
    obtain ⟨hb, h1, h2⟩ := hc
    have hg : 0 < Nat.gcd a b := Nat.gcd_pos_of_pos_right _ (by omega)
    have hbq : b / Nat.gcd a b ≠ 0 := by
      have := Nat.div_pos (Nat.le_of_dvd (by omega) (Nat.gcd_dvd_right a b)) hg
      omega
    have hlb : 0 < (limbs (b / Nat.gcd a b)).length := by
      rcases Nat.eq_zero_or_pos (limbs (b / Nat.gcd a b)).length with h0 | h0
      · exact absurd ((limbs_zero_iff _).1 h0) hbq
      · exact h0
    have hs : okS (mkS n (limbs (a / Nat.gcd a b))) = true := by rw [mkS_limbs]; exact ofZ_ok _
    have e2 : (mkS n (limbs (a / Nat.gcd a b))).2 = limbs (a / Nat.gcd a b) := by rw [limbs_18 h1]
    unfold okQ
    simp only
    rw [hs, limbs_okL _ (by omega), e2, limbs_val, limbs_val, Int.toNat_natCast, Int.toNat_natCast]
    simp only [Bool.true_and, decide_eq_true_eq]
    exact ⟨hlb, h2, h1, Nat.gcd_div_gcd_div_gcd_of_pos_right (by omega)⟩
  · rename_i hc
    rw [if_neg hc] at h
    cases h
end Go.Proofs.YtcenmdiblbooeaaDoor

namespace Go.Proofs.YtcenmdiblbooeaaDoor
open Go.RowKit

/-- a value that stands for it, its limbs of the call's own, those of the two parts apart -/
def OwnQ (v : Value) (q : QI) (w : World) : Prop := ∃ u d, v = .agg #[.bool q.1.1, u, d] ∧ OwnI u q.1.2 w ∧ OwnI d q.2 w ∧ (∀ g, u.ownBlock = some g → d.ownBlock ≠ some g)
def MarkQ (v : Value) (q : QI) (m : Int) (w : World) : Prop := ∃ u d, v = .agg #[.bool q.1.1, u, d] ∧ MarkI u q.1.2 m w ∧ MarkI d q.2 (m + szS q.1) w
/-- a value that reads as it -/
def RdQ (w : World) (v : Value) (q : QI) : Prop := ∃ u d, v = .agg #[.bool q.1.1, u, d] ∧ Row w 0 w.heap.size u (intsV q.1.2) ∧ Row w 0 w.heap.size d (intsV q.2)
def szQ (q : QI) : Int := szS q.1 + szI q.2
theorem OwnQ.rd {v : Value} {q : QI} {w : World} (h : OwnQ v q w) : RdQ w v q := by
  obtain ⟨u, d, rfl, o, p, _⟩ := h
  exact ⟨u, d, rfl, o.row, p.row⟩
theorem RdQ.below {w W : World} {v : Value} {q : QI} (h : RdQ w v q) (hb : Below w.heap.size w W) : RdQ W v q := by
  obtain ⟨u, d, rfl, o, p⟩ := h
  exact ⟨u, d, rfl, (o.below hb (Nat.le_refl _)).wide (Nat.le_refl _) hb.size, (p.below hb (Nat.le_refl _)).wide (Nat.le_refl _) hb.size⟩
/-- a new fraction -/
def NewQ (q : QI) (w : World) (e : Ending) (w' : World) : Prop :=
  ∃ u d, e = .returned (.agg #[.bool q.1.1, u, d]) ∧ w'.ownsRow w.heap.size 3 1 u q.1.2.length (intsV q.1.2) ∧ w'.ownsRow w.heap.size 3 1 d q.2.length (intsV q.2) ∧ (∀ g, u.ownBlock = some g → d.ownBlock ≠ some g) ∧ Below w.heap.size w w'

set_option maxHeartbeats 400000 in
set_option maxRecDepth 100000 in
theorem eqRat_at (u v : Value) (x y : QI) (w : World) (hl : x.1.2.length ≤ 9223372036854775807) (hl2 : x.2.length ≤ 9223372036854775807) (hu : RdQ w u x) (hv : RdQ w v y) :
    Calls Tryd.prog 39 #[u, v] w fun e w' => e = .returned (.bool (decide (x = y))) ∧ Below w.heap.size w w' := by
  obtain ⟨p, d, rfl, hp, hd⟩ := hu
  obtain ⟨q, f, rfl, hq, hf⟩ := hv
  obtain ⟨Ap, cp, rfl⟩ := row_form hp
  obtain ⟨Ad, cd, rfl⟩ := row_form hd
  obtain ⟨Aq, cq, rfl⟩ := row_form hq
  obtain ⟨Af, cf, rfl⟩ := row_form hf
  simp only [intsV_length] at hp hd hq hf ⊢
  have hb : Below w.heap.size w ((w.alloc (.cells #[.bool x.1.1, .slice Ap x.1.2.length cp, .slice Ad x.2.length cd] 49)).alloc (.cells #[.bool y.1.1, .slice Aq y.1.2.length cq, .slice Af y.2.length cf] 49)) := below_al (below_al (Below.refl _ _) _) _
  have kx := (box_new w #[.bool x.1.1, .slice Ap x.1.2.length cp, .slice Ad x.2.length cd] 49).below (below_al (Below.refl _ _) (.cells #[.bool y.1.1, .slice Aq y.1.2.length cq, .slice Af y.2.length cf] 49))
  have ky := box_new (w.alloc (.cells #[.bool x.1.1, .slice Ap x.1.2.length cp, .slice Ad x.2.length cd] 49)) #[.bool y.1.1, .slice Aq y.1.2.length cq, .slice Af y.2.length cf] 49
  rw [show (w.alloc (.cells #[.bool x.1.1, .slice Ap x.1.2.length cp, .slice Ad x.2.length cd] 49)).heap.size = w.heap.size + 1 by simp] at ky
  go_enter Tryd.func39, Tryd.ntmps39
  go_wp2_with fail
  refine (eqSigned_at _ _ x.1 y.1 _ hl (rdS_below hp hb) (rdS_below hq hb)).mono ?_
  rintro e w1 ⟨rfl, b1⟩
  have bb1 := Below.next hb b1
  replace kx := kx.below b1
  replace ky := ky.below b1
  have cx2 := kx.here.cell 2 _ rfl
  have cy2 := ky.here.cell 2 _ rfl
  have hd1 := hd.below bb1 (Nat.le_refl _)
  have hf1 := hf.below bb1 (Nat.le_refl _)
  clear hp hq kx ky hd hf
  by_cases h1 : x.1 = y.1
  · rw [decide_eq_true h1]
    have H1 := Lib.hid h1
    clear h1
    go_wp2_with fail
    refine (eqIntS_any _ _ x.2 y.2 0 w.heap.size 0 w.heap.size _ hl2 hd1 hf1).mono ?_
    rintro e w2 ⟨rfl, n, rfl⟩
    by_cases h2 : x.2 = y.2
    · rw [decide_eq_true h2]
      have HV := Lib.hid (show decide (x = y) = true from decide_eq_true (Prod.ext H1.out h2))
      clear h2
      go_wp2
      go_ret
      exact ⟨ret_bool HV.out.symm, below_drewN bb1 n⟩
    · rw [decide_eq_false h2]
      have HV := Lib.hid (show decide (x = y) = false from decide_eq_false (fun e => h2 (by rw [e])))
      clear h2
      go_wp2
      go_ret
      exact ⟨ret_bool HV.out.symm, below_drewN bb1 n⟩
  · rw [decide_eq_false h1]
    have HV := Lib.hid (show decide (x = y) = false from decide_eq_false (fun e => h1 (by rw [e])))
    clear h1
    go_wp2
    go_ret
    exact ⟨ret_bool HV.out.symm, bb1⟩


theorem set3_at {g : Nat} {a b c c0 c1 c2 : Value} {T : TypeId} {W : World} (h : BoxAt g #[c0, c1, c2] T W) : BoxAt g #[a, b, c2] T ((W.setCell ⟨g, 0, none⟩ a).setCell ⟨g, 1, none⟩ b) ∧ BoxAt g #[c0, c1, c] T (W.setCell ⟨g, 2, none⟩ c) := by
  have h' : W.heap[g]? = some (.cells #[c0, c1, c2] T (0, 0)) := h
  exact ⟨by simp [BoxAt, World.setCell, Array.getElem?_modify, h'], by simp [BoxAt, World.setCell, Array.getElem?_modify, h']⟩

/-- the blocks of the limbs of both parts -/
def partsB (u d : Value) : List Nat := u.ownBlock.toList ++ d.ownBlock.toList
theorem At.both {S T : List Nat} {φ ψ : World → Prop} {w : World} (h : At S φ w) (k : At T ψ w) : At (S ++ T) (fun w => φ w ∧ ψ w) w :=
  ⟨⟨h.here, k.here⟩, fun g hg => by rcases List.mem_append.1 hg with hg | hg; exact h.lt g hg; exact k.lt g hg,
    fun w' hk => ⟨h.stays w' fun g hg => hk g (List.mem_append_left _ hg), k.stays w' fun g hg => hk g (List.mem_append_right _ hg)⟩⟩
set_option maxHeartbeats 400000 in
set_option maxRecDepth 100000 in
theorem markRat_at (u d : Value) (x : QI) (m : Int) (w : World) (hm : m + szQ x ≤ 9223372036854775807) (hm0 : 0 ≤ m) (ou : OwnI u x.1.2 w) (od : OwnI d x.2 w) (hap : ∀ g, u.ownBlock = some g → d.ownBlock ≠ some g) :
    Calls Tryd.prog 40 #[.agg #[.bool x.1.1, u, d], .int .i64 m] w fun e w' => e = .returned (.int .i64 (m + szQ x)) ∧ At (partsB u d) (MarkQ (.agg #[.bool x.1.1, u, d]) x m) w' ∧ Chg (partsB u d) w w' := by
  obtain ⟨A, c, rfl⟩ := own_len ou
  obtain ⟨B, f, rfl⟩ := own_len od
  have hs0 : 0 ≤ szS x.1 := by unfold szS szI; omega
  have hs1 : 0 ≤ szI x.2 := by unfold szI; omega
  have HZ := Lib.hid (show szQ x = szS x.1 + szI x.2 from rfl)
  rw [HZ.out] at hm
  have hbx := below_al (Below.refl w.heap.size w) (.cells #[.bool x.1.1, .slice A x.1.2.length c, .slice B x.2.length f] 49)
  have kx := box_new w #[.bool x.1.1, .slice A x.1.2.length c, .slice B x.2.length f] 49
  have au := (own_at' ou).below hbx
  have ad := (own_at' od).below hbx
  have hltu := (own_at' ou).lt
  have hltd := (own_at' od).lt
  have dis : ∀ g ∈ (Value.slice B x.2.length f).ownBlock.toList, g ∉ (Value.slice A x.1.2.length c).ownBlock.toList := fun g hg hm => hap g (by simpa using hm) (by simpa using hg)
  have DIS := Lib.hid dis
  have HLU := Lib.hid hltu
  have HLD := Lib.hid hltd
  clear ou od hap dis hltu hltd
  go_enter Tryd.func40, Tryd.ntmps40
  go_wp2_with fail
  refine (markSigned_at _ x.1 _ m _ (by omega) hm0 (au.imp fun _ h => OwnS.mk (x := x.1) h)).mono ?_
  rintro e w1 ⟨rfl, mu, c1⟩
  replace ad := ad.chg c1 DIS.out
  replace kx := kx.chg c1 (fun i hi hm => by have := HLU.out i hm; simp at hi; omega)
  have cx2 := kx.here.cell 2 _ rfl
  have HC1 := Lib.hid c1
  have HMU := Lib.hid mu
  clear kx c1 au mu
  go_wp2_with fail
  refine (markIntS_at _ x.2 _ (m + szS x.1) _ (by omega) (by omega) ad).mono ?_
  rintro e w2 ⟨rfl, md, c2⟩
  have mu2 := HMU.out.chg c2 (fun i hi hm => DIS.out i hm hi)
  have hall := Lib.hid (show At (partsB (.slice A x.1.2.length c) (.slice B x.2.length f)) (MarkQ (.agg #[.bool x.1.1, .slice A x.1.2.length c, .slice B x.2.length f]) x m) w2 from
    (At.both mu2 md).imp fun W hh => by
      obtain ⟨⟨u', e1, hu'⟩, hd'⟩ := hh
      injection e1 with e1
      have e2 : u' = .slice A x.1.2.length c := by simpa using e1.symm
      rw [e2] at hu'
      exact ⟨_, _, rfl, hu', hd'⟩)
  have hchg := Lib.hid (show Chg (partsB (.slice A x.1.2.length c) (.slice B x.2.length f)) w w2 from
    (Chg.of_below hbx).trans ((HC1.out.more fun g hg => List.mem_append_left _ hg).trans (c2.more fun g hg => List.mem_append_right _ hg)))
  clear md c2 mu2 ad HMU
  go_wp2
  go_ret
  exact ⟨ret_int (by rw [HZ.out]; omega), hall.out, hchg.out⟩

set_option maxHeartbeats 400000 in
set_option maxRecDepth 100000 in
theorem heldRat_at (v : Value) (x : QI) (m : Int) (w : World) (hm : m + szQ x ≤ 9223372036854775807) (hm0 : 0 ≤ m) (h : MarkQ v x m w) :
    Calls Tryd.prog 41 #[v, .int .i64 m] w fun e w' => e = .returned (.int .i64 (m + szQ x)) ∧ Below w.heap.size w w' := by
  obtain ⟨u, d, rfl, ou, od⟩ := h
  obtain ⟨A, c, rfl⟩ := own_len ou
  obtain ⟨B, f, rfl⟩ := own_len od
  have hs0 : 0 ≤ szS x.1 := by unfold szS szI; omega
  have hs1 : 0 ≤ szI x.2 := by unfold szI; omega
  have HZ := Lib.hid (show szQ x = szS x.1 + szI x.2 from rfl)
  rw [HZ.out] at hm
  have hbx := below_al (Below.refl w.heap.size w) (.cells #[.bool x.1.1, .slice A x.1.2.length c, .slice B x.2.length f] 49)
  have kx := box_new w #[.bool x.1.1, .slice A x.1.2.length c, .slice B x.2.length f] 49
  have ou1 : MarkS (.agg #[.bool x.1.1, .slice A x.1.2.length c]) x.1 m _ := ⟨_, rfl, own_below ou hbx⟩
  have od1 := own_below od hbx
  clear ou od
  go_enter Tryd.func41, Tryd.ntmps41
  go_wp2_with fail
  refine (heldSigned_at _ x.1 m _ (by omega) hm0 ou1).mono ?_
  rintro e w1 ⟨rfl, b1⟩
  have bb1 := Below.next hbx b1
  replace kx := kx.below b1
  replace od1 := own_below od1 b1
  have cx2 := kx.here.cell 2 _ rfl
  have hn1 : decide (m + szS x.1 < 0) = false := decide_eq_false (by omega)
  clear ou1 kx
  go_wp2_with fail
  refine (heldIntS_at _ x.2 (m + szS x.1) _ (by omega) (by omega) od1).mono ?_
  rintro e w2 ⟨rfl, b2⟩
  have bb2 := Below.next bb1 b2
  have hn2 : decide (m + szS x.1 + szI x.2 < 0) = false := decide_eq_false (by omega)
  clear hn1
  go_wp2
  go_ret
  exact ⟨ret_int (by rw [HZ.out]; omega), bb2⟩
end Go.Proofs.YtcenmdiblbooeaaDoor

namespace Go.Proofs.YtcenmdiblbooeaaDoor
open Go.RowKit

/-! ### kind R: impl.Rat -/
def capQ (x : QI) : Prop := x.1.2.length ≤ 9223372036854775807 ∧ x.2.length ≤ 9223372036854775807
theorem szQ_nonneg (x : QI) : 0 ≤ szQ x := by unfold szQ szS szI; omega
theorem szQ_len {x : QI} (h : szQ x ≤ 1048576) : x.1.2.length ≤ 1048576 ∧ x.2.length ≤ 1048576 := by unfold szQ szS szI at h; omega
theorem capQ_of {x : QI} (h : szQ x ≤ 1048576) : capQ x := by have := szQ_len h; unfold capQ; omega
theorem ownQ_form {v : Value} {x : QI} {w : World} (h : OwnQ v x w) : ∃ A c B d, v = .agg #[.bool x.1.1, .slice A x.1.2.length c, .slice B x.2.length d] := by
  obtain ⟨u, d, rfl, o, p, _⟩ := h
  obtain ⟨A, c, rfl⟩ := own_len o
  obtain ⟨B, d, rfl⟩ := own_len p
  exact ⟨A, c, B, d, rfl⟩
theorem rdQ_form {v : Value} {x : QI} {w : World} (h : RdQ w v x) : ∃ A c B d, v = .agg #[.bool x.1.1, .slice A x.1.2.length c, .slice B x.2.length d] := by
  obtain ⟨u, d, rfl, o, p⟩ := h
  obtain ⟨A, c, rfl⟩ := row_form o
  obtain ⟨B, d, rfl⟩ := row_form p
  rw [intsV_length, intsV_length]
  exact ⟨A, c, B, d, rfl⟩
theorem partsQ_at {u d : Value} {x : QI} {B C : Nat} {w : World} (ou : w.ownsRow B 3 1 u x.1.2.length (intsV x.1.2)) (od : w.ownsRow C 3 1 d x.2.length (intsV x.2)) (hap : ∀ g, u.ownBlock = some g → d.ownBlock ≠ some g) :
    At (partsB u d) (OwnQ (.agg #[.bool x.1.1, u, d]) x) w := (At.both (own_at' ou) (own_at' od)).imp fun _ h => ⟨u, d, rfl, h.1, h.2, hap⟩
theorem NewQ.newV {x : QI} {w w' : World} {e : Ending} (h : NewQ x w e w') : NewV (fun v => OwnQ v x) w e w' := by
  obtain ⟨u, d, rfl, o, p, hap, b⟩ := h
  exact ⟨_, partsB u d, rfl, partsQ_at o p hap, fun g hg => by
    rcases List.mem_append.1 hg with hg | hg
    · exact own_within o g hg
    · exact own_within p g hg, b⟩
theorem eqQ_cal (u v : Value) (x y : QI) (w : World) (hz : capQ x) (hu : RdQ w u x) (hv : RdQ w v y) : Calls Tryd.prog 39 #[u, v] w (Postb (decide (x = y)) w) :=
  eqRat_at u v x y w hz.1 hz.2 hu hv
theorem ownQ_open {u d : Value} {c : Value} {x : QI} {w : World} (h : OwnQ (.agg #[c, u, d]) x w) : c = .bool x.1.1 ∧ OwnI u x.1.2 w ∧ OwnI d x.2 w ∧ (∀ g, u.ownBlock = some g → d.ownBlock ≠ some g) := by
  obtain ⟨u', d', e, hu, hd, hap⟩ := h
  injection e with e
  simp at e
  obtain ⟨e1, e2, e3⟩ := e
  subst e1 e2 e3
  exact ⟨rfl, hu, hd, hap⟩
theorem markQ_cal (v : Value) (x : QI) (S : List Nat) (m : Int) (w : World) (hm : m + szQ x ≤ 9223372036854775807) (hm0 : 0 ≤ m) (h : At S (OwnQ v x) w) :
    Calls Tryd.prog 40 #[v, .int .i64 m] w fun e w' => e = .returned (.int .i64 (m + szQ x)) ∧ At S (MarkQ v x m) w' ∧ Chg S w w' := by
  obtain ⟨u, d, rfl, ou, od, hap⟩ := h.here
  have hs : ∀ g ∈ partsB u d, g ∈ S := fun g hg => by
    rcases List.mem_append.1 hg with hg | hg
    · exact toList_own (at_ints_mem h fun w' k => (ownQ_open k).2.1) g hg
    · exact toList_own (at_ints_mem h fun w' k => (ownQ_open k).2.2.1) g hg
  refine (markRat_at u d x m w hm hm0 ou od hap).mono fun e w' k => ?_
  obtain ⟨e1, k1, k2⟩ := k
  have hc := k2.more hs
  exact ⟨e1, k1.more hs (fun g hg => Nat.lt_of_lt_of_le (h.lt g hg) hc.size), hc⟩
theorem heldQ_cal (v : Value) (x : QI) (m : Int) (w : World) (hm : m + szQ x ≤ 9223372036854775807) (hm0 : 0 ≤ m) (h : MarkQ v x m w) : Calls Tryd.prog 41 #[v, .int .i64 m] w (Postn (m + szQ x) w) :=
  heldRat_at v x m w hm hm0 h

/-! ### what calls answer: a new fraction or signed number, and scalars with it -/
def PostQb (R0 : QI) (R1 : Bool) (w : World) (e : Ending) (w' : World) : Prop :=
  ∃ (v : Value) (S : List Nat), e = .returned (.tuple #[v, .bool R1]) ∧ At S (OwnQ v R0) w' ∧ Within S w.heap.size w'.heap.size ∧ Below w.heap.size w w'
end Go.Proofs.YtcenmdiblbooeaaDoor
