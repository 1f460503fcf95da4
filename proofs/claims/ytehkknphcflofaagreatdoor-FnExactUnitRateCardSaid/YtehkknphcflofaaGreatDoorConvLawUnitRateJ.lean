/-
  The law FnExactUnitRate of chapter 12, walked: it returns true wherever both packages answer alike.
-/
import Derived.Deep.RegionHeld3
import Derived.Deep.DeepCutAuto
import Derived.Test.YtehkknphcflofaaGreatDoorJU10
namespace Go.Proofs.YtehkknphcflofaaGreatDoor
open Go.RowKit

set_option maxHeartbeats 4000000 in
set_option maxRecDepth 100000 in
theorem lawUnitRate_walk (va : Value) (a : TI) (p : ByteArray) (q : ByteArray) (R0 : QI) (R1 : Bool) (w : World)
    (hS : ∀ (ua : Value) (W : World), OwnT ua a W → Calls Tryz.prog 47 #[ua, .string p, .string q] W (PostQb R0 R1 W))
    (hI : ∀ (ua : Value) (W : World), OwnT ua a W → CurTab W → Sen W → Calls Tryz.prog 19 #[ua, .string p, .string q] W (PostQb R0 R1 W))
    (ht0 : CurTab w) (ht1 : Sen w) (hl : szT a ≤ 1048576) (hlp : p.size ≤ 1048576) (hlq : q.size ≤ 1048576) (hlR0 : szQ R0 ≤ 1048576) (ra : RdT w va a) :
    Calls Tryz.prog 8 #[va, .string p, .string q] w fun e w' => e = .returned (.bool true) ∧ Below w.heap.size w w' := by
  have HS := Lib.hid hS
  have HI := Lib.hid hI
  clear hS hI
  have HT0 := Lib.hid ht0
  clear ht0
  have HT1 := Lib.hid ht1
  clear ht1
  have hsa := szT_nonneg a
  have hsR0 := szQ_nonneg R0
  have hma := mkT_range a
  have hza : szT a ≤ 1048576 := by omega
  obtain ⟨Aa, ca, rfl⟩ := rdT_form ra
  have bb0 : Below w.heap.size w (w.alloc (.cells #[.string a.1, .slice Aa a.2.length ca] 78)) := below_al (Below.refl _ _) _
  have ka := (box_new w #[.string a.1, .slice Aa a.2.length ca] 78)
  have RFa : Hid (∀ W, Below w.heap.size w W → RdT W (.agg #[.string a.1, .slice Aa a.2.length ca]) a) := Lib.hid fun W hb => ra.below hb
  go_enter Tryz.func8, Tryz.ntmps8
  have ka_c0 := ka.here.cell 0 _ rfl
  have ka_c1 := ka.here.cell 1 _ rfl
  go_wp2_with fail
  clear ka_c0 ka_c1
  refine (szT_cal _ a (1048576) _ (capT_of hza) (by omega) (by omega) (RFa.out _ bb0)).mono ?_
  rintro e w1 ⟨rfl, b1⟩
  rw [leftI_of (by omega)]
  have bb1 := Below.next bb0 b1
  replace ka := ka.below b1
  have hn : decide (((1048576 : Int) - szT a : Int) < 0) = false := decide_eq_false (by omega)
  have HKa := Lib.hid (ka.lt (w.heap.size) (by simp))
  have ka_c0 := ka.here.cell 0 _ rfl
  have ka_c1 := ka.here.cell 1 _ rfl
  go_upto_region 9 with fail
  go_cut [8, 9] (fun s t1 wx => NewLocV 36 (fun v => OwnQ v R0) w1 s wx ∧ t1 = .bool R1)
  case first =>
    go_wp2_with fail
    refine (toT_new _ a _ hza (RFa.out _ bb1)).mono ?_
    rintro e wt ⟨ut, St, rfl, ot, lt, bt⟩
    obtain ⟨At, ct, rfl⟩ := ownT_form ot.here
    go_wp2_with fail
    refine (HS.out _ _ ot.here).mono ?_
    rintro e wf ⟨uf, Sf, rfl, of, lf, bf⟩
    obtain ⟨Af, cf, Bf, df, rfl⟩ := ownQ_form of.here
    have bwf := Below.next bt bf
    go_wp2_with fail
    go_meet
    exact ⟨newLocV_last of lf bt.size bwf, rfl⟩
  rename World => w2
  clear ka_c0 ka_c1
  obtain ⟨⟨gw0, csw0, Sw0, rfl, kw0, ow0, nw0, lw0, b2⟩, rfl⟩ := hcut
  obtain ⟨Aw0, cw0, Bw0, dw0, ew0⟩ := ownQ_form ow0.here
  injection ew0 with ew0
  subst ew0
  have bb2 := Below.next bb1 b2
  replace ka := ka.below b2
  have ka_c0 := ka.here.cell 0 _ rfl
  have ka_c1 := ka.here.cell 1 _ rfl
  go_upto_region 10 with fail
  go_cut [10] (fun s wx => NewLocV 25 (fun v => OwnT v a) w2 s wx)
  case first =>
    go_wp2_with fail
    refine (toT_new _ a _ hza (RFa.out _ bb2)).mono ?_
    rintro e wt ⟨ut, St, rfl, ot, lt, bt⟩
    obtain ⟨At, ct, rfl⟩ := ownT_form ot.here
    go_wp2_with fail
    go_meet
    exact newLocV_last ot lt (Nat.le_refl _) bt
  rename World => w3
  clear ka_c0 ka_c1
  obtain ⟨gxa, csxa, Sxa, rfl, kxa, oxa, nxa, lxa, b3⟩ := hcut
  obtain ⟨Axa, cxa, exa⟩ := ownT_form oxa.here
  injection exa with exa
  subst exa
  have bb3 := Below.next bb2 b3
  replace ka := ka.below b3
  replace kw0 := kw0.below b3
  replace ow0 := ow0.below b3
  have kxa_c0 := kxa.here.cell 0 _ rfl
  have kxa_c1 := kxa.here.cell 1 _ rfl
  go_upto_region 11 with fail
  go_cut [11, 12] (fun s t1 wx => NewLocV 36 (fun v => OwnQ v R0) w3 s wx ∧ t1 = .bool R1)
  case first =>
    go_wp2_with fail
    refine (HI.out _ _ oxa.here (HT0.out.below bb3) (HT1.out.below bb3)).mono ?_
    rintro e wf ⟨uf, Sf, rfl, of, lf, bf⟩
    obtain ⟨Af, cf, Bf, df, rfl⟩ := ownQ_form of.here
    go_wp2_with fail
    go_meet
    exact ⟨newLocV_last of lf (Nat.le_refl _) bf, rfl⟩
  rename World => w4
  clear kxa_c0 kxa_c1
  obtain ⟨⟨gg0, csg0, Sg0, rfl, kg0, og0, ng0, lg0, b4⟩, rfl⟩ := hcut
  obtain ⟨Ag0, cg0, Bg0, dg0, eg0⟩ := ownQ_form og0.here
  injection eg0 with eg0
  subst eg0
  have bb4 := Below.next bb3 b4
  replace ka := ka.below b4
  replace kw0 := kw0.below b4
  replace ow0 := ow0.below b4
  replace kxa := kxa.below b4
  replace oxa := oxa.below b4
  have kg0_c0 := kg0.here.cell 0 _ rfl
  have kg0_c1 := kg0.here.cell 1 _ rfl
  have kg0_c2 := kg0.here.cell 2 _ rfl
  have kw0_c0 := kw0.here.cell 0 _ rfl
  have kw0_c1 := kw0.here.cell 1 _ rfl
  have kw0_c2 := kw0.here.cell 2 _ rfl
  go_wp2_with fail
  clear kg0_c0 kg0_c1 kg0_c2 kw0_c0 kw0_c1 kw0_c2
  refine (eqQ_cal _ _ R0 R0 _ (capQ_of (by omega)) (OwnQ.rd og0.here) (OwnQ.rd ow0.here)).mono ?_
  rintro e w5 ⟨rfl, b5⟩
  rw [decide_refl]
  have bb5 := Below.next bb4 b5
  replace ka := ka.below b5
  replace kw0 := kw0.below b5
  replace ow0 := ow0.below b5
  replace kxa := kxa.below b5
  replace oxa := oxa.below b5
  replace kg0 := kg0.below b5
  replace og0 := og0.below b5
  have ka_c0 := ka.here.cell 0 _ rfl
  have ka_c1 := ka.here.cell 1 _ rfl
  have kxa_c0 := kxa.here.cell 0 _ rfl
  have kxa_c1 := kxa.here.cell 1 _ rfl
  go_wp2_with fail
  have HB0 := Lib.hid (show Below w5.heap.size w5 w5.drew from (Below.refl _ _).drew)
  have KL := Lib.hid (show ∀ W, Below w5.heap.size w5 W → W.cell? ⟨w.heap.size, 0, none⟩ = some (.string a.1) ∧ W.cell? ⟨w.heap.size, 1, none⟩ = some (.slice Aa a.2.length ca) ∧ W.cell? ⟨gxa, 0, none⟩ = some (.string a.1) ∧ W.cell? ⟨gxa, 1, none⟩ = some (.slice Axa a.2.length cxa) ∧ Hid (Below w5.heap.size w5 W) from
    fun W hb => ⟨(ka.below hb).here.cell 0 _ rfl, (ka.below hb).here.cell 1 _ rfl, (kxa.below hb).here.cell 0 _ rfl, (kxa.below hb).here.cell 1 _ rfl, Lib.hid hb⟩)
  have BBF := Lib.hid (show ∀ W, Below w5.heap.size w5 W → Below w.heap.size w W from fun W hb => Below.next bb5 hb)
  have OXF := Lib.hid (show ∀ W, Below w5.heap.size w5 W → OwnT (.agg #[.string a.1, .slice Axa a.2.length cxa]) a W from fun W hb => (oxa.below hb).here)
  clear ka_c0 ka_c1 kxa_c0 kxa_c1
  go_region_held3 (fun W => W.cell? ⟨w.heap.size, 0, none⟩ = some (.string a.1) ∧ W.cell? ⟨w.heap.size, 1, none⟩ = some (.slice Aa a.2.length ca) ∧ W.cell? ⟨gxa, 0, none⟩ = some (.string a.1) ∧ W.cell? ⟨gxa, 1, none⟩ = some (.slice Axa a.2.length cxa) ∧ Hid (Below w5.heap.size w5 W))
    ((refine KL.out _ ?_; (first | exact HBe.out | exact HBt.out | exact HB0.out | fail)))
    (first
      | (go_at_call 48; (have hBB := (‹_ ∧ _ ∧ _ ∧ _ ∧ Hid (Below w5.heap.size w5 _)›).2.2.2.2); (with_reducible refine (toT_new _ a _ hza (RFa.out _ (BBF.out _ hBB.out))).mono ?_); rintro e wt ⟨t, St, rfl, ot, lt, bt⟩; have HBt := Lib.hid (Below.next hBB.out bt); clear hBB)
      | (go_at_call 50; (have hBB := (‹_ ∧ _ ∧ _ ∧ _ ∧ Hid (Below w5.heap.size w5 _)›).2.2.2.2); (with_reducible refine (eqT_cal _ _ a a _ (capTS_of hza) (OwnT.rd (OXF.out _ hBB.out)) (OwnT.rd ot.here)).mono ?_); rintro e w6 ⟨rfl, be⟩; rw [decide_refl]; have HBe := Lib.hid (Below.next hBB.out be); clear hBB))
  have b6 := HBe.out
  have bb6 := Below.next bb5 b6
  replace ka := ka.below b6
  replace kw0 := kw0.below b6
  replace ow0 := ow0.below b6
  replace kxa := kxa.below b6
  replace oxa := oxa.below b6
  replace kg0 := kg0.below b6
  replace og0 := og0.below b6
  clear HB0 KL BBF OXF HBt HBe ot lt
  have z1 := b1.size
  have z2 := b2.size
  have z3 := b3.size
  have z4 := b4.size
  have z5 := b5.size
  have z6 := b6.size
  have AP_xa_g0 := Lib.hid (Within.apart lxa lg0 (.inl (by omega)))
  have AP_w0_xa := Lib.hid (Within.apart lw0 lxa (.inl (by omega)))
  have AP_w0_g0 := Lib.hid (Within.apart lw0 lg0 (.inl (by omega)))
  have F_xa := Lib.hid (Within.from (B := w.heap.size) lxa (by have := bb1.size; omega))
  have N_xa := Lib.hid nxa
  have KX_a_xa := Lib.hid (show ∀ i ∈ [w.heap.size], i ∉ gxa :: Sxa from fun i hi hm => by have h1 := (lxa i hm).1; have h2 := HKa.out; simp at hi; omega)
  have F_g0 := Lib.hid (Within.from (B := w.heap.size) lg0 (by have := bb1.size; omega))
  have N_g0 := Lib.hid ng0
  have KX_a_g0 := Lib.hid (show ∀ i ∈ [w.heap.size], i ∉ gg0 :: Sg0 from fun i hi hm => by have h1 := (lg0 i hm).1; have h2 := HKa.out; simp at hi; omega)
  clear z1 z2 z3 z4 z5 z6
  have kxa_c0 := kxa.here.cell 0 _ rfl
  have kxa_c1 := kxa.here.cell 1 _ rfl
  go_wp2_with fail
  clear kxa_c0 kxa_c1
  refine (markT_cal _ a _ (1) _ (by omega) (by omega) oxa).mono ?_
  rintro e w7 ⟨rfl, mkxa, c7⟩
  clear oxa
  have bb7 := below_chg bb6 c7 bb6.size (fun i hi => F_xa.out i (List.mem_cons_of_mem _ hi))
  replace ka := ka.chg c7 (fun i hi hm => KX_a_xa.out i hi (List.mem_cons_of_mem _ hm))
  replace kw0 := kw0.chg c7 (fun i hi hm => AP_w0_xa.out i (by simp at hi; subst hi; exact List.mem_cons_self ..) (List.mem_cons_of_mem _ hm))
  replace ow0 := ow0.chg c7 (fun i hi hm => AP_w0_xa.out i (List.mem_cons_of_mem _ hi) (List.mem_cons_of_mem _ hm))
  replace kxa := kxa.chg c7 (fun i hi hm => by simp at hi; subst hi; exact N_xa.out hm)
  replace kg0 := kg0.chg c7 (fun i hi hm => (apart_symm AP_xa_g0.out) i (by simp at hi; subst hi; exact List.mem_cons_self ..) (List.mem_cons_of_mem _ hm))
  replace og0 := og0.chg c7 (fun i hi hm => (apart_symm AP_xa_g0.out) i (List.mem_cons_of_mem _ hi) (List.mem_cons_of_mem _ hm))
  have hk : decide (((1 + mkT a) : Int) < 0) = false := decide_eq_false (by omega)
  have kg0_c0 := kg0.here.cell 0 _ rfl
  have kg0_c1 := kg0.here.cell 1 _ rfl
  have kg0_c2 := kg0.here.cell 2 _ rfl
  have kw0_c0 := kw0.here.cell 0 _ rfl
  have kw0_c1 := kw0.here.cell 1 _ rfl
  have kw0_c2 := kw0.here.cell 2 _ rfl
  go_wp2_with fail
  clear kg0_c0 kg0_c1 kg0_c2 kw0_c0 kw0_c1 kw0_c2
  refine (eqQ_cal _ _ R0 R0 _ (capQ_of (by omega)) (OwnQ.rd og0.here) (OwnQ.rd ow0.here)).mono ?_
  rintro e w8 ⟨rfl, b8⟩
  rw [decide_refl]
  have bb8 := Below.next bb7 b8
  replace ka := ka.below b8
  replace kw0 := kw0.below b8
  replace ow0 := ow0.below b8
  replace kxa := kxa.below b8
  replace kg0 := kg0.below b8
  replace og0 := og0.below b8
  replace mkxa := mkxa.below b8
  clear hk
  have kg0_c0 := kg0.here.cell 0 _ rfl
  have kg0_c1 := kg0.here.cell 1 _ rfl
  have kg0_c2 := kg0.here.cell 2 _ rfl
  go_wp2_with fail
  clear kg0_c0 kg0_c1 kg0_c2
  refine (markQ_cal _ R0 _ (1) _ (by omega) (by omega) og0).mono ?_
  rintro e w9 ⟨rfl, mkg0, c9⟩
  clear og0
  have bb9 := below_chg bb8 c9 bb8.size (fun i hi => F_g0.out i (List.mem_cons_of_mem _ hi))
  replace ka := ka.chg c9 (fun i hi hm => KX_a_g0.out i hi (List.mem_cons_of_mem _ hm))
  replace kw0 := kw0.chg c9 (fun i hi hm => AP_w0_g0.out i (by simp at hi; subst hi; exact List.mem_cons_self ..) (List.mem_cons_of_mem _ hm))
  replace ow0 := ow0.chg c9 (fun i hi hm => AP_w0_g0.out i (List.mem_cons_of_mem _ hi) (List.mem_cons_of_mem _ hm))
  replace kxa := kxa.chg c9 (fun i hi hm => AP_xa_g0.out i (by simp at hi; subst hi; exact List.mem_cons_self ..) (List.mem_cons_of_mem _ hm))
  replace kg0 := kg0.chg c9 (fun i hi hm => by simp at hi; subst hi; exact N_g0.out hm)
  replace mkxa := mkxa.chg c9 (fun i hi hm => AP_xa_g0.out i (List.mem_cons_of_mem _ hi) (List.mem_cons_of_mem _ hm))
  have kg0_c0 := kg0.here.cell 0 _ rfl
  have kg0_c1 := kg0.here.cell 1 _ rfl
  have kg0_c2 := kg0.here.cell 2 _ rfl
  go_wp2_with fail
  clear kg0_c0 kg0_c1 kg0_c2
  refine (heldQ_cal _ R0 (1) _ (by omega) (by omega) mkg0.here).mono ?_
  rintro e w10 ⟨rfl, b10⟩
  have bb10 := Below.next bb9 b10
  replace ka := ka.below b10
  replace kw0 := kw0.below b10
  replace ow0 := ow0.below b10
  replace kxa := kxa.below b10
  replace kg0 := kg0.below b10
  replace mkxa := mkxa.below b10
  replace mkg0 := mkg0.below b10
  have hq10 : decide ((1 : Int) + szQ R0 < 0) = false := decide_eq_false (by omega)
  have ka_c0 := ka.here.cell 0 _ rfl
  have ka_c1 := ka.here.cell 1 _ rfl
  go_upto_region 28 with fail
  go_cut [16, 17] (fun s t1 wx => NewLocV 36 (fun v => OwnQ v R0) w10 s wx ∧ t1 = .bool R1)
  case first =>
    go_wp2_with fail
    refine (toT_new _ a _ hza (RFa.out _ bb10)).mono ?_
    rintro e wt ⟨ut, St, rfl, ot, lt, bt⟩
    obtain ⟨At, ct, rfl⟩ := ownT_form ot.here
    go_wp2_with fail
    have bb_t := Below.next bb10 bt
    refine (HI.out _ _ ot.here (HT0.out.below bb_t) (HT1.out.below bb_t)).mono ?_
    rintro e wf ⟨uf, Sf, rfl, of, lf, bf⟩
    obtain ⟨Af, cf, Bf, df, rfl⟩ := ownQ_form of.here
    have bwf := Below.next bt bf
    go_wp2_with fail
    go_meet
    exact ⟨newLocV_last of lf bt.size bwf, rfl⟩
  rename World => w11
  clear ka_c0 ka_c1
  obtain ⟨⟨gh0, csh0, Sh0, rfl, kh0, oh0, nh0, lh0, b11⟩, rfl⟩ := hcut
  obtain ⟨Ah0, ch0, Bh0, dh0, eh0⟩ := ownQ_form oh0.here
  injection eh0 with eh0
  subst eh0
  have bb11 := Below.next bb10 b11
  replace ka := ka.below b11
  replace kw0 := kw0.below b11
  replace ow0 := ow0.below b11
  replace kxa := kxa.below b11
  replace kg0 := kg0.below b11
  replace mkxa := mkxa.below b11
  replace mkg0 := mkg0.below b11
  have kh0_c0 := kh0.here.cell 0 _ rfl
  have kh0_c1 := kh0.here.cell 1 _ rfl
  have kh0_c2 := kh0.here.cell 2 _ rfl
  have kw0_c0 := kw0.here.cell 0 _ rfl
  have kw0_c1 := kw0.here.cell 1 _ rfl
  have kw0_c2 := kw0.here.cell 2 _ rfl
  go_wp2_with fail
  clear kh0_c0 kh0_c1 kh0_c2 kw0_c0 kw0_c1 kw0_c2
  refine (eqQ_cal _ _ R0 R0 _ (capQ_of (by omega)) (OwnQ.rd oh0.here) (OwnQ.rd ow0.here)).mono ?_
  rintro e w12 ⟨rfl, b12⟩
  rw [decide_refl]
  have bb12 := Below.next bb11 b12
  replace ka := ka.below b12
  replace kw0 := kw0.below b12
  replace ow0 := ow0.below b12
  replace kxa := kxa.below b12
  replace kg0 := kg0.below b12
  replace mkxa := mkxa.below b12
  replace mkg0 := mkg0.below b12
  replace kh0 := kh0.below b12
  replace oh0 := oh0.below b12
  have kg0_c0 := kg0.here.cell 0 _ rfl
  have kg0_c1 := kg0.here.cell 1 _ rfl
  have kg0_c2 := kg0.here.cell 2 _ rfl
  go_wp2_with fail
  clear kg0_c0 kg0_c1 kg0_c2
  refine (heldQ_cal _ R0 (1) _ (by omega) (by omega) mkg0.here).mono ?_
  rintro e w13 ⟨rfl, b13⟩
  have bb13 := Below.next bb12 b13
  replace ka := ka.below b13
  replace kw0 := kw0.below b13
  replace ow0 := ow0.below b13
  replace kxa := kxa.below b13
  replace kg0 := kg0.below b13
  replace mkxa := mkxa.below b13
  replace mkg0 := mkg0.below b13
  replace kh0 := kh0.below b13
  replace oh0 := oh0.below b13
  have hq13 : decide ((1 : Int) + szQ R0 < 0) = false := decide_eq_false (by omega)
  go_wp2
  go_ret
  exact ⟨rfl, bb13⟩
end Go.Proofs.YtehkknphcflofaaGreatDoor
