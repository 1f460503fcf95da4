/-
  The law FnExactMoneyRat of chapter 10, walked: it returns true wherever both packages answer alike.
  Chapter 6 of package spec: what its functions on fractions return (begun: l05Gcd).
  What RatOk of package spec returns.
  What l05Low of package spec returns: a fraction in lowest terms.
  Plain facts on the parts of fractions: how long products and sums of theirs are.
  Chapter 6 of package spec: what its functions on fractions return.
  Chapter 6 of package spec: RatMake, RatInt, RatZero, RatCmp and RatSign.
  Spec's MoneyRat: the units as a fraction.
  Plain facts for impl's fractions: the operations on the parts as RatMake puts them together.
  What math/bits.Div64 returns: the quotient of a number of two words (the remainder is not looked at). Knuth's two digits of 32 bits.
  A limb of a nat, or 0 beyond its ends.
  What guess of impl.nat returns: a digit that is not too great.
-/
import Derived.Deep.RegionHeld3
import Derived.Deep.DeepCutAuto
import Derived.Laws.OwnMore
import Derived.Deep.Cut
import Derived.Deep.CutBlock
import Derived.Laws.Bits64b
import Derived.Lib.BitFns
import Derived.Laws.Externs
import Derived.Test.YtcenmdiblbooeaaDoorJA9
namespace Go.Proofs.YtcenmdiblbooeaaDoor
open Go.RowKit

set_option maxHeartbeats 4000000 in
set_option maxRecDepth 100000 in
theorem lawMoneyRat_walk (va : Value) (a : MI) (R0 : QI) (w : World)
    (hS : ∀ (ua : Value) (W : World), OwnM ua a W → Calls Tryd.prog 37 #[ua] W (NewV (fun v => OwnQ v R0) W))
    (hI : ∀ (ua : Value) (W : World), OwnM ua a W → CurTab W → Sen W → Calls Tryd.prog 38 #[ua] W (NewV (fun v => OwnQ v R0) W))
    (ht0 : CurTab w) (ht1 : Sen w) (hl : szM a ≤ 1048576) (hlR0 : szQ R0 ≤ 1048576) (ra : RdM w va a) :
    Calls Tryd.prog 12 #[va] w fun e w' => e = .returned (.bool true) ∧ Below w.heap.size w w' := by
  have HS := Lib.hid hS
  have HI := Lib.hid hI
  clear hS hI
  have HT0 := Lib.hid ht0
  clear ht0
  have HT1 := Lib.hid ht1
  clear ht1
  have hsa := szM_nonneg a
  have hsR0 := szQ_nonneg R0
  have hma := mkM_range a
  have hza : szM a ≤ 1048576 := by omega
  obtain ⟨Aa, ca, rfl⟩ := rdM_form ra
  have bb0 : Below w.heap.size w (w.alloc (.cells #[.string a.1, .bool a.2.1, .slice Aa a.2.2.length ca] 27)) := below_al (Below.refl _ _) _
  have ka := (box_new w #[.string a.1, .bool a.2.1, .slice Aa a.2.2.length ca] 27)
  have RFa : Hid (∀ W, Below w.heap.size w W → RdM W (.agg #[.string a.1, .bool a.2.1, .slice Aa a.2.2.length ca]) a) := Lib.hid fun W hb => ra.below hb
  go_enter Tryd.func12, Tryd.ntmps12
  have ka_c0 := ka.here.cell 0 _ rfl
  have ka_c1 := ka.here.cell 1 _ rfl
  have ka_c2 := ka.here.cell 2 _ rfl
  go_wp2_with fail
  clear ka_c0 ka_c1 ka_c2
  refine (szM_cal _ a (1048576) _ (capM_of hza) (by omega) (by omega) (RFa.out _ bb0)).mono ?_
  rintro e w1 ⟨rfl, b1⟩
  rw [leftI_of (by omega)]
  have bb1 := Below.next bb0 b1
  replace ka := ka.below b1
  have hn : decide (((1048576 : Int) - szM a : Int) < 0) = false := decide_eq_false (by omega)
  have HKa := Lib.hid (ka.lt (w.heap.size) (by simp))
  have ka_c0 := ka.here.cell 0 _ rfl
  have ka_c1 := ka.here.cell 1 _ rfl
  have ka_c2 := ka.here.cell 2 _ rfl
  go_upto_region 5 with fail
  go_cut [4] (fun s wx => NewLocV 49 (fun v => OwnQ v R0) w1 s wx)
  case first =>
    go_wp2_with fail
    refine (toM_new _ a _ hza (RFa.out _ bb1)).mono ?_
    rintro e wt ⟨ut, St, rfl, ot, lt, bt⟩
    obtain ⟨At, ct, rfl⟩ := ownM_form ot.here
    go_wp2_with fail
    refine (HS.out _ _ ot.here).mono ?_
    rintro e wf ⟨uf, Sf, rfl, of, lf, bf⟩
    obtain ⟨Af, cf, Bf, df, rfl⟩ := ownQ_form of.here
    have bwf := Below.next bt bf
    go_wp2_with fail
    go_meet
    exact newLocV_last of lf bt.size bwf
  rename World => w2
  clear ka_c0 ka_c1 ka_c2
  obtain ⟨gw0, csw0, Sw0, rfl, kw0, ow0, nw0, lw0, b2⟩ := hcut
  obtain ⟨Aw0, cw0, Bw0, dw0, ew0⟩ := ownQ_form ow0.here
  injection ew0 with ew0
  subst ew0
  have bb2 := Below.next bb1 b2
  replace ka := ka.below b2
  have ka_c0 := ka.here.cell 0 _ rfl
  have ka_c1 := ka.here.cell 1 _ rfl
  have ka_c2 := ka.here.cell 2 _ rfl
  go_upto_region 6 with fail
  go_cut [5] (fun s wx => NewLocV 32 (fun v => OwnM v a) w2 s wx)
  case first =>
    go_wp2_with fail
    refine (toM_new _ a _ hza (RFa.out _ bb2)).mono ?_
    rintro e wt ⟨ut, St, rfl, ot, lt, bt⟩
    obtain ⟨At, ct, rfl⟩ := ownM_form ot.here
    go_wp2_with fail
    go_meet
    exact newLocV_last ot lt (Nat.le_refl _) bt
  rename World => w3
  clear ka_c0 ka_c1 ka_c2
  obtain ⟨gxa, csxa, Sxa, rfl, kxa, oxa, nxa, lxa, b3⟩ := hcut
  obtain ⟨Axa, cxa, exa⟩ := ownM_form oxa.here
  injection exa with exa
  subst exa
  have bb3 := Below.next bb2 b3
  replace ka := ka.below b3
  replace kw0 := kw0.below b3
  replace ow0 := ow0.below b3
  have kxa_c0 := kxa.here.cell 0 _ rfl
  have kxa_c1 := kxa.here.cell 1 _ rfl
  have kxa_c2 := kxa.here.cell 2 _ rfl
  go_upto_region 7 with fail
  go_cut [6] (fun s wx => NewLocV 49 (fun v => OwnQ v R0) w3 s wx)
  case first =>
    go_wp2_with fail
    refine (HI.out _ _ oxa.here (HT0.out.below bb3) (HT1.out.below bb3)).mono ?_
    rintro e wf ⟨uf, Sf, rfl, of, lf, bf⟩
    obtain ⟨Af, cf, Bf, df, rfl⟩ := ownQ_form of.here
    go_wp2_with fail
    go_meet
    exact newLocV_last of lf (Nat.le_refl _) bf
  rename World => w4
  clear kxa_c0 kxa_c1 kxa_c2
  obtain ⟨gg0, csg0, Sg0, rfl, kg0, og0, ng0, lg0, b4⟩ := hcut
  obtain ⟨Ag0, cg0, Bg0, dg0, eg0⟩ := ownQ_form og0.here
  injection eg0 with eg0
  subst eg0
  have bb4 := Below.next bb3 b4
  replace ka := ka.below b4
  replace kw0 := kw0.below b4
  replace ow0 := ow0.below b4
  replace kxa := kxa.below b4
  replace oxa := oxa.below b4
  have kg0_c0 := kg0.here.cell 0 _ rfl
  have kg0_c1 := kg0.here.cell 1 _ rfl
  have kg0_c2 := kg0.here.cell 2 _ rfl
  have kw0_c0 := kw0.here.cell 0 _ rfl
  have kw0_c1 := kw0.here.cell 1 _ rfl
  have kw0_c2 := kw0.here.cell 2 _ rfl
  go_wp2_with fail
  clear kg0_c0 kg0_c1 kg0_c2 kw0_c0 kw0_c1 kw0_c2
  refine (eqQ_cal _ _ R0 R0 _ (capQ_of (by omega)) (OwnQ.rd og0.here) (OwnQ.rd ow0.here)).mono ?_
  rintro e w5 ⟨rfl, b5⟩
  rw [decide_refl]
  have bb5 := Below.next bb4 b5
  replace ka := ka.below b5
  replace kw0 := kw0.below b5
  replace ow0 := ow0.below b5
  replace kxa := kxa.below b5
  replace oxa := oxa.below b5
  replace kg0 := kg0.below b5
  replace og0 := og0.below b5
  have ka_c0 := ka.here.cell 0 _ rfl
  have ka_c1 := ka.here.cell 1 _ rfl
  have ka_c2 := ka.here.cell 2 _ rfl
  have kxa_c0 := kxa.here.cell 0 _ rfl
  have kxa_c1 := kxa.here.cell 1 _ rfl
  have kxa_c2 := kxa.here.cell 2 _ rfl
  go_wp2_with fail
  have HB0 := Lib.hid (show Below w5.heap.size w5 w5.drew from (Below.refl _ _).drew)
  have KL := Lib.hid (show ∀ W, Below w5.heap.size w5 W → W.cell? ⟨w.heap.size, 0, none⟩ = some (.string a.1) ∧ W.cell? ⟨w.heap.size, 1, none⟩ = some (.bool a.2.1) ∧ W.cell? ⟨w.heap.size, 2, none⟩ = some (.slice Aa a.2.2.length ca) ∧ W.cell? ⟨gxa, 0, none⟩ = some (.string a.1) ∧ W.cell? ⟨gxa, 1, none⟩ = some (.bool a.2.1) ∧ W.cell? ⟨gxa, 2, none⟩ = some (.slice Axa a.2.2.length cxa) ∧ Hid (Below w5.heap.size w5 W) from
    fun W hb => ⟨(ka.below hb).here.cell 0 _ rfl, (ka.below hb).here.cell 1 _ rfl, (ka.below hb).here.cell 2 _ rfl, (kxa.below hb).here.cell 0 _ rfl, (kxa.below hb).here.cell 1 _ rfl, (kxa.below hb).here.cell 2 _ rfl, Lib.hid hb⟩)
  have BBF := Lib.hid (show ∀ W, Below w5.heap.size w5 W → Below w.heap.size w W from fun W hb => Below.next bb5 hb)
  have OXF := Lib.hid (show ∀ W, Below w5.heap.size w5 W → OwnM (.agg #[.string a.1, .bool a.2.1, .slice Axa a.2.2.length cxa]) a W from fun W hb => (oxa.below hb).here)
  clear ka_c0 ka_c1 ka_c2 kxa_c0 kxa_c1 kxa_c2
  go_region_held3 (fun W => W.cell? ⟨w.heap.size, 0, none⟩ = some (.string a.1) ∧ W.cell? ⟨w.heap.size, 1, none⟩ = some (.bool a.2.1) ∧ W.cell? ⟨w.heap.size, 2, none⟩ = some (.slice Aa a.2.2.length ca) ∧ W.cell? ⟨gxa, 0, none⟩ = some (.string a.1) ∧ W.cell? ⟨gxa, 1, none⟩ = some (.bool a.2.1) ∧ W.cell? ⟨gxa, 2, none⟩ = some (.slice Axa a.2.2.length cxa) ∧ Hid (Below w5.heap.size w5 W))
    ((refine KL.out _ ?_; (first | exact HBe.out | exact HBt.out | exact HB0.out | fail)))
    (first
      | (go_at_call 18; (have hBB := (‹_ ∧ _ ∧ _ ∧ _ ∧ _ ∧ _ ∧ Hid (Below w5.heap.size w5 _)›).2.2.2.2.2.2); (with_reducible refine (toM_new _ a _ hza (RFa.out _ (BBF.out _ hBB.out))).mono ?_); rintro e wt ⟨t, St, rfl, ot, lt, bt⟩; have HBt := Lib.hid (Below.next hBB.out bt); clear hBB)
      | (go_at_call 20; (have hBB := (‹_ ∧ _ ∧ _ ∧ _ ∧ _ ∧ _ ∧ Hid (Below w5.heap.size w5 _)›).2.2.2.2.2.2); (with_reducible refine (eqM_cal _ _ a a _ (capM_of hza) (OwnM.rd (OXF.out _ hBB.out)) (OwnM.rd ot.here)).mono ?_); rintro e w6 ⟨rfl, be⟩; rw [decide_refl]; have HBe := Lib.hid (Below.next hBB.out be); clear hBB))
  have b6 := HBe.out
  have bb6 := Below.next bb5 b6
  replace ka := ka.below b6
  replace kw0 := kw0.below b6
  replace ow0 := ow0.below b6
  replace kxa := kxa.below b6
  replace oxa := oxa.below b6
  replace kg0 := kg0.below b6
  replace og0 := og0.below b6
  clear HB0 KL BBF OXF HBt HBe ot lt
  have z1 := b1.size
  have z2 := b2.size
  have z3 := b3.size
  have z4 := b4.size
  have z5 := b5.size
  have z6 := b6.size
  have AP_xa_g0 := Lib.hid (Within.apart lxa lg0 (.inl (by omega)))
  have AP_w0_xa := Lib.hid (Within.apart lw0 lxa (.inl (by omega)))
  have AP_w0_g0 := Lib.hid (Within.apart lw0 lg0 (.inl (by omega)))
  have F_xa := Lib.hid (Within.from (B := w.heap.size) lxa (by have := bb1.size; omega))
  have N_xa := Lib.hid nxa
  have KX_a_xa := Lib.hid (show ∀ i ∈ [w.heap.size], i ∉ gxa :: Sxa from fun i hi hm => by have h1 := (lxa i hm).1; have h2 := HKa.out; simp at hi; omega)
  have F_g0 := Lib.hid (Within.from (B := w.heap.size) lg0 (by have := bb1.size; omega))
  have N_g0 := Lib.hid ng0
  have KX_a_g0 := Lib.hid (show ∀ i ∈ [w.heap.size], i ∉ gg0 :: Sg0 from fun i hi hm => by have h1 := (lg0 i hm).1; have h2 := HKa.out; simp at hi; omega)
  clear z1 z2 z3 z4 z5 z6
  have kxa_c0 := kxa.here.cell 0 _ rfl
  have kxa_c1 := kxa.here.cell 1 _ rfl
  have kxa_c2 := kxa.here.cell 2 _ rfl
  go_wp2_with fail
  clear kxa_c0 kxa_c1 kxa_c2
  refine (markM_cal _ a _ (1) _ (by omega) (by omega) oxa).mono ?_
  rintro e w7 ⟨rfl, mkxa, c7⟩
  clear oxa
  have bb7 := below_chg bb6 c7 bb6.size (fun i hi => F_xa.out i (List.mem_cons_of_mem _ hi))
  replace ka := ka.chg c7 (fun i hi hm => KX_a_xa.out i hi (List.mem_cons_of_mem _ hm))
  replace kw0 := kw0.chg c7 (fun i hi hm => AP_w0_xa.out i (by simp at hi; subst hi; exact List.mem_cons_self ..) (List.mem_cons_of_mem _ hm))
  replace ow0 := ow0.chg c7 (fun i hi hm => AP_w0_xa.out i (List.mem_cons_of_mem _ hi) (List.mem_cons_of_mem _ hm))
  replace kxa := kxa.chg c7 (fun i hi hm => by simp at hi; subst hi; exact N_xa.out hm)
  replace kg0 := kg0.chg c7 (fun i hi hm => (apart_symm AP_xa_g0.out) i (by simp at hi; subst hi; exact List.mem_cons_self ..) (List.mem_cons_of_mem _ hm))
  replace og0 := og0.chg c7 (fun i hi hm => (apart_symm AP_xa_g0.out) i (List.mem_cons_of_mem _ hi) (List.mem_cons_of_mem _ hm))
  have hk : decide (((1 + mkM a) : Int) < 0) = false := decide_eq_false (by omega)
  have kg0_c0 := kg0.here.cell 0 _ rfl
  have kg0_c1 := kg0.here.cell 1 _ rfl
  have kg0_c2 := kg0.here.cell 2 _ rfl
  have kw0_c0 := kw0.here.cell 0 _ rfl
  have kw0_c1 := kw0.here.cell 1 _ rfl
  have kw0_c2 := kw0.here.cell 2 _ rfl
  go_wp2_with fail
  clear kg0_c0 kg0_c1 kg0_c2 kw0_c0 kw0_c1 kw0_c2
  refine (eqQ_cal _ _ R0 R0 _ (capQ_of (by omega)) (OwnQ.rd og0.here) (OwnQ.rd ow0.here)).mono ?_
  rintro e w8 ⟨rfl, b8⟩
  rw [decide_refl]
  have bb8 := Below.next bb7 b8
  replace ka := ka.below b8
  replace kw0 := kw0.below b8
  replace ow0 := ow0.below b8
  replace kxa := kxa.below b8
  replace kg0 := kg0.below b8
  replace og0 := og0.below b8
  replace mkxa := mkxa.below b8
  clear hk
  have kg0_c0 := kg0.here.cell 0 _ rfl
  have kg0_c1 := kg0.here.cell 1 _ rfl
  have kg0_c2 := kg0.here.cell 2 _ rfl
  go_wp2_with fail
  clear kg0_c0 kg0_c1 kg0_c2
  refine (markQ_cal _ R0 _ (1) _ (by omega) (by omega) og0).mono ?_
  rintro e w9 ⟨rfl, mkg0, c9⟩
  clear og0
  have bb9 := below_chg bb8 c9 bb8.size (fun i hi => F_g0.out i (List.mem_cons_of_mem _ hi))
  replace ka := ka.chg c9 (fun i hi hm => KX_a_g0.out i hi (List.mem_cons_of_mem _ hm))
  replace kw0 := kw0.chg c9 (fun i hi hm => AP_w0_g0.out i (by simp at hi; subst hi; exact List.mem_cons_self ..) (List.mem_cons_of_mem _ hm))
  replace ow0 := ow0.chg c9 (fun i hi hm => AP_w0_g0.out i (List.mem_cons_of_mem _ hi) (List.mem_cons_of_mem _ hm))
  replace kxa := kxa.chg c9 (fun i hi hm => AP_xa_g0.out i (by simp at hi; subst hi; exact List.mem_cons_self ..) (List.mem_cons_of_mem _ hm))
  replace kg0 := kg0.chg c9 (fun i hi hm => by simp at hi; subst hi; exact N_g0.out hm)
  replace mkxa := mkxa.chg c9 (fun i hi hm => AP_xa_g0.out i (List.mem_cons_of_mem _ hi) (List.mem_cons_of_mem _ hm))
  have kg0_c0 := kg0.here.cell 0 _ rfl
  have kg0_c1 := kg0.here.cell 1 _ rfl
  have kg0_c2 := kg0.here.cell 2 _ rfl
  go_wp2_with fail
  clear kg0_c0 kg0_c1 kg0_c2
  refine (heldQ_cal _ R0 (1) _ (by omega) (by omega) mkg0.here).mono ?_
  rintro e w10 ⟨rfl, b10⟩
  have bb10 := Below.next bb9 b10
  replace ka := ka.below b10
  replace kw0 := kw0.below b10
  replace ow0 := ow0.below b10
  replace kxa := kxa.below b10
  replace kg0 := kg0.below b10
  replace mkxa := mkxa.below b10
  replace mkg0 := mkg0.below b10
  have hq10 : decide ((1 : Int) + szQ R0 < 0) = false := decide_eq_false (by omega)
  have ka_c0 := ka.here.cell 0 _ rfl
  have ka_c1 := ka.here.cell 1 _ rfl
  have ka_c2 := ka.here.cell 2 _ rfl
  go_upto_region 24 with fail
  go_cut [10] (fun s wx => NewLocV 49 (fun v => OwnQ v R0) w10 s wx)
  case first =>
    go_wp2_with fail
    refine (toM_new _ a _ hza (RFa.out _ bb10)).mono ?_
    rintro e wt ⟨ut, St, rfl, ot, lt, bt⟩
    obtain ⟨At, ct, rfl⟩ := ownM_form ot.here
    go_wp2_with fail
    have bb_t := Below.next bb10 bt
    refine (HI.out _ _ ot.here (HT0.out.below bb_t) (HT1.out.below bb_t)).mono ?_
    rintro e wf ⟨uf, Sf, rfl, of, lf, bf⟩
    obtain ⟨Af, cf, Bf, df, rfl⟩ := ownQ_form of.here
    have bwf := Below.next bt bf
    go_wp2_with fail
    go_meet
    exact newLocV_last of lf bt.size bwf
  rename World => w11
  clear ka_c0 ka_c1 ka_c2
  obtain ⟨gh0, csh0, Sh0, rfl, kh0, oh0, nh0, lh0, b11⟩ := hcut
  obtain ⟨Ah0, ch0, Bh0, dh0, eh0⟩ := ownQ_form oh0.here
  injection eh0 with eh0
  subst eh0
  have bb11 := Below.next bb10 b11
  replace ka := ka.below b11
  replace kw0 := kw0.below b11
  replace ow0 := ow0.below b11
  replace kxa := kxa.below b11
  replace kg0 := kg0.below b11
  replace mkxa := mkxa.below b11
  replace mkg0 := mkg0.below b11
  have kh0_c0 := kh0.here.cell 0 _ rfl
  have kh0_c1 := kh0.here.cell 1 _ rfl
  have kh0_c2 := kh0.here.cell 2 _ rfl
  have kw0_c0 := kw0.here.cell 0 _ rfl
  have kw0_c1 := kw0.here.cell 1 _ rfl
  have kw0_c2 := kw0.here.cell 2 _ rfl
  go_wp2_with fail
  clear kh0_c0 kh0_c1 kh0_c2 kw0_c0 kw0_c1 kw0_c2
  refine (eqQ_cal _ _ R0 R0 _ (capQ_of (by omega)) (OwnQ.rd oh0.here) (OwnQ.rd ow0.here)).mono ?_
  rintro e w12 ⟨rfl, b12⟩
  rw [decide_refl]
  have bb12 := Below.next bb11 b12
  replace ka := ka.below b12
  replace kw0 := kw0.below b12
  replace ow0 := ow0.below b12
  replace kxa := kxa.below b12
  replace kg0 := kg0.below b12
  replace mkxa := mkxa.below b12
  replace mkg0 := mkg0.below b12
  replace kh0 := kh0.below b12
  replace oh0 := oh0.below b12
  have kg0_c0 := kg0.here.cell 0 _ rfl
  have kg0_c1 := kg0.here.cell 1 _ rfl
  have kg0_c2 := kg0.here.cell 2 _ rfl
  go_wp2_with fail
  clear kg0_c0 kg0_c1 kg0_c2
  refine (heldQ_cal _ R0 (1) _ (by omega) (by omega) mkg0.here).mono ?_
  rintro e w13 ⟨rfl, b13⟩
  have bb13 := Below.next bb12 b13
  replace ka := ka.below b13
  replace kw0 := kw0.below b13
  replace ow0 := ow0.below b13
  replace kxa := kxa.below b13
  replace kg0 := kg0.below b13
  replace mkxa := mkxa.below b13
  replace mkg0 := mkg0.below b13
  replace kh0 := kh0.below b13
  replace oh0 := oh0.below b13
  have hq13 : decide ((1 : Int) + szQ R0 < 0) = false := decide_eq_false (by omega)
  go_wp2
  go_ret
  exact ⟨rfl, bb13⟩
end Go.Proofs.YtcenmdiblbooeaaDoor

namespace Go.Proofs.YtcenmdiblbooeaaDoor
open Go.RowKit

/-- the state of l05Gcd's loop -/
def GcdR (w : World) (G : Nat) (n : Nat) (x y : Value) (wr : World) : Prop :=
  ∃ X Y : Nat, n = Y ∧ Nat.gcd X Y = G ∧ (limbs X).length ≤ 50 ∧ (limbs Y).length ≤ 50 ∧ wr.ownsRow 0 3 1 x (limbs X).length (intsV (limbs X)) ∧ wr.ownsRow 0 3 1 y (limbs Y).length (intsV (limbs Y)) ∧ Below w.heap.size w wr
set_option maxHeartbeats 1000000 in
set_option maxRecDepth 100000 in
theorem l05Gcd_any (va vb : Value) (X0 Y0 : Nat) (w : World) (hX0 : (limbs X0).length ≤ 50) (hY0 : (limbs Y0).length ≤ 50) (oa : OwnI va (limbs X0) w) (ob : OwnI vb (limbs Y0) w) :
    Calls Tryd.prog 135 #[va, vb] w fun e w' => ∃ v, e = .returned v ∧ OwnI v (limbs (Nat.gcd X0 Y0)) w' ∧ Below w.heap.size w w' := by
  have HS : Hid (GcdR w (Nat.gcd X0 Y0) Y0 va vb w) := Lib.hid ⟨X0, Y0, rfl, rfl, hX0, hY0, oa, ob, Below.refl _ _⟩
  clear oa ob
  go_enter Tryd.func135, Tryd.ntmps135
  go_wp2
  go_loopg [5, 6] Y0 (fun n x y wr => GcdR w (Nat.gcd X0 Y0) n x y wr)
  case atStart => exact HS.out
  case round =>
    clear HS hX0 hY0
    obtain ⟨X, Y, hn, hG, hX, hY, ox, oy, hb⟩ := hrel
    have HNE := Lib.hid hn
    have HG := Lib.hid hG
    clear hn hG
    have oy0 := oy
    obtain ⟨B, c, rfl⟩ := own_len oy
    by_cases hpos : 0 < (limbs Y).length
    · have hY0 := limbs_some hpos
      go_wp2_with fail
      refine (specDiv_any _ _ (limbs X) (limbs Y) _ _ _ _ _ hX hY hpos (Nat.le_refl _) (Nat.le_refl _) (limbs_digN _) ⟨limbs_digN _, limbs_lastN _⟩ (Row.of_own ox) (Row.of_own oy0)).mono ?_
      rintro e w3 ⟨v3, v4, rfl, o3, o4, _, b3⟩
      rw [limbs_val, limbs_val, show ((X : Int) % (Y : Int)).toNat = X % Y by omega] at o4
      have HS2 : Hid (GcdR w (Nat.gcd X0 Y0) (X % Y) (.slice B (limbs Y).length c) v4 w3) := Lib.hid ⟨Y, X % Y, rfl, by rw [gcd_step]; exact HG.out, hY, limbs_mod_len X Y hY hY0, own_below oy0 b3, own_zero o4, Below.next hb b3⟩
      clear ox oy oy0 o3 o4
      go_wp2
      go_roundg (X % Y)
      case measure => rw [HNE.out]; exact Nat.mod_lt X hY0
      case rel => exact HS2.out
    · have hY0 := Lib.hid (limbs_empty hpos)
      have HF : Hid (X = Nat.gcd X0 Y0) := Lib.hid (by have := HG.out; rw [hY0.out, Nat.gcd_zero_right] at this; exact this)
      go_wp2
      go_ret
      exact ⟨_, rfl, by rw [← HF.out]; exact ox, hb⟩
end Go.Proofs.YtcenmdiblbooeaaDoor

namespace Go.Proofs.YtcenmdiblbooeaaDoor
open Go.RowKit
theorem one_val : nval [1] = 1 := rfl
theorem one_dig : DigN [1] ∧ [(1 : Int)].getLastD 1 ≠ 0 := by
  refine ⟨fun d hd => ?_, by decide⟩
  simp at hd
  omega
theorem one_limbs : limbs 1 = [1] := by rw [limbs, dif_neg (by decide), show 1 / 1000000000 = 0 from rfl, limbs, dif_pos rfl]; rfl
/-- a slice literal in its block -/
theorem box_row {g : Nat} {cs : Array Value} {T : TypeId} {w : World} (h : BoxAt g cs T w) : Row w 0 w.heap.size (.slice (some ⟨g, 0, none⟩) cs.size cs.size) cs.toList := by
  have hg := (Array.getElem?_eq_some_iff.1 h).1
  refine ⟨some ⟨g, 0, none⟩, cs.size, by simp, fun j u hj => ⟨⟨g, 0, none⟩, rfl, Nat.zero_le _, hg, ?_⟩⟩
  have e1 : (Addr.add ⟨g, 0, none⟩ j) = ⟨g, j, none⟩ := by
    unfold Addr.add
    cases j with
    | zero => rfl
    | succ n => simp
  rw [e1, Lib.cell_of_heap h]
  simpa using hj
theorem gcdN_small (a b : List Int) : (gcdN a b).length ≤ 50 := by
  unfold gcdN
  split
  · rename_i h
    have pa := natOk_limbs h.1
    have pb := natOk_limbs h.2
    have la := (natOk_parts h.1).2.1
    have lb := (natOk_parts h.2).2.1
    have na := nval_ok h.1
    have nb := nval_ok h.2
    by_cases h0 : 0 < (nval a).toNat
    · have hm := limbs_mono (m := ((Nat.gcd (nval a).toNat (nval b).toNat : Nat) : Int)) (n := nval a) (by omega) (by have := Nat.gcd_le_left (nval b).toNat h0; omega)
      rw [Int.toNat_natCast, ← pa] at hm
      omega
    · rw [show (nval a).toNat = 0 by omega, Nat.gcd_zero_left, ← pb]
      exact lb
  · simp
theorem gcd_one_iff {x : QI} (h1 : natOkB x.1.2 = true) (h2 : natOkB x.2 = true) : (cmpI (nval (gcdN x.1.2 x.2)) (nval [1]) = 0) ↔ Nat.gcd (nval x.1.2).toNat (nval x.2).toNat = 1 := by
  unfold gcdN
  rw [if_pos ⟨h1, h2⟩, limbs_val, one_val]
  unfold cmpI
  split
  · omega
  · split <;> omega
end Go.Proofs.YtcenmdiblbooeaaDoor

namespace Go.Proofs.YtcenmdiblbooeaaDoor
open Go.RowKit
theorem trim_ok (n : Nat) : trimL (limbs n) = limbs n := trim_last _ (limbs_lastN n)
theorem oneCells (l : List Int) : ∀ u ∈ intsV l, u.oneCell' = true := fun u hu => by obtain ⟨x, _, rfl⟩ := List.mem_map.1 hu; rfl
/-- a struct result that lies in its cells at block r: a new value and a bool with it -/
theorem newQb_ret {r : Nat} {u d c0 c1 c2 : Value} {x : QI} {b : Bool} {w W : World} {B C : Nat} (hb : BoxAt r #[c0, c1, c2] 49 W) (o : W.ownsRow B 3 1 u x.1.2.length (intsV x.1.2)) (p : W.ownsRow C 3 1 d x.2.length (intsV x.2))
    (hap : ∀ g, u.ownBlock = some g → d.ownBlock ≠ some g) (hB : w.heap.size ≤ B) (hC : w.heap.size ≤ C) (hr : w.heap.size ≤ r) (hW : Below w.heap.size w W) :
    PostQb x b w (.returned (.tuple #[.agg #[.bool x.1.1, u, d], .bool b])) (((W.setCell ⟨r, 0, none⟩ (.bool x.1.1)).setCell ⟨r, 1, none⟩ u).setCell ⟨r, 2, none⟩ d) := by
  have hn1 := Lib.ownBlock_ne o hb (by decide)
  have hn2 := Lib.ownBlock_ne p hb (by decide)
  have hc : Chg [r] W (((W.setCell ⟨r, 0, none⟩ (.bool x.1.1)).setCell ⟨r, 1, none⟩ u).setCell ⟨r, 2, none⟩ d) := (((Chg.refl _ _).setCell (by simp) _).setCell (by simp) _).setCell (by simp) _
  have hz := hc.size
  refine ⟨_, partsB u d, rfl, (partsQ_at o p hap).chg hc (fun i hi hm => ?_), fun i hi => ?_, below_set3 hW hr⟩
  · simp at hm
    subst hm
    rcases List.mem_append.1 hi with hi | hi
    · exact hn1 (by simpa using hi)
    · exact hn2 (by simpa using hi)
  · rcases List.mem_append.1 hi with hi | hi
    · have := own_lt o (g := i) (by simpa using hi)
      omega
    · have := own_lt p (g := i) (by simpa using hi)
      omega
theorem ownQ_zero (w : World) : OwnQ (.agg #[.bool false, .slice none 0 0, .slice none 0 0]) zeroQ w := ⟨_, _, rfl, World.ownsRow_nil _ _ _ _, World.ownsRow_nil _ _ _ _, fun g hg => by cases hg⟩
theorem newQb_zero {w W : World} (b : Bool) (hW : Below w.heap.size w W) : PostQb zeroQ b w (.returned (.tuple #[.agg #[.bool false, .slice none 0 0, .slice none 0 0], .bool b])) W :=
  ⟨_, [], rfl, ⟨ownQ_zero _, (fun g hg => by cases hg), fun w' _ => ownQ_zero _⟩, (fun g hg => by cases hg), hW⟩
theorem div_toNat (a b : Nat) : ((a : Int) / (b : Int)).toNat = a / b := by rw [← Int.natCast_ediv]; exact Int.toNat_natCast _
set_option maxHeartbeats 1000000 in
set_option maxRecDepth 100000 in
theorem l05Low_any (n : Bool) (va vb : Value) (X Y : Nat) (w : World) (hX : (limbs X).length ≤ 50) (hY : (limbs Y).length ≤ 50) (oa : OwnI va (limbs X) w) (ob : OwnI vb (limbs Y) w) :
    Calls Tryd.prog 121 #[.bool n, va, vb] w (PostQb (lowQ n X Y).1 (lowQ n X Y).2 w) := by
  obtain ⟨i0, hi0, hz0, hz1, hz2⟩ := info_parts intInfo
  have bb0 := below_al (Below.refl w.heap.size w) (.cells #[.bool false, .slice none 0 0, .slice none 0 0] 49)
  have kr := box_new w #[.bool false, .slice none 0 0, .slice none 0 0] 49
  have oa1 := own_up oa bb0
  have ob1 := own_up ob bb0
  clear oa ob
  go_enter Tryd.func121, Tryd.ntmps121
  go_wp2_with fail
  refine (specTrim_any _ _ _ _ (by omega) oa1).mono ?_
  rintro e w1 ⟨rfl, v1, rfl, o1⟩
  rw [trim_ok] at o1
  go_wp2_with fail
  refine (specTrim_any _ _ _ _ (by omega) ob1).mono ?_
  rintro e w1 ⟨rfl, v2, rfl, o2⟩
  rw [trim_ok] at o2
  obtain ⟨A1, c1, rfl⟩ := own_len o1
  obtain ⟨A2, c2, rfl⟩ := own_len o2
  clear oa1 ob1
  by_cases hy : 0 < (limbs Y).length
  · have h1 : (((limbs Y).length : Int) == 0) = false := by rw [beq_eq_false_iff_ne]; omega
    have hY0 := limbs_some hy
    go_wp2_with fail
    refine (l05Gcd_any _ _ X Y _ hX hY o1 o2).mono ?_
    rintro e w3 ⟨v3, rfl, o3, b3⟩
    have bb3 := Below.next bb0 b3
    replace kr := kr.below b3
    replace o1 := own_up o1 b3
    replace o2 := own_up o2 b3
    have HG := Lib.hid (Nat.gcd_pos_of_pos_right X hY0)
    have hgl : (limbs (Nat.gcd X Y)).length ≤ 50 := by
      have := limbs_mono (m := ((Nat.gcd X Y : Nat) : Int)) (n := (Y : Int)) (by omega) (by have := Nat.gcd_le_right X hY0; omega)
      rw [Int.toNat_natCast, Int.toNat_natCast] at this
      omega
    have hg0 : 0 < (limbs (Nat.gcd X Y)).length := by
      rcases Nat.eq_zero_or_pos (limbs (Nat.gcd X Y)).length with h | h
      · have := (limbs_zero_iff _).1 h
        have := HG.out
        omega
      · exact h
    have HLOW := Lib.hid (show lowQ n X Y = if (limbs (X / Nat.gcd X Y)).length ≤ 18 ∧ (limbs (Y / Nat.gcd X Y)).length ≤ 18 then ((mkS n (limbs (X / Nat.gcd X Y)), limbs (Y / Nat.gcd X Y)), true) else (zeroQ, false) by unfold lowQ; simp [show Y ≠ 0 by omega])
    clear hy hY0
    go_wp2_with fail
    refine (specDiv_any _ _ (limbs X) (limbs (Nat.gcd X Y)) _ _ _ _ _ hX hgl hg0 (Nat.le_refl _) (Nat.le_refl _) (limbs_digN _) ⟨limbs_digN _, limbs_lastN _⟩ (Row.of_own o1) (Row.of_own o3)).mono ?_
    rintro e w4 ⟨v4, v5, rfl, o4, o5, _, b4⟩
    rw [limbs_val, limbs_val, div_toNat] at o4
    have bb4 := Below.next bb3 b4
    replace kr := kr.below b4
    replace o2 := own_up o2 b4
    replace o3 := own_up o3 b4
    clear o1 o5
    go_wp2_with fail
    refine (specDiv_any _ _ (limbs Y) (limbs (Nat.gcd X Y)) _ _ _ _ _ hY hgl hg0 (Nat.le_refl _) (Nat.le_refl _) (limbs_digN _) ⟨limbs_digN _, limbs_lastN _⟩ (Row.of_own o2) (Row.of_own o3)).mono ?_
    rintro e w5 ⟨v6, v7, rfl, o6, o7, _, b5⟩
    rw [limbs_val, limbs_val, div_toNat] at o6
    have bb5 := Below.next bb4 b5
    replace kr := kr.below b5
    replace o4 := own_up o4 b5
    obtain ⟨A4, c4, rfl⟩ := own_len o4
    obtain ⟨A6, c6, rfl⟩ := own_len o6
    clear o2 o3 o7 hg0 hgl
    have hz5 := b5.size
    have hz4 := b4.size
    have hz3 := b3.size
    by_cases hp : (limbs (X / Nat.gcd X Y)).length ≤ 18
    · have h2 : decide ((18 : Int) < ((limbs (X / Nat.gcd X Y)).length : Int)) = false := decide_eq_false (by omega)
      by_cases hq : (limbs (Y / Nat.gcd X Y)).length ≤ 18
      · have h3 : decide ((18 : Int) < ((limbs (Y / Nat.gcd X Y)).length : Int)) = false := decide_eq_false (by omega)
        have HV := Lib.hid (show lowQ n X Y = ((mkS n (limbs (X / Nat.gcd X Y)), limbs (Y / Nat.gcd X Y)), true) by rw [HLOW.out, if_pos ⟨hp, hq⟩])
        go_wp2_with fail
        refine (l04Make_any n _ (limbs (X / Nat.gcd X Y)) _ _ (by omega) o4).mono ?_
        rintro e w6 ⟨u6, rfl, o8, b6⟩
        rw [trim_ok] at o8 ⊢
        have bb6 := Below.next bb5 b6
        replace kr := kr.below b6
        replace o6 := own_up o6 b6
        obtain ⟨A8, c8, rfl⟩ := own_len o8
        clear hp h2 h3 o4
        have HONE := Lib.hid oneCells
        go_wp2_with (at_builtin; refine append_row rfl _ _ 23 rfl w6.heap.size 3 i0 (.int .i64 0) 8 Tryd.underlying23 hi0 hz0 hz1 hz2 rfl _ 0 [] rfl (World.ownsRow_made w6 #[] 0 (Nat.le_refl _) (Nat.zero_le _) rfl) _ _ _ (intsV (limbs (Y / Nat.gcd X Y))) rfl ((Row.of_own o6).below (below_al (Below.refl _ _) _) (Nat.le_refl _)) (own_noCap o6) (HONE.out _) ?c3 ?c4 ?c5 ?_)
        case c3 => rw [intsV_length]; unfold maxLen; omega
        case c4 => rw [intsV_length]; omega
        case c5 => simp
        intro v9 w7 o9 g9
        have b7 : Below w6.heap.size w6 w7 := ((Below.refl _ w6).alloc (Nat.le_refl _) _).grown g9 (by simp) (fun k hk => by cases hk; exact Nat.le_refl _)
        have bb7 := Below.next bb6 b7
        have hz6 := b6.size
        replace kr := kr.below b7
        have hap : ∀ g, (Value.slice A8 (mkS n (limbs (X / Nat.gcd X Y))).2.length c8).ownBlock = some g → v9.ownBlock ≠ some g := fun g h1 h2 => by
          have := (own_lt o8 h1).2
          have := (own_lt o9 h2).1
          omega
        replace o8 := own_up o8 b7
        replace o9 : w7.ownsRow w6.heap.size 3 1 v9 (limbs (Y / Nat.gcd X Y)).length (intsV (limbs (Y / Nat.gcd X Y))) := by simpa [intsV_length] using o9
        obtain ⟨A9, c9, rfl⟩ := own_len o9
        have cz0 := kr.here.cell 0 _ rfl
        have cz1 := kr.here.cell 1 _ rfl
        have cz2 := kr.here.cell 2 _ rfl
        have fz0 := Lib.frozen_of_heap kr.here 0
        have fz1 := Lib.frozen_of_heap kr.here 1
        have fz2 := Lib.frozen_of_heap kr.here 2
        have HR := Lib.hid (newQb_ret (x := (mkS n (limbs (X / Nat.gcd X Y)), limbs (Y / Nat.gcd X Y))) (b := true) kr.here o8 o9 hap bb5.size bb6.size (Nat.le_refl _) bb7)
        clear g9 b7 hap o8 o9 o6 kr HONE hq
        go_wp2
        refine bodyPost_ret (v := .tuple #[.agg #[.bool _, .slice A8 _ c8, .slice A9 _ c9], .bool true]) (by simp [results, Tryd.results121, go_sem, cz0, cz1, cz2]; exact ⟨rfl, rfl, rfl⟩) rfl ?_
        rw [HV.out]
        exact HR.out
      · have h3 : decide ((18 : Int) < ((limbs (Y / Nat.gcd X Y)).length : Int)) = true := decide_eq_true (by omega)
        have HV := Lib.hid (show lowQ n X Y = (zeroQ, false) by rw [HLOW.out, if_neg (fun h => hq h.2)])
        have cz0 := kr.here.cell 0 _ rfl
        have cz1 := kr.here.cell 1 _ rfl
        have cz2 := kr.here.cell 2 _ rfl
        have fz0 := Lib.frozen_of_heap kr.here 0
        have fz1 := Lib.frozen_of_heap kr.here 1
        have fz2 := Lib.frozen_of_heap kr.here 2
        clear hp hq o4 o6 kr
        go_wp2
        refine bodyPost_ret (v := .tuple #[.agg #[.bool false, .slice none 0 0, .slice none 0 0], .bool false]) (by simp [results, Tryd.results121, go_sem, cz0, cz1, cz2]) rfl ?_
        rw [HV.out]
        exact newQb_zero _ (below_set3 bb5 (Nat.le_refl _))
    · have h2 : decide ((18 : Int) < ((limbs (X / Nat.gcd X Y)).length : Int)) = true := decide_eq_true (by omega)
      have HV := Lib.hid (show lowQ n X Y = (zeroQ, false) by rw [HLOW.out, if_neg (fun h => hp h.1)])
      have cz0 := kr.here.cell 0 _ rfl
      have cz1 := kr.here.cell 1 _ rfl
      have cz2 := kr.here.cell 2 _ rfl
      have fz0 := Lib.frozen_of_heap kr.here 0
      have fz1 := Lib.frozen_of_heap kr.here 1
      have fz2 := Lib.frozen_of_heap kr.here 2
      clear hp o4 o6 kr
      go_wp2
      refine bodyPost_ret (v := .tuple #[.agg #[.bool false, .slice none 0 0, .slice none 0 0], .bool false]) (by simp [results, Tryd.results121, go_sem, cz0, cz1, cz2]) rfl ?_
      rw [HV.out]
      exact newQb_zero _ (below_set3 bb5 (Nat.le_refl _))
  · have h1 : (((limbs Y).length : Int) == 0) = true := by rw [beq_iff_eq]; omega
    have HV := Lib.hid (show lowQ n X Y = (zeroQ, false) by unfold lowQ; simp [limbs_empty hy])
    have cz0 := kr.here.cell 0 _ rfl
    have cz1 := kr.here.cell 1 _ rfl
    have cz2 := kr.here.cell 2 _ rfl
    have fz0 := Lib.frozen_of_heap kr.here 0
    have fz1 := Lib.frozen_of_heap kr.here 1
    have fz2 := Lib.frozen_of_heap kr.here 2
    clear hy o1 o2 kr
    go_wp2
    refine bodyPost_ret (v := .tuple #[.agg #[.bool false, .slice none 0 0, .slice none 0 0], .bool false]) (by simp [results, Tryd.results121, go_sem, cz0, cz1, cz2]) rfl ?_
    rw [HV.out]
    exact newQb_zero _ bb0
end Go.Proofs.YtcenmdiblbooeaaDoor

namespace Go.Proofs.YtcenmdiblbooeaaDoor
open Go.RowKit

def topN (q : QI) : Nat := (nval q.1.2).toNat
structure Parts (q : QI) : Prop where
  okn : okS q.1 = true
  okd : natOkB q.2 = true
  n50 : q.1.2.length ≤ 18
  d50 : q.2.length ≤ 18
  n : q.1.2 = limbs (topN q)
  d : q.2 = limbs (denQ q)
  nlt : (topN q : Int) < bp 18
  dlt : (denQ q : Int) < bp 18
  pos : 0 < denQ q
  top : numQ q = if q.1.1 = true then -(topN q : Int) else topN q
theorem parts_of {q : QI} (h : okQ q = true) : Parts q := by
  obtain ⟨h1, h2, h3, h4, h5, h6⟩ := okQ_parts h
  have p1 := okS_parts h1
  have n1 := nval_ok p1.1
  have n2 := nval_ok h2
  have l1 := nval_lt _ (natOk_parts p1.1).1
  have l2 := nval_lt _ (natOk_parts h2).1
  have m1 := bp_mono h5
  have m2 := bp_mono h4
  refine ⟨h1, h2, h5, h4, natOk_limbs p1.1, natOk_limbs h2, by unfold topN; omega, by unfold denQ; omega, denQ_pos h, ?_⟩
  unfold numQ valS topN
  split <;> omega
theorem prod_lt {X Y : Nat} (hx : (X : Int) < bp 18) (hy : (Y : Int) < bp 18) : ((X * Y : Nat) : Int) < bp 36 := by
  have e : bp 36 = bp 18 * bp 18 := bp_add 18 18
  have p := bp_pos 18
  rw [e, Int.natCast_mul]
  rcases Nat.eq_zero_or_pos Y with h | h
  · subst h
    have := Int.mul_pos p p
    simpa using this
  · have h1 : (X : Int) * Y < bp 18 * Y := Int.mul_lt_mul_of_pos_right hx (by omega)
    have h2 : bp 18 * (Y : Int) ≤ bp 18 * bp 18 := Int.mul_le_mul_of_nonneg_left (by omega) (by omega)
    omega
theorem prod_len {X Y : Nat} (hx : (X : Int) < bp 18) (hy : (Y : Int) < bp 18) : (limbs (X * Y)).length ≤ 36 := limbs_length_le _ 36 (prod_lt hx hy)
theorem mul_toNat {a b : List Int} (ha : natOkB a = true) (hb : natOkB b = true) : (nval a * nval b).toNat = (nval a).toNat * (nval b).toNat := by
  have n1 := nval_ok ha
  have n2 := nval_ok hb
  rw [Int.toNat_mul n1 n2]
theorem bp37 : bp 36 + bp 36 ≤ bp 37 := by
  have e : bp 37 = 1000000000 * bp 36 := rfl
  have p := bp_pos 36
  omega
/-- a cross product with its sign -/
theorem cross_ofZ {n : Bool} {X Y : Nat} : mkS n (limbs (X * Y)) = ofZ (if n = true then -((X * Y : Nat) : Int) else ((X * Y : Nat) : Int)) ∧ okS (mkS n (limbs (X * Y))) = true ∧ (mkS n (limbs (X * Y))).2.length ≤ 50 := by
  rw [mkS_limbs]
  exact ⟨rfl, ofZ_ok _, ofZ_len _⟩
theorem cross_val {n : Bool} {X Y : Nat} (hx : (X : Int) < bp 18) (hy : (Y : Int) < bp 18) : valS (mkS n (limbs (X * Y))) = (if n = true then -(X : Int) else X) * Y := by
  have h := limbs_length_le _ 36 (prod_lt hx hy)
  rw [mkS_limbs, ofZ_val]
  · split
    · rw [Int.natCast_mul, Int.neg_mul]
    · rw [Int.natCast_mul]
  · rw [show (if n = true then -((X * Y : Nat) : Int) else ((X * Y : Nat) : Int)).natAbs = X * Y by split <;> omega]
    omega
theorem abs_lt {z : Int} {m : Nat} {b : Int} (h : z.natAbs = m) (hb : (m : Int) < b) : -b < z ∧ z < b := by omega
theorem cross_lt {n : Bool} {X Y : Nat} (hx : (X : Int) < bp 18) (hy : (Y : Int) < bp 18) : -(bp 36) < (if n = true then -(X : Int) else X) * Y ∧ (if n = true then -(X : Int) else X) * Y < bp 36 := by
  have h := prod_lt hx hy
  refine abs_lt (m := X * Y) ?_ h
  split
  · rw [Int.neg_mul, Int.natAbs_neg, ← Int.natCast_mul]; omega
  · rw [← Int.natCast_mul]; omega
/-- the sum of two cross products -/
theorem sum_ofZ {z : Int} (h1 : -(bp 37) < z) (h2 : z < bp 37) : ofZ z = (decide (z < 0), limbs z.natAbs) ∧ (limbs z.natAbs).length ≤ 37 := by
  have hl := limbs_length_le z.natAbs 37 (by omega)
  unfold ofZ
  rw [if_pos (by omega)]
  exact ⟨rfl, hl⟩
theorem lowQ_sz (n : Bool) (a b : Nat) : szQ (lowQ n a b).1 ≤ 1048576 := by
  unfold lowQ
  split
  · rename_i h
    unfold szQ szS szI
    simp only
    have : (mkS n (limbs (a / Nat.gcd a b))).2.length ≤ 50 := by rw [mkS_limbs]; exact ofZ_len _
    omega
  · decide
theorem zeroQ_sz : szQ zeroQ ≤ 1048576 := by decide
/-- a result that lies in its cells at block r: a new fraction and a bool with it -/
theorem newQb_at {r B : Nat} {S : List Nat} {c0 c1 c2 : Value} {x : QI} {b : Bool} {w W : World} (o : At S (OwnQ (.agg #[c0, c1, c2]) x) W) (l : Within S B W.heap.size) (hrB : r < B) (hr : w.heap.size ≤ r) (hW : Below w.heap.size w W) :
    PostQb x b w (.returned (.tuple #[.agg #[c0, c1, c2], .bool b])) (((W.setCell ⟨r, 0, none⟩ c0).setCell ⟨r, 1, none⟩ c1).setCell ⟨r, 2, none⟩ c2) := by
  have hc : Chg [r] W (((W.setCell ⟨r, 0, none⟩ c0).setCell ⟨r, 1, none⟩ c1).setCell ⟨r, 2, none⟩ c2) := (((Chg.refl _ _).setCell (by simp) _).setCell (by simp) _).setCell (by simp) _
  have hz := hc.size
  exact ⟨_, S, rfl, o.chg hc (fun i hi hm => by have := l i hi; simp at hm; omega), fun i hi => by have := l i hi; omega, below_set3 hW hr⟩
theorem Chg.setNew {T : List Nat} {w w1 : World} {p : Addr} (h : Chg T w w1) (hp : w.heap.size ≤ p.block) (u : Value) : Chg T w (w1.setCell p u) :=
  ⟨h.os, h.tape, h.output, by simpa [World.setCell] using h.size, fun i hi hn => (Below.heap_setCell _ _ _ _ (by omega)).trans (h.block i hi hn)⟩
theorem below_of_chg {w w1 : World} (h : Chg [] w w1) : Below w.heap.size w w1 := ⟨h.os, h.tape, h.output, h.size, fun i hi => h.block i hi (by simp)⟩
theorem mulX_any (va vb : Value) (a b : List Int) (X : Nat) (w : World) (hal : a.length ≤ 18) (hbl : b.length ≤ 18) (oa : natOkB a = true) (ob : natOkB b = true) (hX : (nval a * nval b).toNat = X) (ha : OwnI va a w) (hb : OwnI vb b w) :
    Calls Tryd.prog 101 #[va, vb] w (NewV (fun u => OwnI u (limbs X)) w) := by
  subst hX
  exact (specMulV_any va vb a b 0 _ 0 _ w (by omega) (by omega) (Nat.le_refl _) (Nat.le_refl _) (natOk_parts oa).1 (natOk_parts ob).1 ha.row hb.row).mono fun _ _ h => h.newV
theorem makeX_any (n : Bool) (v : Value) (X : Nat) (A : SI) (w : World) (hl : (limbs X).length ≤ 50) (hA : mkS n (limbs X) = A) (ho : OwnI v (limbs X) w) : Calls Tryd.prog 89 #[.bool n, v] w (NewV (fun u => OwnS u A) w) := by
  subst hA
  have h := l04Make_any n v (limbs X) 0 w (by omega) ho
  rw [trim_ok] at h
  exact h.mono fun _ _ h => h.newV
theorem addX_any (vx vy : Value) (x y N : SI) (w : World) (okx : okS x = true) (oky : okS y = true) (hN : ofZ (valS x + valS y) = N) (hx : OwnS vx x w) (hy : OwnS vy y w) : Calls Tryd.prog 100 #[vx, vy] w (NewV (fun u => OwnS u N) w) := by
  subst hN
  exact (l04Add_any vx vy x y w okx oky hx hy).mono fun _ _ h => h.newV
theorem lowX_any (n : Bool) (va vb : Value) (a b : List Int) (X Y : Nat) (w : World) (hX : (limbs X).length ≤ 50) (hY : (limbs Y).length ≤ 50) (ha : a = limbs X) (hb : b = limbs Y) (oa : OwnI va a w) (ob : OwnI vb b w) :
    Calls Tryd.prog 121 #[.bool n, va, vb] w (PostQb (lowQ n X Y).1 (lowQ n X Y).2 w) := by
  subst ha hb
  exact l05Low_any n va vb X Y w hX hY oa ob
end Go.Proofs.YtcenmdiblbooeaaDoor

namespace Go.Proofs.YtcenmdiblbooeaaDoor
open Go.RowKit

theorem ownS_open {u c : Value} {x : SI} {w : World} (h : OwnS (.agg #[c, u]) x w) : OwnI u x.2 w := by
  obtain ⟨u', e, hu⟩ := h
  injection e with e
  simp at e
  obtain ⟨_, e2⟩ := e
  subst e2
  exact hu
theorem OwnS.below {w W : World} {v : Value} {x : SI} (h : OwnS v x w) (hb : Below w.heap.size w W) : OwnS v x W := by
  obtain ⟨u, rfl, o⟩ := h
  exact ⟨u, rfl, own_below o hb⟩
theorem one_szS : szS (ofZ 1) ≤ 1048576 := by have := ofZ_len 1; unfold szS szI; omega
theorem postQb_eq {q Q : QI × Bool} (e : q = Q) {w w' : World} {n : Ending} (h : PostQb q.1 q.2 w n w') : PostQb Q.1 Q.2 w n w' := by rw [← e]; exact h
theorem postn_eq {z z' : Int} (e : z = z') {w w' : World} {n : Ending} (h : Postn z w n w') : Postn z' w n w' := by rw [← e]; exact h
theorem newQ_ret {r : Nat} {u d c0 c1 c2 : Value} {x : QI} {w W : World} {B C : Nat} (hb : BoxAt r #[c0, c1, c2] 49 W) (o : W.ownsRow B 3 1 u x.1.2.length (intsV x.1.2)) (p : W.ownsRow C 3 1 d x.2.length (intsV x.2))
    (hap : ∀ g, u.ownBlock = some g → d.ownBlock ≠ some g) (hB : w.heap.size ≤ B) (hC : w.heap.size ≤ C) (hr : w.heap.size ≤ r) (hW : Below w.heap.size w W) :
    NewV (fun v => OwnQ v x) w (.returned (.agg #[.bool x.1.1, u, d])) (((W.setCell ⟨r, 0, none⟩ (.bool x.1.1)).setCell ⟨r, 1, none⟩ u).setCell ⟨r, 2, none⟩ d) := by
  obtain ⟨v, S, e, k1, k2, k3⟩ := newQb_ret (b := true) hb o p hap hB hC hr hW
  refine ⟨v, S, ?_, k1, k2, k3⟩
  injection e with e
  injection e with e
  simp at e
  rw [e]
theorem OwnQ.below {w W : World} {v : Value} {x : QI} (h : OwnQ v x w) (hb : Below w.heap.size w W) : OwnQ v x W := by
  obtain ⟨u, d, rfl, o, p, hap⟩ := h
  exact ⟨u, d, rfl, own_below o hb, own_below p hb, hap⟩
end Go.Proofs.YtcenmdiblbooeaaDoor

namespace Go.Proofs.YtcenmdiblbooeaaDoor
open Go.RowKit

set_option maxHeartbeats 2000000 in
set_option maxRecDepth 100000 in
theorem specRatMake_any (va vb : Value) (a b : SI) (w : World) (hza : szS a ≤ 1048576) (hzb : szS b ≤ 1048576) (ha : OwnS va a w) (hb : OwnS vb b w) :
    Calls Tryd.prog 105 #[va, vb] w (PostQb (makeQ a b).1 (makeQ a b).2 w) := by
  have Ha := Lib.hid ha
  obtain ⟨Aa, ca, rfl⟩ := ownS_form ha
  have OSa := Lib.hid (show ∀ W, Below w.heap.size w W → OwnS (.agg #[.bool a.1, .slice Aa a.2.length ca]) a W from fun W hb => OwnS.below Ha.out hb)
  have OIa := Lib.hid (show ∀ W, Below w.heap.size w W → OwnI (.slice Aa a.2.length ca) a.2 W from fun W hb => ownS_open (OSa.out W hb))
  clear ha
  have Hb := Lib.hid hb
  obtain ⟨Ab, cb, rfl⟩ := ownS_form hb
  have OSb := Lib.hid (show ∀ W, Below w.heap.size w W → OwnS (.agg #[.bool b.1, .slice Ab b.2.length cb]) b W from fun W hb => OwnS.below Hb.out hb)
  have OIb := Lib.hid (show ∀ W, Below w.heap.size w W → OwnI (.slice Ab b.2.length cb) b.2 W from fun W hb => ownS_open (OSb.out W hb))
  clear hb
  have hla : a.2.length ≤ 1048576 := by unfold szS szI at hza; omega
  have hlb : b.2.length ≤ 1048576 := by unfold szS szI at hzb; omega
  clear hza hzb
  have bb0 : Below w.heap.size w (((w.alloc (.cells #[.bool a.1, .slice Aa a.2.length ca] 30)).alloc (.cells #[.bool b.1, .slice Ab b.2.length cb] 30)).alloc (.cells #[.bool false, .slice none 0 0, .slice none 0 0] 49)) := below_al (below_al (below_al (Below.refl _ _) _) _) _
  have ka := (box_new w #[.bool a.1, .slice Aa a.2.length ca] 30).below (below_al (below_al (Below.refl _ _) (.cells #[.bool b.1, .slice Ab b.2.length cb] 30)) (.cells #[.bool false, .slice none 0 0, .slice none 0 0] 49))
  have kb := (box_new (w.alloc (.cells #[.bool a.1, .slice Aa a.2.length ca] 30)) #[.bool b.1, .slice Ab b.2.length cb] 30).below (below_al (Below.refl _ _) (.cells #[.bool false, .slice none 0 0, .slice none 0 0] 49))
  rw [show (w.alloc (.cells #[.bool a.1, .slice Aa a.2.length ca] 30)).heap.size = w.heap.size + 1 by simp] at kb
  have ko := (box_new ((w.alloc (.cells #[.bool a.1, .slice Aa a.2.length ca] 30)).alloc (.cells #[.bool b.1, .slice Ab b.2.length cb] 30)) #[.bool false, .slice none 0 0, .slice none 0 0] 49)
  rw [show ((w.alloc (.cells #[.bool a.1, .slice Aa a.2.length ca] 30)).alloc (.cells #[.bool b.1, .slice Ab b.2.length cb] 30)).heap.size = w.heap.size + 1 + 1 by simp] at ko
  go_enter Tryd.func105, Tryd.ntmps105
  have ka_c0 := ka.here.cell 0 _ rfl
  have ka_c1 := ka.here.cell 1 _ rfl
  go_wp2_with fail
  clear ka_c0 ka_c1
  refine (specIntOk_any _ a _ hla (OwnS.rd (OSa.out _ bb0))).mono ?_
  rintro e w1 ⟨rfl, b1⟩
  have bb1 := Below.next bb0 b1
  replace ka := ka.below b1
  replace kb := kb.below b1
  replace ko := ko.below b1
  by_cases oka : okS a = true
  · rw [oka]
    have HOa := Lib.hid oka
    clear oka
    have kb_c0 := kb.here.cell 0 _ rfl
    have kb_c1 := kb.here.cell 1 _ rfl
    go_wp2_with fail
    clear kb_c0 kb_c1
    refine (specIntOk_any _ b _ hlb (OwnS.rd (OSb.out _ bb1))).mono ?_
    rintro e w2 ⟨rfl, b2⟩
    have bb2 := Below.next bb1 b2
    replace ka := ka.below b2
    replace kb := kb.below b2
    replace ko := ko.below b2
    by_cases okb : okS b = true
    · rw [okb]
      have HOb := Lib.hid okb
      clear okb
      have HKO := Lib.hid (ko.lt (w.heap.size + 1 + 1) (by simp))
      have Ea := Lib.hid (natOk_limbs (okS_parts HOa.out).1)
      have Eb := Lib.hid (natOk_limbs (okS_parts HOb.out).1)
      obtain ⟨Na, hNa⟩ : ∃ Na, (nval a.2).toNat = Na := ⟨_, rfl⟩
      have Ea := Lib.hid (show a.2 = limbs Na by rw [← hNa]; exact natOk_limbs (okS_parts HOa.out).1)
      have La := Lib.hid (show (limbs Na).length ≤ 50 by rw [← Ea.out]; exact (natOk_parts (okS_parts HOa.out).1).2.1)
      obtain ⟨Nb, hNb⟩ : ∃ Nb, (nval b.2).toNat = Nb := ⟨_, rfl⟩
      have Eb := Lib.hid (show b.2 = limbs Nb by rw [← hNb]; exact natOk_limbs (okS_parts HOb.out).1)
      have Lb := Lib.hid (show (limbs Nb).length ≤ 50 by rw [← Eb.out]; exact (natOk_parts (okS_parts HOb.out).1).2.1)
      have HV := Lib.hid (show makeQ a b = lowQ (!(a.1 == b.1)) Na Nb by unfold makeQ; rw [if_pos ⟨HOa.out, HOb.out⟩, hNa, hNb]; rfl)
      clear hNa hNb
      have ka_c0 := ka.here.cell 0 _ rfl
      have ka_c1 := ka.here.cell 1 _ rfl
      have kb_c0 := kb.here.cell 0 _ rfl
      have kb_c1 := kb.here.cell 1 _ rfl
      go_wp2_with fail
      clear ka_c0 ka_c1 kb_c0 kb_c1
      refine (lowX_any _ _ _ a.2 b.2 Na Nb _ La.out Lb.out Ea.out Eb.out (OIa.out _ bb2) (OIb.out _ bb2)).mono ?_
      rintro e w3 ⟨uf, Sf, rfl, of, lf, b3⟩
      obtain ⟨Af, cf, Bf, df, rfl⟩ := ownQ_form of.here
      have bb3 := Below.next bb2 b3
      replace ka := ka.below b3
      replace kb := kb.below b3
      replace ko := ko.below b3
      have HW := Lib.hid (newQb_at (r := w.heap.size + 1 + 1) (b := (lowQ (!(a.1 == b.1)) Na Nb).2) of lf (by have := HKO.out; omega) (by omega) bb3)
      have cz0 := ko.here.cell 0 _ rfl
      have fz0 := Lib.frozen_of_heap ko.here 0
      have cz1 := ko.here.cell 1 _ rfl
      have fz1 := Lib.frozen_of_heap ko.here 1
      have cz2 := ko.here.cell 2 _ rfl
      have fz2 := Lib.frozen_of_heap ko.here 2
      clear of ko
      go_wp2
      refine bodyPost_ret (v := .tuple #[.agg #[.bool _, .slice Af _ cf, .slice Bf _ df], .bool _]) (by simp [results, Tryd.results105, go_sem, cz0, cz1, cz2]; exact ⟨⟨rfl, rfl, rfl⟩, rfl⟩) rfl ?_
      rw [HV.out]
      exact HW.out
    · have okb' : okS b = false := by simpa using okb
      have HV := Lib.hid (show makeQ a b = (zeroQ, false) by unfold makeQ; rw [if_neg (fun h => okb h.2)])
      rw [okb']
      clear okb okb'
      have ko_c0 := ko.here.cell 0 _ rfl
      have ko_c1 := ko.here.cell 1 _ rfl
      have ko_c2 := ko.here.cell 2 _ rfl
      have cz0 := ko.here.cell 0 _ rfl
      have fz0 := Lib.frozen_of_heap ko.here 0
      have cz1 := ko.here.cell 1 _ rfl
      have fz1 := Lib.frozen_of_heap ko.here 1
      have cz2 := ko.here.cell 2 _ rfl
      have fz2 := Lib.frozen_of_heap ko.here 2
      go_wp2
      refine bodyPost_ret (v := .tuple #[.agg #[.bool false, .slice none 0 0, .slice none 0 0], .bool false]) (by simp [results, Tryd.results105, go_sem, cz0, cz1, cz2]) rfl ?_
      rw [HV.out]
      first | exact newQb_zero _ bb2 | exact newQb_zero _ (below_set3 bb2 (by omega))
  · have oka' : okS a = false := by simpa using oka
    have HV := Lib.hid (show makeQ a b = (zeroQ, false) by unfold makeQ; rw [if_neg (fun h => oka h.1)])
    rw [oka']
    clear oka oka'
    have ko_c0 := ko.here.cell 0 _ rfl
    have ko_c1 := ko.here.cell 1 _ rfl
    have ko_c2 := ko.here.cell 2 _ rfl
    have cz0 := ko.here.cell 0 _ rfl
    have fz0 := Lib.frozen_of_heap ko.here 0
    have cz1 := ko.here.cell 1 _ rfl
    have fz1 := Lib.frozen_of_heap ko.here 1
    have cz2 := ko.here.cell 2 _ rfl
    have fz2 := Lib.frozen_of_heap ko.here 2
    go_wp2
    refine bodyPost_ret (v := .tuple #[.agg #[.bool false, .slice none 0 0, .slice none 0 0], .bool false]) (by simp [results, Tryd.results105, go_sem, cz0, cz1, cz2]) rfl ?_
    rw [HV.out]
    first | exact newQb_zero _ bb1 | exact newQb_zero _ (below_set3 bb1 (by omega))
set_option maxHeartbeats 2000000 in
set_option maxRecDepth 100000 in
theorem specRatInt_any (va : Value) (a : SI) (w : World) (hza : szS a ≤ 1048576) (ha : OwnS va a w) :
    Calls Tryd.prog 76 #[va] w (PostQb (makeQ a (ofZ 1)).1 (makeQ a (ofZ 1)).2 w) := by
  have Ha := Lib.hid ha
  obtain ⟨Aa, ca, rfl⟩ := ownS_form ha
  have OSa := Lib.hid (show ∀ W, Below w.heap.size w W → OwnS (.agg #[.bool a.1, .slice Aa a.2.length ca]) a W from fun W hb => OwnS.below Ha.out hb)
  have OIa := Lib.hid (show ∀ W, Below w.heap.size w W → OwnI (.slice Aa a.2.length ca) a.2 W from fun W hb => ownS_open (OSa.out W hb))
  clear ha
  have bb0 : Below w.heap.size w ((w.alloc (.cells #[.bool a.1, .slice Aa a.2.length ca] 30)).alloc (.cells #[.bool false, .slice none 0 0, .slice none 0 0] 49)) := below_al (below_al (Below.refl _ _) _) _
  have ka := (box_new w #[.bool a.1, .slice Aa a.2.length ca] 30).below (below_al (Below.refl _ _) (.cells #[.bool false, .slice none 0 0, .slice none 0 0] 49))
  have ko := (box_new (w.alloc (.cells #[.bool a.1, .slice Aa a.2.length ca] 30)) #[.bool false, .slice none 0 0, .slice none 0 0] 49)
  rw [show (w.alloc (.cells #[.bool a.1, .slice Aa a.2.length ca] 30)).heap.size = w.heap.size + 1 by simp] at ko
  have HKO := Lib.hid (ko.lt (w.heap.size + 1) (by simp))
  obtain ⟨Q, hQ⟩ : ∃ Q, makeQ a (ofZ 1) = Q := ⟨_, rfl⟩
  have EQ := Lib.hid hQ
  rw [hQ]
  clear hQ
  obtain ⟨W0, hW0⟩ : ∃ W0, W0 = ((w.alloc (.cells #[.bool a.1, .slice Aa a.2.length ca] 30)).alloc (.cells #[.bool false, .slice none 0 0, .slice none 0 0] 49)) := ⟨_, rfl⟩
  rw [← hW0] at bb0 ka ko HKO
  have HW0 := Lib.hid hW0
  clear hW0
  have hz0 := HKO.out
  go_enter Tryd.func76, Tryd.ntmps76
  have ka_c0 := ka.here.cell 0 _ rfl
  have ka_c1 := ka.here.cell 1 _ rfl
  go_wp2_with fail
  rw [← HW0.out]
  have HC0 := Lib.hid (show Chg [w.heap.size + 1] W0 W0.drew from (Chg.refl _ _).drew1)
  have HCr := Lib.hid (show Chg [w.heap.size + 1] W0 W0 from Chg.refl _ _)
  have KL := Lib.hid (show ∀ W, Chg [w.heap.size + 1] W0 W → W.cell? ⟨w.heap.size, 0, none⟩ = some (.bool a.1) ∧ W.cell? ⟨w.heap.size, 1, none⟩ = some (.slice Aa a.2.length ca) ∧ Hid (Chg [w.heap.size + 1] W0 W) from fun W hc => ⟨(ka.chg hc (fun i hi hm => by simp at hi hm; omega)).here.cell 0 _ rfl, (ka.chg hc (fun i hi hm => by simp at hi hm; omega)).here.cell 1 _ rfl, Lib.hid hc⟩)
  have BBF := Lib.hid (show ∀ W, Chg [w.heap.size + 1] W0 W → Below w.heap.size w W from fun W hc => below_chg bb0 hc bb0.size (fun i hi => by simp at hi; omega))
  clear ka_c0 ka_c1
  go_region_held3 (fun W => W.cell? ⟨w.heap.size, 0, none⟩ = some (.bool a.1) ∧ W.cell? ⟨w.heap.size, 1, none⟩ = some (.slice Aa a.2.length ca) ∧ Hid (Chg [w.heap.size + 1] W0 W))
    ((refine KL.out _ ?_; (first | exact HC2.out | exact HC1.out | exact HCr.out | exact HC0.out | exact HC2.out.drew1 | exact HC1.out.drew1 | exact HCr.out.drew1 | exact HC0.out.drew1 | exact HC2.out.trans (Chg.of_below (below_al (Below.refl _ _) _)) | exact HC1.out.trans (Chg.of_below (below_al (Below.refl _ _) _)) | exact HCr.out.trans (Chg.of_below (below_al (Below.refl _ _) _)) | exact HC0.out.trans (Chg.of_below (below_al (Below.refl _ _) _)) | exact (Chg.setCell HC2.out (by simp) _) | exact (Chg.setCell (Chg.setCell HC2.out (by simp) _) (by simp) _) | exact (Chg.setCell (Chg.setCell (Chg.setCell HC2.out (by simp) _) (by simp) _) (by simp) _) | fail)))
    (first
      | (go_at_call 56; (have hBB := (‹_ ∧ _ ∧ Hid (Chg [w.heap.size + 1] W0 _)›).2.2); (with_reducible refine ((specIntOf_any 1 _ (by decide) (by decide)).mono fun _ _ h => NewS.newV h).mono ?_); rintro e w1 ⟨ui, Si, rfl, oi, li, b1⟩; have HC1 := Lib.hid (hBB.out.trans (Chg.of_below b1)); (have ko_1 := At.below (by first | exact ko | exact At.below ko (below_al (Below.refl _ _) _) | exact At.below (At.below ko (below_al (Below.refl _ _) _)) (below_al (Below.refl _ _) _) | exact At.move ko (fun _ _ => rfl) (Nat.le_refl _)) b1); obtain ⟨Ai, ci, rfl⟩ := ownS_form oi.here; have HBZ1 := Lib.hid hBB.out.size; clear hBB)
      | (go_at_call 105; (have hBB := (‹_ ∧ _ ∧ Hid (Chg [w.heap.size + 1] W0 _)›).2.2); (with_reducible refine ((specRatMake_any _ _ a (ofZ 1) _ hza one_szS (OSa.out _ (BBF.out _ hBB.out)) (At.here (by first | exact oi | exact At.below oi (below_al (Below.refl _ _) _) | exact At.below (At.below oi (below_al (Below.refl _ _) _)) (below_al (Below.refl _ _) _) | exact At.move oi (fun _ _ => rfl) (Nat.le_refl _)))).mono fun _ _ h => postQb_eq EQ.out h).mono ?_); rintro e w2 ⟨uf, Sf, rfl, of, lf, b2⟩; have HC2 := Lib.hid (hBB.out.trans (Chg.of_below b2)); (have ko_2 := At.below (by first | exact ko_1 | exact At.below ko_1 (below_al (Below.refl _ _) _) | exact At.below (At.below ko_1 (below_al (Below.refl _ _) _)) (below_al (Below.refl _ _) _) | exact At.move ko_1 (fun _ _ => rfl) (Nat.le_refl _)) b2); (have oi_2 := At.below (by first | exact oi | exact At.below oi (below_al (Below.refl _ _) _) | exact At.below (At.below oi (below_al (Below.refl _ _) _)) (below_al (Below.refl _ _) _) | exact At.move oi (fun _ _ => rfl) (Nat.le_refl _)) b2); obtain ⟨Af, cf, Bf, df, rfl⟩ := ownQ_form of.here; have cz0 := ko_2.here.cell 0 _ rfl; have fz0 := Lib.frozen_of_heap ko_2.here 0; have cz1 := ko_2.here.cell 1 _ rfl; have fz1 := Lib.frozen_of_heap ko_2.here 1; have cz2 := ko_2.here.cell 2 _ rfl; have fz2 := Lib.frozen_of_heap ko_2.here 2; have HBZ2 := Lib.hid hBB.out.size; clear hBB))
  have bb2 := BBF.out _ HC2.out
  replace ka := ka.chg HC2.out (fun i hi hm => by simp at hi hm; omega)
  replace ko := ko_2
  have oi := oi_2
  have HW := Lib.hid (newQb_at (r := w.heap.size + 1) (b := Q.2) of lf (by have := HBZ2.out; omega) (by omega) bb2)
  clear of ko ka oi
  go_wp2
  refine bodyPost_ret (v := .tuple #[.agg #[.bool _, .slice Af _ cf, .slice Bf _ df], .bool _]) (by simp [results, Tryd.results76, go_sem, cz0, cz1, cz2]; exact ⟨⟨rfl, rfl, rfl⟩, rfl⟩) rfl ?_
  exact HW.out
end Go.Proofs.YtcenmdiblbooeaaDoor

namespace Go.Proofs.YtcenmdiblbooeaaDoor
open Go.RowKit

def ratM (m : MI) : QI := if okM m = true then (makeQ m.2 (ofZ 1)).1 else zeroQ
set_option maxHeartbeats 2000000 in
set_option maxRecDepth 100000 in
theorem specMoneyRat_any (vm : Value) (m : MI) (w : World) (hz : szS m.2 ≤ 1048576) (hm : OwnM vm m w) : Calls Tryd.prog 37 #[vm] w (NewV (fun v => OwnQ v (ratM m)) w) := by
  have Hm := Lib.hid hm
  obtain ⟨Am, cm, rfl⟩ := ownM_form hm
  have OMm := Lib.hid (show ∀ W, Below w.heap.size w W → OwnM (.agg #[.string m.1, .bool m.2.1, .slice Am m.2.2.length cm]) m W from fun W hb => OwnM.below Hm.out hb)
  have OSm := Lib.hid (show ∀ W, Below w.heap.size w W → OwnS (.agg #[.bool m.2.1, .slice Am m.2.2.length cm]) m.2 W from fun W hb => OwnS.mk (ownM_open (OMm.out W hb)))
  clear hm
  have hl : m.2.2.length ≤ 1048576 := by unfold szS szI at hz; omega
  have bb0 : Below w.heap.size w ((w.alloc (.cells #[.string m.1, .bool m.2.1, .slice Am m.2.2.length cm] 32)).alloc (.cells #[.bool false, .slice none 0 0, .slice none 0 0] 49)) := below_al (below_al (Below.refl _ _) _) _
  have km := (box_new w #[.string m.1, .bool m.2.1, .slice Am m.2.2.length cm] 32).below (below_al (Below.refl _ _) (.cells #[.bool false, .slice none 0 0, .slice none 0 0] 49))
  have ko := box_new (w.alloc (.cells #[.string m.1, .bool m.2.1, .slice Am m.2.2.length cm] 32)) #[.bool false, .slice none 0 0, .slice none 0 0] 49
  rw [show (w.alloc (.cells #[.string m.1, .bool m.2.1, .slice Am m.2.2.length cm] 32)).heap.size = w.heap.size + 1 by simp] at ko
  have hko := ko.lt (w.heap.size + 1) (by simp)
  have HKO := Lib.hid hko
  go_enter Tryd.func37, Tryd.ntmps37
  have km_c0 := km.here.cell 0 _ rfl
  have km_c1 := km.here.cell 1 _ rfl
  have km_c2 := km.here.cell 2 _ rfl
  go_wp2_with fail
  clear km_c0 km_c1 km_c2 hko
  refine (specMoneyOk_any _ m _ hl (OMm.out _ bb0)).mono ?_
  rintro e w1 ⟨rfl, b1⟩
  have bb1 := Below.next bb0 b1
  replace km := km.below b1
  replace ko := ko.below b1
  by_cases hk : okM m = true
  · rw [hk]
    have HV := Lib.hid (show ratM m = (makeQ m.2 (ofZ 1)).1 by unfold ratM; rw [if_pos hk])
    clear hk
    have km_c0 := km.here.cell 0 _ rfl
    have km_c1 := km.here.cell 1 _ rfl
    have km_c2 := km.here.cell 2 _ rfl
    go_wp2_with fail
    clear km_c0 km_c1 km_c2
    refine (specRatInt_any _ m.2 _ hz (OSm.out _ bb1)).mono ?_
    generalize makeQ m.2 (ofZ 1) = Q at *
    rintro e w2 ⟨uf, Sf, rfl, of, lf, b2⟩
    obtain ⟨Af, cf, Bf, df, rfl⟩ := ownQ_form of.here
    have bb2 := Below.next bb1 b2
    have al := below_al (Below.refl w2.heap.size w2) (.cells #[.bool Q.1.1.1, .slice Af Q.1.1.2.length cf, .slice Bf Q.1.2.length df] 49)
    have kr := box_new w2 #[.bool Q.1.1.1, .slice Af Q.1.1.2.length cf, .slice Bf Q.1.2.length df] 49
    have z1 := b1.size
    have hz0 := HKO.out
    have HW := Lib.hid (newV_chg (φ := fun v => OwnQ v Q.1) (T := [w.heap.size + 1]) (of.below al) (fun i hi hm => by have := (lf i hi).1; simp at hm; omega) (fun i hi => by simp at hi; omega) (fun i hi => by have := (lf i hi).1; have := bb1.size; omega) (Below.next bb2 al))
    have ko2 := (ko.below b2).below al
    have cz0 := ko2.here.cell 0 _ rfl
    have cz1 := ko2.here.cell 1 _ rfl
    have cz2 := ko2.here.cell 2 _ rfl
    have fz0 := Lib.frozen_of_heap ko2.here 0
    have fz1 := Lib.frozen_of_heap ko2.here 1
    have fz2 := Lib.frozen_of_heap ko2.here 2
    have kr0 := kr.here.cell 0 _ rfl
    have kr1 := kr.here.cell 1 _ rfl
    have kr2 := kr.here.cell 2 _ rfl
    clear ko ko2 of al kr km bb2 b2 hz0
    go_wp2
    refine bodyPost_ret (v := .agg #[.bool Q.1.1.1, .slice Af Q.1.1.2.length cf, .slice Bf Q.1.2.length df]) (by simp [results, Tryd.results37, go_sem, cz0, cz1, cz2]) rfl ?_
    rw [HV.out]
    refine HW.out _ ?_
    repeat (first | exact Chg.refl _ _ | refine Chg.setCell ?_ (by simp) _)
  · have hk' : okM m = false := by simpa using hk
    rw [hk']
    have HV := Lib.hid (show ratM m = zeroQ by unfold ratM; rw [if_neg hk])
    clear hk hk'
    have cz0 := ko.here.cell 0 _ rfl
    have cz1 := ko.here.cell 1 _ rfl
    have cz2 := ko.here.cell 2 _ rfl
    have fz0 := Lib.frozen_of_heap ko.here 0
    have fz1 := Lib.frozen_of_heap ko.here 1
    have fz2 := Lib.frozen_of_heap ko.here 2
    have HW := Lib.hid (newV_chg (φ := fun v => OwnQ v zeroQ) (v := .agg #[.bool false, .slice none 0 0, .slice none 0 0]) (T := [w.heap.size + 1]) (S := []) ⟨⟨_, _, rfl, World.ownsRow_nil _ _ _ _, World.ownsRow_nil _ _ _ _, fun g hg => by cases hg⟩, fun _ hg => absurd hg List.not_mem_nil, fun w' _ => ⟨_, _, rfl, World.ownsRow_nil _ _ _ _, World.ownsRow_nil _ _ _ _, fun g hg => by cases hg⟩⟩ (fun i hi => absurd hi List.not_mem_nil) (fun i hi => by simp at hi; omega) (fun i hi => absurd hi List.not_mem_nil) bb1)
    clear ko km
    go_wp2
    refine bodyPost_ret (v := .agg #[.bool false, .slice none 0 0, .slice none 0 0]) (by simp [results, Tryd.results37, go_sem, cz0, cz1, cz2]) rfl ?_
    rw [HV.out]
    refine HW.out _ ?_
    repeat (first | exact Chg.refl _ _ | refine Chg.setCell ?_ (by simp) _)
end Go.Proofs.YtcenmdiblbooeaaDoor

namespace Go.Proofs.YtcenmdiblbooeaaDoor
open Go.RowKit

theorem cmpS_zero {b : SI} (h : okS b = true) : (cmpS b zeroS = 0) ↔ nval b.2 = 0 := by
  have n := nval_ok (okS_parts h).1
  unfold cmpS
  rw [if_pos ⟨h, zeroS_ok⟩, zeroS_val]
  have e : valS b = 0 ↔ nval b.2 = 0 := by
    unfold valS
    split <;> omega
  rw [← e]
  unfold cmpI
  split
  · omega
  · split <;> omega
theorem makeQ_none {a b : SI} (h : ¬ (okS a = true ∧ cmpS b zeroS ≠ 0)) : makeQ a b = (zeroQ, false) := by
  unfold makeQ
  split
  · rename_i hk
    have hz : nval b.2 = 0 := (cmpS_zero hk.2).1 (Classical.byContradiction fun e => h ⟨hk.1, e⟩)
    unfold lowQ
    rw [if_neg (fun k => k.1 (by rw [hz]; rfl))]
  · rfl
theorem cmpS_ok {b : SI} (h : cmpS b zeroS ≠ 0) : okS b = true := by
  unfold cmpS at h
  rcases Classical.em (okS b = true ∧ okS zeroS = true) with k | k
  · exact k.1
  · rw [if_neg k] at h
    exact absurd rfl h
/-- the parts that RatMake divides out -/
theorem makeQ_parts {a b : SI} (ha : okS a = true) (hb : cmpS b zeroS ≠ 0) : ∃ X Y : Nat,
    gcdN a.2 b.2 = limbs (Nat.gcd (nval a.2).toNat (nval b.2).toNat) ∧ (divN a.2 (gcdN a.2 b.2)).1 = limbs X ∧ (divN b.2 (gcdN a.2 b.2)).1 = limbs Y ∧ (limbs X).length ≤ 50 ∧ (limbs Y).length ≤ 50 ∧ 0 < (limbs Y).length ∧
    makeQ a b = if (limbs X).length ≤ 18 ∧ (limbs Y).length ≤ 18 then ((mkS (!(a.1 == b.1)) (limbs X), limbs Y), true) else (zeroQ, false) := by
  have hkb := cmpS_ok hb
  have pa := okS_parts ha
  have pb := okS_parts hkb
  have na := nval_ok pa.1
  have nb := nval_ok pb.1
  have hz : nval b.2 ≠ 0 := fun e => hb ((cmpS_zero hkb).2 e)
  have hg := gcdN_small a.2 b.2
  have eg : gcdN a.2 b.2 = limbs (Nat.gcd (nval a.2).toNat (nval b.2).toNat) := by unfold gcdN; rw [if_pos ⟨pa.1, pb.1⟩]
  have g0 := Nat.gcd_pos_of_pos_right (nval a.2).toNat (show 0 < (nval b.2).toNat by omega)
  have okg : natOkB (gcdN a.2 b.2) = true := by rw [eg] at hg ⊢; exact limbs_okL _ hg
  have lg : 0 < (gcdN a.2 b.2).length := by
    rw [eg]
    rcases Nat.eq_zero_or_pos (limbs (Nat.gcd (nval a.2).toNat (nval b.2).toNat)).length with h | h
    · have := (limbs_zero_iff _).1 h
      omega
    · exact h
  have dv : ∀ c : List Int, natOkB c = true → (divN c (gcdN a.2 b.2)).1 = limbs ((nval c).toNat / Nat.gcd (nval a.2).toNat (nval b.2).toNat) ∧ (limbs ((nval c).toNat / Nat.gcd (nval a.2).toNat (nval b.2).toNat)).length ≤ 50 := by
    intro c hc
    have nc := nval_ok hc
    unfold divN
    rw [if_pos ⟨hc, okg, lg⟩, eg, limbs_val]
    have e : (nval c / ((Nat.gcd (nval a.2).toNat (nval b.2).toNat : Nat) : Int)).toNat = (nval c).toNat / Nat.gcd (nval a.2).toNat (nval b.2).toNat := by
      rw [← div_toNat]
      congr 2
      omega
    simp only
    rw [e]
    refine ⟨rfl, ?_⟩
    have hm := limbs_mono (m := (((nval c).toNat / Nat.gcd (nval a.2).toNat (nval b.2).toNat : Nat) : Int)) (n := nval c) (by omega) (by have := Nat.div_le_self (nval c).toNat (Nat.gcd (nval a.2).toNat (nval b.2).toNat); omega)
    rw [Int.toNat_natCast, ← natOk_limbs hc] at hm
    have := (natOk_parts hc).2.1
    omega
  have hy : 0 < (limbs ((nval b.2).toNat / Nat.gcd (nval a.2).toNat (nval b.2).toNat)).length := by
    have h1 := Nat.div_pos (Nat.le_of_dvd (show 0 < (nval b.2).toNat by omega) (Nat.gcd_dvd_right (nval a.2).toNat (nval b.2).toNat)) g0
    rcases Nat.eq_zero_or_pos (limbs ((nval b.2).toNat / Nat.gcd (nval a.2).toNat (nval b.2).toNat)).length with h | h
    · have := (limbs_zero_iff _).1 h
      omega
    · exact h
  refine ⟨(nval a.2).toNat / Nat.gcd (nval a.2).toNat (nval b.2).toNat, (nval b.2).toNat / Nat.gcd (nval a.2).toNat (nval b.2).toNat, eg, (dv _ pa.1).1, (dv _ pb.1).1, (dv _ pa.1).2, (dv _ pb.1).2, hy, ?_⟩
  unfold makeQ
  rw [if_pos ⟨ha, hkb⟩]
  unfold lowQ
  have h0 : (nval b.2).toNat ≠ 0 := by omega
  have e : (a.1 != b.1) = !(a.1 == b.1) := rfl
  simp only [h0, ne_eq, not_false_eq_true, true_and, e]

theorem mulS_cross {x : SI} {d : List Int} {n : Nat} (hx : okS x = true) (hd : natOkB d = true) (hn : n = (nval d).toNat) : mulS x (false, d) = ofZ (valS x * n) ∧ okS (false, d) = true := by
  have h0 := nval_ok hd
  have hk : okS (false, d) = true := by unfold okS; rw [hd]; rfl
  refine ⟨?_, hk⟩
  unfold mulS
  rw [if_pos ⟨hx, hk⟩]
  have : valS (false, d) = n := by unfold valS; simp; omega
  rw [this]
theorem cross_abs {q : QI} {n : Nat} (h : Parts q) (hn : (n : Int) < bp 18) : ((numQ q * n).natAbs : Int) < bp 36 := by
  rw [h.top]
  have := prod_lt h.nlt hn
  split
  · rw [Int.neg_mul, Int.natAbs_neg, ← Int.natCast_mul]; omega
  · rw [← Int.natCast_mul]; omega
theorem ofZ_short {z : Int} {k : Nat} (h : (z.natAbs : Int) < bp k) (hk : k ≤ 50) : okS (ofZ z) = true ∧ valS (ofZ z) = z ∧ ofZ z = (decide (z < 0), limbs z.natAbs) := by
  have hl := limbs_length_le z.natAbs k h
  refine ⟨ofZ_ok z, ofZ_val (by omega), ?_⟩
  unfold ofZ
  rw [if_pos (by omega)]
/-- what RatMake makes of integers -/
theorem makeQ_ofZ {z : Int} {k m : Nat} {n : Bool} {d : List Int} (h : (z.natAbs : Int) < bp k) (hk : k ≤ 50) (hd : d = limbs m) (_ : (limbs m).length ≤ 50) (hn : okS (n, d) = true) : makeQ (ofZ z) (n, d) = lowQ (decide (z < 0) != n) z.natAbs m := by
  obtain ⟨h1, _, h3⟩ := ofZ_short h hk
  unfold makeQ
  rw [if_pos ⟨h1, hn⟩, h3]
  simp only
  rw [limbs_val, hd, limbs_val, Int.toNat_natCast, Int.toNat_natCast]
theorem nil_ok {d : List Int} (hd : natOkB d = true) : okS (false, d) = true := by unfold okS; rw [hd]; rfl
theorem numQ_val (q : QI) : valS q.1 = numQ q := rfl
def leftS (r s : QI) : SI := mulS r.1 (false, s.2)
def denS (r s : QI) : SI := (false, mulN r.2 s.2)
def topS (r s : QI) : SI := mulS r.1 s.1
theorem leftS_eq {r s : QI} (hr : Parts r) (hs : Parts s) : leftS r s = ofZ (numQ r * denQ s) ∧ okS (leftS r s) = true ∧ valS (leftS r s) = numQ r * denQ s := by
  have h := (mulS_cross hr.okn hs.okd (show denQ s = _ from rfl)).1
  rw [numQ_val] at h
  have hz := ofZ_short (cross_abs hr hs.dlt) (by decide)
  unfold leftS
  rw [h]
  exact ⟨rfl, hz.1, hz.2.1⟩
theorem denS_eq {r s : QI} (hr : Parts r) (hs : Parts s) : denS r s = (false, limbs (denQ r * denQ s)) ∧ okS (denS r s) = true ∧ (limbs (denQ r * denQ s)).length ≤ 50 := by
  have hl := Nat.le_trans (prod_len hr.dlt hs.dlt) (show 36 ≤ 50 by decide)
  have e : mulN r.2 s.2 = limbs (denQ r * denQ s) := by
    unfold mulN natRes capL
    rw [if_pos ⟨hr.okd, hs.okd⟩, mul_toNat hr.okd hs.okd]
    show (if 50 < (limbs (denQ r * denQ s)).length then [] else limbs (denQ r * denQ s)) = _
    rw [if_neg (by omega)]
  unfold denS
  rw [e]
  exact ⟨rfl, nil_ok (limbs_okL _ hl), hl⟩
theorem topS_eq {r s : QI} (hr : Parts r) (hs : Parts s) : topS r s = ofZ (numQ r * numQ s) ∧ ((numQ r * numQ s).natAbs : Int) < bp 36 ∧ (numQ r * numQ s).natAbs = topN r * topN s := by
  have e : (numQ r * numQ s).natAbs = topN r * topN s := by
    rw [Int.natAbs_mul, hr.top, hs.top]
    congr 1 <;> split <;> omega
  unfold topS mulS
  rw [if_pos ⟨hr.okn, hs.okn⟩]
  exact ⟨rfl, by rw [e]; exact prod_lt hr.nlt hs.nlt, e⟩
theorem sum_abs {x y : Int} (hx : (x.natAbs : Int) < bp 36) (hy : (y.natAbs : Int) < bp 36) : ((x + y).natAbs : Int) < bp 37 ∧ ((x - y).natAbs : Int) < bp 37 := by
  have := bp37
  omega
theorem addQ_make {r s : QI} (hr : Parts r) (hs : Parts s) (okr : okQ r = true) (oks : okQ s = true) : makeQ (addS (leftS r s) (leftS s r)) (denS r s) = addQ r s := by
  have l := leftS_eq hr hs
  have m := leftS_eq hs hr
  have d := denS_eq hr hs
  have e : addS (leftS r s) (leftS s r) = ofZ (numQ r * denQ s + numQ s * denQ r) := by
    unfold addS
    rw [if_pos ⟨l.2.1, m.2.1⟩, l.2.2, m.2.2]
  rw [e, d.1, makeQ_ofZ (sum_abs (cross_abs hr hs.dlt) (cross_abs hs hr.dlt)).1 (by decide) rfl d.2.2 (by rw [← d.1]; exact d.2.1)]
  unfold addQ
  rw [if_pos ⟨okr, oks⟩]
  simp
theorem subS_ok (x y : SI) : okS (subS x y) = true := by unfold subS; split; exact ofZ_ok _; exact zeroS_ok
theorem numQ_neg {s : QI} (oks : okQ s = true) : (negQ s).2 = true ∧ okQ (negQ s).1 = true ∧ numQ (negQ s).1 = -(numQ s) ∧ denQ (negQ s).1 = denQ s := by
  have h := parts_of oks
  have e : negQ s = ((negS s.1, s.2), true) := by unfold negQ; rw [if_pos oks]
  rw [e]
  have hv := negS_val h.okn
  have hp := okQ_parts oks
  have habs : nval (negS s.1).2 = nval s.1.2 ∧ (negS s.1).2.length = s.1.2.length := by
    have e2 : (negS s.1).2 = limbs (valS s.1).natAbs := by
      unfold negS
      rw [if_pos h.okn]
      have := ofZ_short (z := -(valS s.1)) (k := 18) (by rw [Int.natAbs_neg, valS_abs _ (okS_parts h.okn).1]; exact h.nlt) (by decide)
      rw [this.2.2, Int.natAbs_neg]
    have e3 : s.1.2 = limbs (valS s.1).natAbs := by
      rw [valS_abs _ (okS_parts h.okn).1]
      exact natOk_limbs (okS_parts h.okn).1
    rw [e2, ← e3]
    exact ⟨rfl, rfl⟩
  refine ⟨rfl, ?_, hv, rfl⟩
  unfold okQ
  rw [negS_ok, h.okd]
  simp only [Bool.true_and, decide_eq_true_eq]
  rw [habs.1, habs.2]
  exact ⟨hp.2.2.1, hp.2.2.2.1, hp.2.2.2.2.1, hp.2.2.2.2.2⟩
theorem subQ_make {r s : QI} (hr : Parts r) (hs : Parts s) (okr : okQ r = true) (oks : okQ s = true) : makeQ (subS (leftS r s) (leftS s r)) (denS r s) = subQ r s := by
  have l := leftS_eq hr hs
  have m := leftS_eq hs hr
  have d := denS_eq hr hs
  have e : subS (leftS r s) (leftS s r) = ofZ (numQ r * denQ s - numQ s * denQ r) := by
    unfold subS
    rw [if_pos ⟨l.2.1, m.2.1⟩, l.2.2, m.2.2]
  have n := numQ_neg oks
  rw [e, d.1, makeQ_ofZ (sum_abs (cross_abs hr hs.dlt) (cross_abs hs hr.dlt)).2 (by decide) rfl d.2.2 (by rw [← d.1]; exact d.2.1)]
  unfold subQ addQ
  rw [if_pos n.1, if_pos ⟨okr, n.2.1⟩, n.2.2.1, n.2.2.2, Int.neg_mul, ← Int.sub_eq_add_neg]
  simp
theorem sign_of {q : QI} (h : Parts q) : q.1.1 = decide (numQ q < 0) := okS_sign h.okn
theorem bne_lt {a b : Bool} : (a != b) = (a != b) := rfl
theorem lowQ_sign {n m : Bool} {a b : Nat} (h : a ≠ 0 → n = m) : lowQ n a b = lowQ m a b := by
  by_cases ha : a = 0
  · subst ha
    unfold lowQ
    have e : ∀ k : Bool, mkS k (limbs (0 / Nat.gcd 0 b)) = zeroS := fun k => by
      rw [Nat.zero_div, mkS_limbs]
      cases k <;> exact ofZ_zero
    rw [e, e]
  · rw [h ha]
theorem mulQ_make {r s : QI} (hr : Parts r) (hs : Parts s) (okr : okQ r = true) (oks : okQ s = true) : makeQ (topS r s) (denS r s) = mulQ r s := by
  have t := topS_eq hr hs
  have d := denS_eq hr hs
  rw [t.1, d.1, makeQ_ofZ t.2.1 (by decide) rfl d.2.2 (by rw [← d.1]; exact d.2.1), t.2.2]
  unfold mulQ
  rw [if_pos ⟨okr, oks⟩]
  refine lowQ_sign fun h => ?_
  have hr0 : topN r ≠ 0 := fun e => h (by rw [e, Nat.zero_mul])
  have hs0 : topN s ≠ 0 := fun e => h (by rw [e, Nat.mul_zero])
  rw [hr.top, hs.top]
  have p : 0 < (topN r : Int) * (topN s : Int) := Int.mul_pos (by omega) (by omega)
  have e : decide ((if r.1.1 = true then -(topN r : Int) else topN r) * (if s.1.1 = true then -(topN s : Int) else topN s) < 0) = (r.1.1 != s.1.1) := by
    cases r.1.1 <;> cases s.1.1 <;> simp [Int.neg_mul, Int.mul_neg] <;> omega
  rw [e]
  cases (r.1.1 != s.1.1) <;> rfl
theorem divQ_make {r s : QI} (hr : Parts r) (hs : Parts s) (okr : okQ r = true) (oks : okQ s = true) : makeQ (leftS r s) (leftS s r) = divQ r s := by
  have l := leftS_eq hr hs
  have m := leftS_eq hs hr
  have h1 := ofZ_short (cross_abs hr hs.dlt) (by decide)
  have h2 := ofZ_short (cross_abs hs hr.dlt) (by decide)
  have a1 : (numQ r * denQ s).natAbs = topN r * denQ s := by rw [Int.natAbs_mul, hr.top, Int.natAbs_natCast]; congr 1; split <;> omega
  have a2 : (numQ s * denQ r).natAbs = denQ r * topN s := by rw [Int.natAbs_mul, hs.top, Int.natAbs_natCast, Nat.mul_comm]; congr 1; split <;> omega
  unfold makeQ divQ
  rw [if_pos ⟨l.2.1, m.2.1⟩, if_pos ⟨okr, oks⟩, l.1, m.1, h1.2.2, h2.2.2]
  simp only
  rw [limbs_val, limbs_val, Int.toNat_natCast, Int.toNat_natCast, a1, a2]
  by_cases hs0 : topN s = 0
  · have e : (denQ r * topN s) = 0 := by rw [hs0, Nat.mul_zero]
    have e2 : denQ r * (nval s.1.2).toNat = 0 := e
    rw [e, e2]
    unfold lowQ
    simp
  · refine lowQ_sign fun h => ?_
    have hr0 : topN r ≠ 0 := fun e => h (by rw [e, Nat.zero_mul])
    have p1 : 0 < (topN r : Int) * (denQ s : Int) := Int.mul_pos (by omega) (by have := hs.pos; omega)
    have p2 : 0 < (topN s : Int) * (denQ r : Int) := Int.mul_pos (by omega) (by have := hr.pos; omega)
    have e1 : decide (numQ r * denQ s < 0) = r.1.1 := by rw [hr.top]; cases r.1.1 <;> simp [Int.neg_mul] <;> omega
    have e2 : decide (numQ s * denQ r < 0) = s.1.1 := by rw [hs.top]; cases s.1.1 <;> simp [Int.neg_mul] <;> omega
    rw [e1, e2]
theorem cmpQ_make {r s : QI} (hr : Parts r) (hs : Parts s) (okr : okQ r = true) (oks : okQ s = true) : cmpS (leftS r s) (leftS s r) = cmpQ r s := by
  have l := leftS_eq hr hs
  have m := leftS_eq hs hr
  unfold cmpS cmpQ
  rw [if_pos ⟨l.2.1, m.2.1⟩, if_pos ⟨okr, oks⟩, l.2.2, m.2.2]
end Go.Proofs.YtcenmdiblbooeaaDoor

namespace Go.Proofs.YtcenmdiblbooeaaDoor
open Go.RowKit

/-! ### how many bits -/
theorem lenAux_lt : ∀ (f x : Nat), x < 2 ^ f → x < 2 ^ Lib.bitLenAux f x
  | 0, x, h => h
  | f + 1, x, h => by
    unfold Lib.bitLenAux
    by_cases h0 : x = 0
    · rw [if_pos h0, h0]; decide
    · rw [if_neg h0, Nat.add_comm, Nat.pow_succ]
      have := lenAux_lt f (x / 2) (by rw [Nat.pow_succ] at h; omega)
      omega
theorem lenAux_ge : ∀ (f x : Nat), 0 < x → 2 ^ Lib.bitLenAux f x ≤ 2 * x
  | 0, x, h => by show 1 ≤ _; omega
  | f + 1, x, h => by
    unfold Lib.bitLenAux
    rw [if_neg (by omega), Nat.add_comm, Nat.pow_succ]
    by_cases h1 : x / 2 = 0
    · have e : Lib.bitLenAux f (x / 2) = 0 := by
        cases f with
        | zero => rfl
        | succ f => unfold Lib.bitLenAux; rw [if_pos h1]
      rw [e]
      omega
    · have := lenAux_ge f (x / 2) (by omega)
      omega
theorem lenAux_le : ∀ (f x : Nat), Lib.bitLenAux f x ≤ f
  | 0, _ => Nat.le_refl _
  | f + 1, x => by
    unfold Lib.bitLenAux
    split
    · omega
    · have := lenAux_le f (x / 2)
      omega
/-- shifted so far that the highest bit is set -/
theorem shifted {y : Nat} (h0 : 0 < y) (h : y < 18446744073709551616) : Lib.bitLen y ≤ 64 ∧ 64 - Lib.bitLen y < 64 ∧ 9223372036854775808 ≤ y * 2 ^ (64 - Lib.bitLen y) ∧ y * 2 ^ (64 - Lib.bitLen y) < 18446744073709551616 := by
  have h1 := lenAux_lt 64 y h
  have h2 := lenAux_ge 64 y h0
  have h3 := lenAux_le 64 y
  change y < 2 ^ Lib.bitLen y at h1
  change 2 ^ Lib.bitLen y ≤ 2 * y at h2
  change Lib.bitLen y ≤ 64 at h3
  have h4 : Lib.bitLen y ≠ 0 := by
    intro e
    rw [e] at h1
    omega
  have e : 2 ^ Lib.bitLen y * 2 ^ (64 - Lib.bitLen y) = 18446744073709551616 := by
    rw [← Nat.pow_add, show Lib.bitLen y + (64 - Lib.bitLen y) = 64 by omega]
  have hp : 0 < 2 ^ (64 - Lib.bitLen y) := Nat.pow_pos (by omega)
  refine ⟨h3, by omega, ?_, ?_⟩
  · have := Nat.mul_le_mul_right (2 ^ (64 - Lib.bitLen y)) h2
    rw [e, Nat.mul_assoc] at this
    omega
  · have := (Nat.mul_lt_mul_right hp).2 h1
    rw [e] at this
    exact this

/-! ### one digit -/
/-- the guess q with its rest r, for the digit of (u, n) over (A, B) -/
def DigQ (A B u n q r : Nat) : Prop := q * A + r = u ∧ (u * 4294967296 + n) / (A * 4294967296 + B) ≤ q ∧ q ≤ 4294967297
theorem digQ_mul (A B u q r : Nat) (h : q * A + r = u) : q * (A * 4294967296 + B) + r * 4294967296 = u * 4294967296 + q * B := by
  rw [← h, Nat.mul_add, Nat.add_mul, ← Nat.mul_assoc]
  omega
theorem DigQ.start {A B u n : Nat} (hA : 2147483648 ≤ A) (hB : B < 4294967296) (hn : n < 4294967296) (hu : u < A * 4294967296 + B) : DigQ A B u n (u / A) (u % A) := by
  refine ⟨by rw [Nat.mul_comm]; exact Nat.div_add_mod u A, ?_, ?_⟩
  · apply Nat.le_of_lt_succ
    rw [Nat.div_lt_iff_lt_mul (by omega)]
    have h1 := Nat.div_add_mod u A
    have h2 := Nat.mod_lt u (show 0 < A by omega)
    have h3 : (u / A).succ * (A * 4294967296 + B) = A * (u / A) * 4294967296 + A * 4294967296 + (u / A).succ * B := by
      rw [Nat.mul_add, Nat.succ_mul, ← Nat.mul_assoc, Nat.mul_comm (u / A) A]
    rw [h3]
    omega
  · apply Nat.le_of_lt_succ
    rw [Nat.div_lt_iff_lt_mul (by omega)]
    omega
theorem lt_shift {z r u x n : Nat} (e : z + r = u + x) (h : r + n < x) : u + n < z := by omega
/-- too great a guess -/
theorem DigQ.down {A B u n q r : Nat} (h : DigQ A B u n q r) (hu : u < A * 4294967296 + B) (hn : n < 4294967296) (ht : 4294967296 ≤ q ∨ r * 4294967296 + n < q * B) : 0 < q ∧ DigQ A B u n (q - 1) (r + A) := by
  obtain ⟨h1, h2, h3⟩ := h
  have hq : 0 < q := by
    rcases Nat.eq_zero_or_pos q with h0 | h0
    · subst h0
      rcases ht with ht | ht
      · omega
      · rw [Nat.zero_mul] at ht; omega
    · exact h0
  have e := digQ_mul A B u q r h1
  have hlt : (u * 4294967296 + n) / (A * 4294967296 + B) < q := by
    rw [Nat.div_lt_iff_lt_mul (by omega)]
    rcases ht with ht | ht
    · have h5 := Nat.mul_le_mul_right (A * 4294967296 + B) ht
      generalize q * (A * 4294967296 + B) = z at *
      omega
    · exact lt_shift e ht
  refine ⟨hq, ?_, by omega, by omega⟩
  obtain ⟨p, rfl⟩ : ∃ p, q = p + 1 := ⟨q - 1, by omega⟩
  rw [Nat.add_sub_cancel]
  rw [Nat.succ_mul] at h1
  omega
/-- no longer too great -/
theorem DigQ.done {A B u n q r : Nat} (h : DigQ A B u n q r) (hA : 2147483648 ≤ A) (ht : q * B ≤ r * 4294967296 + n) : q = (u * 4294967296 + n) / (A * 4294967296 + B) := by
  obtain ⟨h1, h2, _⟩ := h
  apply Nat.le_antisymm _ h2
  rw [Nat.le_div_iff_mul_le (by omega)]
  have e := digQ_mul A B u q r h1
  omega
theorem DigQ.past {B n q r : Nat} (hB : B < 4294967296) (hq : q ≤ 4294967296) (hr : 4294967296 ≤ r) : q * B ≤ r * 4294967296 + n := by
  have h1 : q * B ≤ 4294967296 * 4294967295 := Nat.mul_le_mul hq (by omega)
  omega
theorem DigQ.rest {A B u n q r : Nat} (h : DigQ A B u n q r) : r = u - q * A := by have := h.1; omega

/-- two digits, one behind the other -/
theorem two_digits (U m1 m0 Y : Nat) (hY : 0 < Y) :
    ((U * 4294967296 + m1) * 4294967296 + m0) / Y = (U * 4294967296 + m1) / Y * 4294967296 + ((U * 4294967296 + m1) % Y * 4294967296 + m0) / Y := by
  have e := Nat.div_add_mod (U * 4294967296 + m1) Y
  have e2 : (U * 4294967296 + m1) * 4294967296 + m0 = (U * 4294967296 + m1) % Y * 4294967296 + m0 + Y * ((U * 4294967296 + m1) / Y * 4294967296) := by
    have : Y * ((U * 4294967296 + m1) / Y * 4294967296) = Y * ((U * 4294967296 + m1) / Y) * 4294967296 := (Nat.mul_assoc _ _ _).symm
    rw [this]
    generalize Y * ((U * 4294967296 + m1) / Y) = z at *
    omega
  rw [e2, Nat.add_mul_div_left _ _ hY, Nat.add_comm]
theorem digit_lt {U n Y : Nat} (hU : U < Y) (hn : n < 4294967296) : (U * 4294967296 + n) / Y < 4294967296 := by
  rw [Nat.div_lt_iff_lt_mul (by omega)]
  have : 4294967296 * (U + 1) ≤ 4294967296 * Y := Nat.mul_le_mul_left _ hU
  omega
/-- the shifted dividend, in three parts -/
theorem shift_parts {hi lo s Y : Nat} (hs : s < 64) (hl : lo < 18446744073709551616) (y : Nat) (hY : Y = y * 2 ^ s) (hh : hi < y) :
    (hi * 18446744073709551616 + lo) / y = ((hi * 2 ^ s + lo / 2 ^ (64 - s)) * 18446744073709551616 + lo * 2 ^ s % 18446744073709551616) / Y ∧ lo / 2 ^ (64 - s) < 2 ^ s ∧ hi * 2 ^ s + lo / 2 ^ (64 - s) < Y := by
  have hp : 0 < 2 ^ s := Nat.pow_pos (by omega)
  have hp2 : 0 < 2 ^ (64 - s) := Nat.pow_pos (by omega)
  have e64 : 2 ^ s * 2 ^ (64 - s) = 18446744073709551616 := by rw [← Nat.pow_add, show s + (64 - s) = 64 by omega]
  have hlt : lo / 2 ^ (64 - s) < 2 ^ s := by rw [Nat.div_lt_iff_lt_mul hp2, e64]; exact hl
  refine ⟨?_, hlt, ?_⟩
  · have e : (hi * 2 ^ s + lo / 2 ^ (64 - s)) * 18446744073709551616 + lo * 2 ^ s % 18446744073709551616 = (hi * 18446744073709551616 + lo) * 2 ^ s := by
      have e1 : lo * 2 ^ s / 18446744073709551616 = lo / 2 ^ (64 - s) := by
        rw [← e64, Nat.mul_comm (2 ^ s) (2 ^ (64 - s)), Nat.mul_div_mul_right _ _ hp]
      have e2 := Nat.div_add_mod (lo * 2 ^ s) 18446744073709551616
      rw [e1] at e2
      have e3 : (hi * 18446744073709551616 + lo) * 2 ^ s = hi * 2 ^ s * 18446744073709551616 + lo * 2 ^ s := by rw [Nat.add_mul, Nat.mul_right_comm]
      rw [e3]
      omega
    rw [e, hY, Nat.mul_div_mul_right _ _ hp]
  · rw [hY]
    have : (hi + 1) * 2 ^ s ≤ y * 2 ^ s := Nat.mul_le_mul_right _ hh
    rw [Nat.add_mul] at this
    omega
theorem or_add {a b s : Nat} (h : b < 2 ^ s) (ha : a * 2 ^ s < 18446744073709551616) (hb : b < 18446744073709551616) : bits .or .u64 ((a * 2 ^ s : Nat) : Int) (b : Int) = ((a * 2 ^ s + b : Nat) : Int) := by
  rw [bits_or_u64_nat _ _ ha hb]
  congr 1
  rw [Nat.mul_comm, ← Nat.two_pow_add_eq_or_of_lt h]
theorem and_low {a : Nat} (h : a < 18446744073709551616) : bits .and .u64 (a : Int) 4294967295 = ((a % 4294967296 : Nat) : Int) := by
  have h1 := bits_and_u64_nat a 4294967295 h (by omega)
  rw [show a &&& 4294967295 = a % 4294967296 from Nat.and_two_pow_sub_one_eq_mod a 32] at h1
  exact h1
theorem wrapU (a : Nat) : IntKind.u64.wrap (a : Int) = ((a % 18446744073709551616 : Nat) : Int) := by rw [IntKind.wrap_u64]; omega
theorem wrapL (a : Nat) (h : a < 18446744073709551616) : IntKind.u64.wrap (a : Int) = (a : Int) := by rw [IntKind.wrap_u64]; omega
theorem wrapD {a b c : Nat} (hc : c ≤ a) (h : a - c < 18446744073709551616) (hb : b = a - c) : IntKind.u64.wrap (IntKind.u64.wrap (a : Int) - IntKind.u64.wrap (c : Int)) = (b : Int) := by
  rw [IntKind.wrap_u64, IntKind.wrap_u64, IntKind.wrap_u64]
  omega
theorem wrapT {U m z v : Nat} (h : z + v = U * 4294967296 + m) (hv : v < 18446744073709551616) :
    IntKind.u64.wrap (IntKind.u64.wrap (IntKind.u64.wrap ((U : Int) * 4294967296) + (m : Int)) - IntKind.u64.wrap (z : Int)) = (v : Int) := by
  rw [IntKind.wrap_u64, IntKind.wrap_u64, IntKind.wrap_u64, IntKind.wrap_u64]
  omega

/-- the quotient, and whatever rest -/
def QuoPost (q : Nat) (w : World) (e : Ending) (w' : World) : Prop := (∃ r, e = .returned (.tuple #[.int .u64 q, .int .u64 r])) ∧ ∃ n, w.drewN n = w'
set_option maxHeartbeats 400000 in
set_option maxRecDepth 100000 in
theorem div64_small (lo y : Nat) (h0 : 0 < y) (hl : lo < 18446744073709551616) (hy : y < 18446744073709551616) (w : World) :
    Calls Tryd.prog 164 #[.int .u64 0, .int .u64 lo, .int .u64 y] w (QuoPost (lo / y) w) := by
  have hq := Nat.div_le_self lo y
  have e1 : IntKind.u64.wrap ((lo : Int) / (y : Int)) = ((lo / y : Nat) : Int) := by
    rw [← Int.natCast_ediv, wrapL _ (by omega)]
  have hy0 : ¬ ((y : Int) = 0) := by omega
  have hy1 : ¬ (y = 0) := by omega
  go_enter Tryd.func164, Tryd.ntmps164
  go_wp2
  go_quiet (fail)
  go_wp2
  go_ret2
  exact ⟨⟨_, rfl⟩, _, rfl⟩

/-- what stands in the guess's two slots -/
def DigS (A B u n : Nat) (q r : Value) : Prop := ∃ qn rn : Nat, q = .int .u64 qn ∧ r = .int .u64 rn ∧ rn < 4294967296 ∧ Hid (DigQ A B u n qn rn)
set_option maxHeartbeats 2000000 in
set_option maxRecDepth 100000 in
theorem div64_big (hi lo y : Nat) (hh : hi < y) (h0 : 0 < hi) (hl : lo < 18446744073709551616) (hy : y < 18446744073709551616) (w : World) :
    Calls Tryd.prog 164 #[.int .u64 hi, .int .u64 lo, .int .u64 y] w (QuoPost ((hi * 18446744073709551616 + lo) / y) w) := by
  obtain ⟨hb1, hs, hY0, hY1⟩ := shifted (y := y) (by omega) hy
  have hsn : (64 : Int) - (Lib.bitLen y : Int) = ((64 - Lib.bitLen y : Nat) : Int) := by omega
  have HSN := Lib.hid hsn
  clear hsn
  generalize 64 - Lib.bitLen y = s at *
  obtain ⟨hp1, hp2, hp3⟩ := shift_parts hs hl y rfl hh
  have hor : bits .or .u64 ((hi * 2 ^ s : Nat) : Int) ((lo / 2 ^ (64 - s) : Nat) : Int) = ((hi * 2 ^ s + lo / 2 ^ (64 - s) : Nat) : Int) := or_add hp2 (by have := Nat.zero_le (lo / 2 ^ (64 - s)); have := Nat.le_add_right (hi * 2 ^ s) (lo / 2 ^ (64 - s)); exact Nat.lt_of_le_of_lt this (Nat.lt_trans hp3 hY1)) (by have := Nat.div_le_self lo (2 ^ (64 - s)); omega)
  have e1 : IntKind.u64.wrap ((y : Int) * 2 ^ s) = ((y * 2 ^ s : Nat) : Int) := by
    rw [show (y : Int) * 2 ^ s = ((y * 2 ^ s : Nat) : Int) by push_cast; rfl, wrapL _ hY1]
  have e3 : IntKind.u64.wrap ((hi : Int) * 2 ^ s) = ((hi * 2 ^ s : Nat) : Int) := by
    rw [show (hi : Int) * 2 ^ s = ((hi * 2 ^ s : Nat) : Int) by push_cast; rfl, wrapL _ (Nat.lt_of_le_of_lt (Nat.le_add_right (hi * 2 ^ s) (lo / 2 ^ (64 - s))) (Nat.lt_trans hp3 hY1))]
  have e4 : (lo : Int) / 2 ^ (64 - s) = ((lo / 2 ^ (64 - s) : Nat) : Int) := by push_cast; rfl
  have e5 : IntKind.u64.wrap ((lo : Int) * 2 ^ s) = ((lo * 2 ^ s % 18446744073709551616 : Nat) : Int) := by
    rw [show (lo : Int) * 2 ^ s = ((lo * 2 ^ s : Nat) : Int) by push_cast; rfl, wrapU]
  have hm : lo * 2 ^ s % 18446744073709551616 < 18446744073709551616 := Nat.mod_lt _ (by omega)
  rw [← e4] at hor
  have HP := Lib.hid hp1
  clear hp1 hp2 e4
  generalize hi * 2 ^ s + lo / 2 ^ (64 - s) = U at *
  generalize lo * 2 ^ s % 18446744073709551616 = M at *
  generalize y * 2 ^ s = Y at *
  generalize hi * 2 ^ s = H at *
  -- the halves
  have a1 := and_low hY1
  have a2 := and_low hm
  obtain ⟨A, hA⟩ : ∃ A, A = Y / 4294967296 := ⟨_, rfl⟩
  obtain ⟨B, hB⟩ : ∃ B, B = Y % 4294967296 := ⟨_, rfl⟩
  obtain ⟨m1, hm1⟩ : ∃ A, A = M / 4294967296 := ⟨_, rfl⟩
  obtain ⟨m0, hm0⟩ : ∃ A, A = M % 4294967296 := ⟨_, rfl⟩
  have hAB : Y = A * 4294967296 + B := by omega
  have hMM : M = m1 * 4294967296 + m0 := by omega
  have hA0 : 2147483648 ≤ A := by omega
  have hA1 : A < 4294967296 := by omega
  have hB1 : B < 4294967296 := by omega
  have hm11 : m1 < 4294967296 := by omega
  have hm01 : m0 < 4294967296 := by omega
  have a3 : (Y : Int) / 4294967296 = (A : Int) := by omega
  have a4 : (M : Int) / 4294967296 = (m1 : Int) := by omega
  rw [← hB] at a1
  rw [← hm0] at a2
  have HY := Lib.hid hAB
  have HM := Lib.hid hMM
  clear hA hB hm1 hm0 hAB hMM hY0
  have hU64 : U < 18446744073709551616 := by omega
  have hq1 : U / A < 18446744073709551616 := Nat.lt_of_le_of_lt (Nat.div_le_self _ _) hU64
  have hq2 : U % A < 4294967296 := by have := Nat.mod_lt U (show 0 < A by omega); omega
  have e6 : IntKind.u64.wrap ((U : Int) / (A : Int)) = ((U / A : Nat) : Int) := by
    rw [← Int.natCast_ediv, wrapL _ hq1]
  have e7 : IntKind.u64.wrap ((U : Int) - IntKind.u64.wrap (((U / A : Nat) : Int) * (A : Int))) = ((U % A : Nat) : Int) := by
    have h1 := Nat.div_add_mod U A
    rw [show ((U / A : Nat) : Int) * (A : Int) = ((A * (U / A) : Nat) : Int) by push_cast; rw [Int.mul_comm], ← wrapL U hU64]
    exact wrapD (by omega) (by omega) (by omega)
  have HD1 : Hid (DigQ A B U m1 (U / A) (U % A)) := Lib.hid (DigQ.start hA0 hB1 hm11 (by rw [← HY.out]; exact hp3))
  have HUY := Lib.hid hp3
  clear hp3 hq1
  generalize U / A = q1 at *
  generalize U % A = r1 at *
  have hd1 := digit_lt HUY.out hm11
  have HT := Lib.hid (show (hi * 18446744073709551616 + lo) / y = (U * 4294967296 + m1) / Y * 4294967296 + ((U * 4294967296 + m1) % Y * 4294967296 + m0) / Y by
    rw [HP.out, HM.out, show U * 18446744073709551616 + (m1 * 4294967296 + m0) = (U * 4294967296 + m1) * 4294967296 + m0 by omega]
    exact two_digits U m1 m0 Y (by omega))
  have hvY := Nat.mod_lt (U * 4294967296 + m1) (show 0 < Y by omega)
  have f1 : IntKind.u64.wrap (IntKind.u64.wrap (IntKind.u64.wrap ((U : Int) * 4294967296) + (m1 : Int)) - IntKind.u64.wrap ((((U * 4294967296 + m1) / Y : Nat) : Int) * (Y : Int))) = (((U * 4294967296 + m1) % Y : Nat) : Int) := by
    have h1 := Nat.div_add_mod (U * 4294967296 + m1) Y
    rw [show (((U * 4294967296 + m1) / Y : Nat) : Int) * (Y : Int) = ((Y * ((U * 4294967296 + m1) / Y) : Nat) : Int) by rw [Int.mul_comm, ← Int.natCast_mul]]
    exact wrapT h1 (by omega)
  have hvD : (U * 4294967296 + m1) / Y = (U * 4294967296 + m1) / (A * 4294967296 + B) := by rw [← HY.out]
  obtain ⟨D1, hD1⟩ : ∃ D1, D1 = (U * 4294967296 + m1) / Y := ⟨_, rfl⟩
  obtain ⟨V, hV⟩ : ∃ V, V = (U * 4294967296 + m1) % Y := ⟨_, rfl⟩
  rw [← hD1] at hd1 HT f1 hvD
  rw [← hV] at HT hvY f1
  have HV1 := Lib.hid hvD
  clear hvD hD1 hV
  have hA2 : ¬ ((A : Int) = 0) := by omega
  go_enter Tryd.func164, Tryd.ntmps164
  go_wp2_with fail
  refine (Tryd.bits_LeadingZeros64 (y : Int) _ (by omega) (by omega)).mono ?_
  rintro e w1 ⟨rfl, rfl⟩
  rw [Int.toNat_natCast, HSN.out]
  go_upto_block 0 with fail
  go_cut [15] from 67 to 85 (fun q wx => q = .int .u64 (D1 : Int) ∧ wx = w1)
  case first =>
    go_wp2_with fail
    go_loop [15, 16] (DigS A B U m1) (fun q _ => (intOf q).toNat)
    case atStart => exact ⟨q1, r1, rfl, rfl, hq2, HD1⟩
    case round =>
      clear e1 e3 hor a1 a2 a3 a4 e5 e6 e7 hY1 hh h0 hl hs hb1 hm hU64 hq2 f1 hvY hd1
      obtain ⟨q, r, rfl, rfl, hr, HD⟩ := hrel
      have hqm : (q : Int) ≤ 4294967297 := by have := HD.out.2.2; omega
      have hr' : (r : Int) < 4294967296 := by omega
      clear hr
      by_cases hbig : 4294967296 ≤ q
      · have HN := Lib.hid (HD.out.down (by rw [← HY.out]; exact HUY.out) hm11 (.inl hbig))
        have hbig' : (4294967296 : Int) ≤ (q : Int) := by omega
        clear hbig
        have hq0 : (1 : Int) ≤ (q : Int) := by have := HN.out.1; omega
        by_cases hr2 : 4294967296 ≤ r + A
        · have HF : Hid (Value.int IntKind.u64 ((q : Int) - 1) = Value.int IntKind.u64 (D1 : Int)) := Lib.hid (by
            have h1 := HN.out.2.done hA0 (DigQ.past hB1 (by omega) hr2)
            rw [← HV1.out] at h1
            rw [← h1]
            congr 1
            omega)
          obtain ⟨R2, hR2⟩ : ∃ R2 : Nat, (r : Int) + (A : Int) = (R2 : Int) := ⟨r + A, by omega⟩
          have hr3 : (4294967296 : Int) ≤ (R2 : Int) := by omega
          clear hr2
          go_wp2_with fail
          go_meet
          exact ⟨HF.out, rfl⟩
        · have HM2 : Hid (DigS A B U m1 (.int .u64 ((q : Int) - 1)) (.int .u64 ((r + A : Nat) : Int))) := Lib.hid ⟨q - 1, r + A, by congr 1; omega, rfl, by omega, Lib.hid HN.out.2⟩
          obtain ⟨R2, hR2⟩ : ∃ R2 : Nat, (r : Int) + (A : Int) = (R2 : Int) := ⟨r + A, by omega⟩
          have hr3 : decide ((4294967296 : Int) ≤ (R2 : Int)) = false := decide_eq_false (by omega)
          clear hr2
          go_wp2_with fail
          go_round
          case rel => rw [show (r + A : Nat) = R2 by omega] at HM2; exact HM2.out
          case measure => simp [intOf]; omega
      · have hP : q * B ≤ 4294967295 * 4294967295 := Nat.mul_le_mul (by omega) (by omega)
        have e8 : IntKind.u64.wrap ((q : Int) * (B : Int)) = ((q * B : Nat) : Int) := by rw [← Int.natCast_mul, wrapL _ (by omega)]
        have hbig' : (q : Int) < 4294967296 := by omega
        by_cases hgt : r * 4294967296 + m1 < q * B
        · have HN := Lib.hid (HD.out.down (by rw [← HY.out]; exact HUY.out) hm11 (.inr hgt))
          have hgt' : 4294967296 * (r : Int) + (m1 : Int) < ((q * B : Nat) : Int) := by omega
          clear hgt hbig hP
          generalize q * B = P at *
          have hq0 : (1 : Int) ≤ (q : Int) := by have := HN.out.1; omega
          by_cases hr2 : 4294967296 ≤ r + A
          · have HF : Hid (Value.int IntKind.u64 ((q : Int) - 1) = Value.int IntKind.u64 (D1 : Int)) := Lib.hid (by
              have h1 := HN.out.2.done hA0 (DigQ.past hB1 (by omega) hr2)
              rw [← HV1.out] at h1
              rw [← h1]
              congr 1
              omega)
            obtain ⟨R2, hR2⟩ : ∃ R2 : Nat, (r : Int) + (A : Int) = (R2 : Int) := ⟨r + A, by omega⟩
            have hr3 : (4294967296 : Int) ≤ (R2 : Int) := by omega
            clear hr2
            go_wp2_with fail
            go_meet
            exact ⟨HF.out, rfl⟩
          · have HM2 : Hid (DigS A B U m1 (.int .u64 ((q : Int) - 1)) (.int .u64 ((r + A : Nat) : Int))) := Lib.hid ⟨q - 1, r + A, by congr 1; omega, rfl, by omega, Lib.hid HN.out.2⟩
            obtain ⟨R2, hR2⟩ : ∃ R2 : Nat, (r : Int) + (A : Int) = (R2 : Int) := ⟨r + A, by omega⟩
            have hr3 : decide ((4294967296 : Int) ≤ (R2 : Int)) = false := decide_eq_false (by omega)
            clear hr2
            go_wp2_with fail
            go_round
            case rel => rw [show (r + A : Nat) = R2 by omega] at HM2; exact HM2.out
            case measure => simp [intOf]; omega
        · have HF : Hid (q = D1) := Lib.hid (by rw [HV1.out]; exact HD.out.done hA0 (by omega))
          obtain ⟨T, hT⟩ : ∃ T : Nat, 4294967296 * (r : Int) + (m1 : Int) = (T : Int) := ⟨r * 4294967296 + m1, by omega⟩
          have hgt' : decide (T < q * B) = false := decide_eq_false (by omega)
          have hbig2 : decide ((4294967296 : Int) ≤ (q : Int)) = false := decide_eq_false (by omega)
          clear hgt hbig hP hbig'
          generalize q * B = P at *
          go_wp2_with fail
          go_meet
          exact ⟨by rw [← HF.out], rfl⟩
  case rest =>
    obtain ⟨hq, hw⟩ := hcut
    subst hq
    subst hw
    have HVY := Lib.hid hvY
    obtain ⟨D0, hD0⟩ : ∃ D0, D0 = (V * 4294967296 + m0) / Y := ⟨_, rfl⟩
    have hd0 := digit_lt HVY.out hm01
    have hvE : (V * 4294967296 + m0) / Y = (V * 4294967296 + m0) / (A * 4294967296 + B) := by rw [← HY.out]
    rw [← hD0] at hd0 HT hvE
    have HV0 := Lib.hid hvE
    clear hvE hD0
    have hV64 : V < 18446744073709551616 := by omega
    clear e6 e7 hq2 hU64
    have hq1 : V / A < 18446744073709551616 := Nat.lt_of_le_of_lt (Nat.div_le_self _ _) hV64
    have hq3 : V % A < 4294967296 := by have := Nat.mod_lt V (show 0 < A by omega); omega
    have e6 : IntKind.u64.wrap ((V : Int) / (A : Int)) = ((V / A : Nat) : Int) := by
      rw [← Int.natCast_ediv, wrapL _ hq1]
    have e7 : IntKind.u64.wrap ((V : Int) - IntKind.u64.wrap (((V / A : Nat) : Int) * (A : Int))) = ((V % A : Nat) : Int) := by
      have h1 := Nat.div_add_mod V A
      rw [show ((V / A : Nat) : Int) * (A : Int) = ((A * (V / A) : Nat) : Int) by push_cast; rw [Int.mul_comm], ← wrapL V hV64]
      exact wrapD (by omega) (by omega) (by omega)
    have HD2 : Hid (DigQ A B V m0 (V / A) (V % A)) := Lib.hid (DigQ.start hA0 hB1 hm01 (by rw [← HY.out]; exact hvY))
    clear hvY hq1
    generalize V / A = q2 at *
    generalize V % A = r2 at *
    have HTI := Lib.hid (show (((hi * 18446744073709551616 + lo) / y : Nat) : Int) = (D1 : Int) * 4294967296 + (D0 : Int) by rw [HT.out, Int.natCast_add, Int.natCast_mul]; rfl)
    go_upto_block 2 with fail
    go_cut [18] from 102 to 120 (fun q wx => q = .int .u64 (D0 : Int) ∧ wx = wc)
    case first =>
      go_wp2_with fail
      go_loop [18, 16] (DigS A B V m0) (fun q _ => (intOf q).toNat)
      case atStart => exact ⟨q2, r2, rfl, rfl, hq3, HD2⟩
      case round =>
        clear e6 e7 hY1 hh h0 hl hm hq3 hd1 hd0
        obtain ⟨q, r, rfl, rfl, hr, HD⟩ := hrel
        have hqm : (q : Int) ≤ 4294967297 := by have := HD.out.2.2; omega
        have hr' : (r : Int) < 4294967296 := by omega
        clear hr
        by_cases hbig : 4294967296 ≤ q
        · have HN := Lib.hid (HD.out.down (by rw [← HY.out]; exact HVY.out) hm01 (.inl hbig))
          have hbig' : (4294967296 : Int) ≤ (q : Int) := by omega
          clear hbig
          have hq0 : (1 : Int) ≤ (q : Int) := by have := HN.out.1; omega
          by_cases hr2 : 4294967296 ≤ r + A
          · have HF : Hid (Value.int IntKind.u64 ((q : Int) - 1) = Value.int IntKind.u64 (D0 : Int)) := Lib.hid (by
              have h1 := HN.out.2.done hA0 (DigQ.past hB1 (by omega) hr2)
              rw [← HV0.out] at h1
              rw [← h1]
              congr 1
              omega)
            obtain ⟨R2, hR2⟩ : ∃ R2 : Nat, (r : Int) + (A : Int) = (R2 : Int) := ⟨r + A, by omega⟩
            have hr3 : (4294967296 : Int) ≤ (R2 : Int) := by omega
            clear hr2
            go_wp2_with fail
            go_meet
            exact ⟨HF.out, rfl⟩
          · have HM2 : Hid (DigS A B V m0 (.int .u64 ((q : Int) - 1)) (.int .u64 ((r + A : Nat) : Int))) := Lib.hid ⟨q - 1, r + A, by congr 1; omega, rfl, by omega, Lib.hid HN.out.2⟩
            obtain ⟨R2, hR2⟩ : ∃ R2 : Nat, (r : Int) + (A : Int) = (R2 : Int) := ⟨r + A, by omega⟩
            have hr3 : decide ((4294967296 : Int) ≤ (R2 : Int)) = false := decide_eq_false (by omega)
            clear hr2
            go_wp2_with fail
            go_round
            case rel => rw [show (r + A : Nat) = R2 by omega] at HM2; exact HM2.out
            case measure => simp [intOf]; omega
        · have hP : q * B ≤ 4294967295 * 4294967295 := Nat.mul_le_mul (by omega) (by omega)
          have e8 : IntKind.u64.wrap ((q : Int) * (B : Int)) = ((q * B : Nat) : Int) := by rw [← Int.natCast_mul, wrapL _ (by omega)]
          have hbig' : (q : Int) < 4294967296 := by omega
          by_cases hgt : r * 4294967296 + m0 < q * B
          · have HN := Lib.hid (HD.out.down (by rw [← HY.out]; exact HVY.out) hm01 (.inr hgt))
            have hgt' : 4294967296 * (r : Int) + (m0 : Int) < ((q * B : Nat) : Int) := by omega
            clear hgt hbig hP
            generalize q * B = P at *
            have hq0 : (1 : Int) ≤ (q : Int) := by have := HN.out.1; omega
            by_cases hr2 : 4294967296 ≤ r + A
            · have HF : Hid (Value.int IntKind.u64 ((q : Int) - 1) = Value.int IntKind.u64 (D0 : Int)) := Lib.hid (by
                have h1 := HN.out.2.done hA0 (DigQ.past hB1 (by omega) hr2)
                rw [← HV0.out] at h1
                rw [← h1]
                congr 1
                omega)
              obtain ⟨R2, hR2⟩ : ∃ R2 : Nat, (r : Int) + (A : Int) = (R2 : Int) := ⟨r + A, by omega⟩
              have hr3 : (4294967296 : Int) ≤ (R2 : Int) := by omega
              clear hr2
              go_wp2_with fail
              go_meet
              exact ⟨HF.out, rfl⟩
            · have HM2 : Hid (DigS A B V m0 (.int .u64 ((q : Int) - 1)) (.int .u64 ((r + A : Nat) : Int))) := Lib.hid ⟨q - 1, r + A, by congr 1; omega, rfl, by omega, Lib.hid HN.out.2⟩
              obtain ⟨R2, hR2⟩ : ∃ R2 : Nat, (r : Int) + (A : Int) = (R2 : Int) := ⟨r + A, by omega⟩
              have hr3 : decide ((4294967296 : Int) ≤ (R2 : Int)) = false := decide_eq_false (by omega)
              clear hr2
              go_wp2_with fail
              go_round
              case rel => rw [show (r + A : Nat) = R2 by omega] at HM2; exact HM2.out
              case measure => simp [intOf]; omega
          · have HF : Hid (q = D0) := Lib.hid (by rw [HV0.out]; exact HD.out.done hA0 (by omega))
            obtain ⟨T, hT⟩ : ∃ T : Nat, 4294967296 * (r : Int) + (m0 : Int) = (T : Int) := ⟨r * 4294967296 + m0, by omega⟩
            have hgt' : decide (T < q * B) = false := decide_eq_false (by omega)
            have hbig2 : decide ((4294967296 : Int) ≤ (q : Int)) = false := decide_eq_false (by omega)
            clear hgt hbig hP hbig'
            generalize q * B = P at *
            go_wp2_with fail
            go_meet
            exact ⟨by rw [← HF.out], rfl⟩
    case rest =>
      obtain ⟨hq, hw⟩ := hcut
      subst hq
      subst hw
      go_wp2_with fail
      go_ret2
      unfold QuoPost
      rw [HTI.out]
      exact ⟨⟨_, rfl⟩, 0, rfl⟩
theorem div64_any (hi lo y : Nat) (hh : hi < y) (hl : lo < 18446744073709551616) (hy : y < 18446744073709551616) (w : World) :
    Calls Tryd.prog 164 #[.int .u64 hi, .int .u64 lo, .int .u64 y] w (QuoPost ((hi * 18446744073709551616 + lo) / y) w) := by
  rcases Nat.eq_zero_or_pos hi with h0 | h0
  · subst h0
    rw [Nat.zero_mul, Nat.zero_add]
    exact div64_small lo y hh hl hy w
  · exact div64_big hi lo y hh h0 hl hy w

end Go.Proofs.YtcenmdiblbooeaaDoor

namespace Go.Proofs.YtcenmdiblbooeaaDoor
open Go.RowKit

set_option maxHeartbeats 400000 in
set_option maxRecDepth 100000 in
theorem limbAt_any (v : Value) (xs : List Int) (p : Int) (lo hi : Nat) (w : World) (_hl : xs.length ≤ 1048576) (hr : Row w lo hi v (intsV xs)) :
    Calls Tryd.prog 162 #[v, .int .i64 p] w fun e w' => e = .returned (.int .i64 (if p < 0 then 0 else xs.getD p.toNat 0)) ∧ w = w' := by
  obtain ⟨A, c, rfl, hA⟩ := hr
  rw [intsV_length]
  by_cases h0 : p < 0
  · rw [if_pos h0]
    go_enter Tryd.func162, Tryd.ntmps162
    go_wp2
    go_ret
    exact ⟨rfl, rfl⟩
  · rw [if_neg h0]
    obtain ⟨n, rfl⟩ := Int.eq_ofNat_of_zero_le (show 0 ≤ p by omega)
    rw [Int.toNat_natCast]
    by_cases h1 : n < xs.length
    · obtain ⟨a, rfl, _, _, hca⟩ := hA n _ (intsV_at xs n h1)
      rw [List.getD_eq_getElem?_getD, List.getElem?_eq_getElem h1, Option.getD_some]
      clear h0
      generalize xs[n] = x at *
      go_enter Tryd.func162, Tryd.ntmps162
      go_wp2
      go_ret
      exact ⟨rfl, rfl⟩
    · rw [List.getD_eq_getElem?_getD, List.getElem?_eq_none (by omega)]
      clear h0
      go_enter Tryd.func162, Tryd.ntmps162
      go_wp2
      go_ret
      exact ⟨rfl, rfl⟩
theorem TwoRows.postII {xs ys : List Int} {w w' : World} {e : Ending} (h : TwoRows xs ys w e w') : PostII xs ys w e w' := by
  obtain ⟨v1, v2, rfl, o1, o2, ap, b⟩ := h
  exact ⟨v1, _, v2, _, rfl, own_at o1, own_at o2, own_within o1, own_within o2, fun g h1 h2 => ap g g (by simpa using h1) (by simpa using h2) rfl, b⟩
end Go.Proofs.YtcenmdiblbooeaaDoor

namespace Go.Proofs.YtcenmdiblbooeaaDoor
open Go.RowKit

/-- a limb, zeros above the last one and below the first one -/
def limbA (xs : List Int) (p : Int) : Int := if p < 0 then 0 else xs.getD p.toNat 0
theorem limbA_dig {xs : List Int} (h : DigN xs) (p : Int) : 0 ≤ limbA xs p ∧ limbA xs p ≤ 999999999 := by
  unfold limbA
  split
  · omega
  · exact getD_dig h _
theorem limbA_nat (xs : List Int) (p : Nat) : limbA xs p = xs.getD p 0 := by unfold limbA; rw [if_neg (by omega), Int.toNat_natCast]
theorem nval_down (xs : List Int) (k : Nat) : nval (xs.drop k) = xs.getD k 0 + 1000000000 * nval (xs.drop (k + 1)) := by
  rcases Nat.lt_or_ge k xs.length with h | h
  · rw [nval_drop xs k h, List.getD_eq_getElem?_getD, List.getElem?_eq_getElem h, Option.getD_some]
  · rw [List.drop_of_length_le h, List.drop_of_length_le (by omega), List.getD_eq_getElem?_getD, List.getElem?_eq_none h]
    rfl
theorem nval_split (xs : List Int) (k : Nat) : nval xs = nval (xs.take k) + bp k * nval (xs.drop k) := by
  rcases Nat.lt_or_ge k xs.length with h | h
  · conv => lhs; rw [← List.take_append_drop k xs]
    rw [nval_append, List.length_take, show min k xs.length = k by omega]
  · rw [List.drop_of_length_le h, List.take_of_length_le h]
    show _ = _ + bp k * 0
    rw [Int.mul_zero, Int.add_zero]
theorem nval_low {xs : List Int} (h : DigN xs) (k : Nat) : bp k * nval (xs.drop k) ≤ nval xs := by
  have h1 := nval_split xs k
  have h2 := nval_nonneg _ (h.take k)
  omega
theorem bp_succ (k : Nat) : bp (k + 1) = 1000000000 * bp k := rfl
/-- three limbs of a number, times the place of the middle one -/
theorem three_le {xs : List Int} (h : DigN xs) (p : Nat) : ((limbA xs (p + 1) * 1000000000 + limbA xs p) * 1000000000 + limbA xs ((p : Int) - 1)) * bp p ≤ nval xs * 1000000000 := by
  have e1 : limbA xs ((p : Int) + 1) = xs.getD (p + 1) 0 := limbA_nat xs (p + 1)
  rw [e1, limbA_nat]
  have n2 := nval_nonneg _ (h.drop (p + 1 + 1))
  have d0 := nval_down xs p
  have d1 := nval_down xs (p + 1)
  cases p with
  | zero =>
    have e2 : limbA xs ((0 : Nat) - 1 : Int) = 0 := by unfold limbA; rw [if_pos (by decide)]
    rw [e2]
    rw [List.drop_zero] at d0
    show _ * 1 ≤ _
    omega
  | succ p =>
    have e2 : limbA xs (((p + 1 : Nat) : Int) - 1) = xs.getD p 0 := by
      rw [show ((p + 1 : Nat) : Int) - 1 = (p : Int) by omega, limbA_nat]
    rw [e2]
    have dm := nval_down xs p
    have hlow := nval_low h p
    have hp := bp_pos p
    have hmul : bp p * ((xs.getD (p + 1 + 1) 0 * 1000000000 + xs.getD (p + 1) 0) * 1000000000 + xs.getD p 0) ≤ bp p * nval (xs.drop p) := Int.mul_le_mul_of_nonneg_left (by omega) (by omega)
    rw [bp_succ, Int.mul_comm _ (1000000000 * bp p), Int.mul_assoc]
    omega
/-- two limbs of a number and one more, times the place of the upper one -/
theorem two_ge {ys : List Int} (h : DigN ys) (h0 : 0 < ys.length) : nval ys * 1000000000 ≤ (limbA ys ((ys.length : Int) - 1) * 1000000000 + limbA ys ((ys.length : Int) - 1 - 1) + 1) * bp (ys.length - 1) := by
  obtain ⟨n, hn⟩ : ∃ n, ys.length = n + 1 := ⟨ys.length - 1, by omega⟩
  have e1 : limbA ys ((ys.length : Int) - 1) = ys.getD n 0 := by rw [hn, show ((n + 1 : Nat) : Int) - 1 = (n : Int) by omega, limbA_nat]
  have hz : nval (ys.drop (n + 1)) = 0 := by rw [List.drop_of_length_le (by omega)]; rfl
  have d0 := nval_down ys n
  rw [hz] at d0
  rw [e1, hn, Nat.add_sub_cancel, show ((n + 1 : Nat) : Int) - 1 - 1 = (n : Int) - 1 by omega]
  cases n with
  | zero =>
    have e2 : limbA ys ((0 : Nat) - 1 : Int) = 0 := by unfold limbA; rw [if_pos (by decide)]
    rw [e2]
    rw [List.drop_zero] at d0
    show _ ≤ _ * 1
    omega
  | succ n =>
    have e2 : limbA ys (((n + 1 : Nat) : Int) - 1) = ys.getD n 0 := by
      rw [show ((n + 1 : Nat) : Int) - 1 = (n : Int) by omega, limbA_nat]
    rw [e2]
    have dm := nval_down ys n
    have hs := nval_split ys n
    have ht := nval_lt _ (h.take n)
    have hp := bp_pos n
    rw [List.length_take, show min n ys.length = n by omega] at ht
    have hmul : bp n * nval (ys.drop n) = bp n * (ys.getD (n + 1) 0 * 1000000000 + ys.getD n 0) := by congr 1; omega
    rw [bp_succ, Int.mul_comm _ (1000000000 * bp n), Int.mul_assoc, Int.mul_add]
    omega
/-- the guess -/
def guessN (cur ys : List Int) (sh : Nat) : Int :=
  ((limbA cur ((sh : Int) + ((ys.length : Int) - 1) + 1) * 1000000000 + limbA cur ((sh : Int) + ((ys.length : Int) - 1))) * 1000000000 + limbA cur ((sh : Int) + ((ys.length : Int) - 1) - 1)) /
    (limbA ys ((ys.length : Int) - 1) * 1000000000 + limbA ys ((ys.length : Int) - 1 - 1) + 1)
theorem guess_nonneg {cur ys : List Int} (hc : DigN cur) (hy : DigN ys) (sh : Nat) : 0 ≤ guessN cur ys sh := by
  have a := limbA_dig hc ((sh : Int) + ((ys.length : Int) - 1) + 1)
  have b := limbA_dig hc ((sh : Int) + ((ys.length : Int) - 1))
  have c := limbA_dig hc ((sh : Int) + ((ys.length : Int) - 1) - 1)
  have d := limbA_dig hy ((ys.length : Int) - 1)
  have e := limbA_dig hy ((ys.length : Int) - 1 - 1)
  exact Int.ediv_nonneg (by omega) (by omega)
theorem guess_le {cur ys : List Int} (hc : DigN cur) (hy : DigN ys) (h0 : 0 < ys.length) (sh : Nat) : guessN cur ys sh * (nval ys * bp sh) ≤ nval cur := by
  obtain ⟨n, hn⟩ : ∃ n, ys.length = n + 1 := ⟨ys.length - 1, by omega⟩
  have hA := three_le hc (sh + n)
  have hB := two_ge hy h0
  have hg0 := guess_nonneg hc hy sh
  have d := limbA_dig hy ((ys.length : Int) - 1)
  have e := limbA_dig hy ((ys.length : Int) - 1 - 1)
  unfold guessN at hg0 ⊢
  rw [hn, Nat.add_sub_cancel] at hB
  rw [hn] at hg0 d e ⊢
  rw [show (((n + 1 : Nat) : Int) - 1) = (n : Int) by omega] at hB hg0 d e ⊢
  rw [show ((sh + n : Nat) : Int) = (sh : Int) + (n : Int) by omega] at hA
  generalize hU : limbA ys (n : Int) * 1000000000 + limbA ys ((n : Int) - 1) + 1 = U at *
  generalize (limbA cur ((sh : Int) + (n : Int) + 1) * 1000000000 + limbA cur ((sh : Int) + (n : Int))) * 1000000000 + limbA cur ((sh : Int) + (n : Int) - 1) = N3 at *
  have hU0 : 0 < U := by omega
  have hq : N3 / U * U ≤ N3 := Int.ediv_mul_le N3 (by omega)
  generalize N3 / U = q at *
  have hps := bp_pos sh
  have hpn := bp_pos n
  have h1 : q * bp sh * (nval ys * 1000000000) ≤ q * bp sh * (U * bp n) := Int.mul_le_mul_of_nonneg_left hB (Int.mul_nonneg hg0 (by omega))
  have h2 : q * U * bp (sh + n) ≤ N3 * bp (sh + n) := Int.mul_le_mul_of_nonneg_right hq (by have := bp_pos (sh + n); omega)
  have e1 : q * bp sh * (U * bp n) = q * U * bp (sh + n) := by rw [bp_add]; simp only [Int.mul_assoc, Int.mul_comm, Int.mul_left_comm]
  have e2 : q * bp sh * (nval ys * 1000000000) = q * (nval ys * bp sh) * 1000000000 := by simp only [Int.mul_assoc, Int.mul_comm, Int.mul_left_comm]
  rw [e1, e2] at h1
  omega
/-- below a limb, where the number is below the divisor one place up -/
theorem factor_lt {g N D : Int} (hD : 0 < D) (h1 : g * D ≤ N) (h2 : N < 1000000000 * D) : g < 1000000000 := by
  by_cases h : g < 1000000000
  · exact h
  · have := Int.mul_le_mul_of_nonneg_right (show 1000000000 ≤ g by omega) (show 0 ≤ D by omega)
    omega

theorem add64_run (x y : Nat) (w : World) : (callFunc 163 #[.int .u64 x, .int .u64 y, .int .u64 0]).run Tryd.prog w =
    .ok (.value (.tuple #[.int .u64 (((x + y) % 18446744073709551616 : Nat) : Int), .int .u64 (((x + y) / 18446744073709551616 : Nat) : Int)])) w := by
  rw [run_callFunc_extern Tryd.func163 (by kernel_rfl) (by kernel_rfl) (by kernel_rfl) (e := add64Entry) (by kernel_rfl), run_add64 x y 0 (by omega) (by omega) (by omega) (by omega)]
  simp only [Result.andThen]
  congr 5 <;> omega

theorem limbAt_A (v : Value) (xs : List Int) (p : Int) (lo hi : Nat) (w : World) (hl : xs.length ≤ 1048576) (hr : Row w lo hi v (intsV xs)) :
    Calls Tryd.prog 162 #[v, .int .i64 p] w fun e w' => e = .returned (.int .i64 (limbA xs p)) ∧ w = w' := limbAt_any v xs p lo hi w hl hr
/-- the words of the division in guess -/
theorem guess_words {F l3 U : Int} (hF0 : 0 ≤ F) (hF1 : F ≤ 999999999999999999) (hl0 : 0 ≤ l3) (hl1 : l3 ≤ 999999999) (hU0 : 1000000001 ≤ U) (hU1 : U ≤ 1000000000000000000) :
    F.toNat * 1000000000 / 18446744073709551616 + (F.toNat * 1000000000 % 18446744073709551616 + l3.toNat) / 18446744073709551616 < U.toNat ∧
    ((((F.toNat * 1000000000 / 18446744073709551616 + (F.toNat * 1000000000 % 18446744073709551616 + l3.toNat) / 18446744073709551616) * 18446744073709551616 + (F.toNat * 1000000000 % 18446744073709551616 + l3.toNat) % 18446744073709551616) / U.toNat : Nat) : Int) = (F * 1000000000 + l3) / U := by
  refine ⟨by omega, ?_⟩
  have e : (F.toNat * 1000000000 / 18446744073709551616 + (F.toNat * 1000000000 % 18446744073709551616 + l3.toNat) / 18446744073709551616) * 18446744073709551616 + (F.toNat * 1000000000 % 18446744073709551616 + l3.toNat) % 18446744073709551616 = F.toNat * 1000000000 + l3.toNat := by omega
  rw [e, Int.natCast_ediv]
  congr 1 <;> omega
set_option maxHeartbeats 1000000 in
set_option maxRecDepth 100000 in
theorem guess_any (b : Nat) (v : Value) (cur : List Int) (vy : Value) (ys : List Int) (lo hi lo2 hi2 : Nat) (sh : Nat) (w : World) (hcl : cur.length ≤ 1048576) (hyl : ys.length ≤ 1048576) (hsh : sh ≤ 1048576)
    (hdc : DigN cur) (hdy : DigN ys) (hy0 : 0 < ys.length) (hyt : ys.getLastD 1 ≠ 0) (hN : nval cur < 1000000000 * (nval ys * bp sh))
    (hv : w.cell? ⟨b, 0, none⟩ = some v) (hrc : Row w lo2 hi2 v (intsV cur)) (hry : Row w lo hi vy (intsV ys)) :
    Calls Tryd.prog 157 #[.pointer (some ⟨b, 0, none⟩), vy, .int .i64 sh] w fun e w' => e = .returned (.int .i64 (guessN cur ys sh)) ∧ ∃ q, w.drewN q = w' := by
  have hg0 := guess_nonneg hdc hdy sh
  have hgl := guess_le hdc hdy hy0 sh
  have hy1 := nval_ge ys hdy hyt hy0
  have hD : 0 < nval ys * bp sh := Int.mul_pos (by have := bp_pos (ys.length - 1); omega) (bp_pos sh)
  have hg1 := factor_lt hD hgl hN
  have hd1 := limbA_dig hdy ((ys.length : Int) - 1)
  have hd2 := limbA_dig hdy ((ys.length : Int) - 1 - 1)
  have hc1 := limbA_dig hdc ((sh : Int) + ((ys.length : Int) - 1) + 1)
  have hc2 := limbA_dig hdc ((sh : Int) + ((ys.length : Int) - 1))
  have hc3 := limbA_dig hdc ((sh : Int) + ((ys.length : Int) - 1) - 1)
  have hlast : limbA ys ((ys.length : Int) - 1) ≠ 0 ∧ ys[ys.length - 1]'(by omega) = limbA ys ((ys.length : Int) - 1) := by
    have e : limbA ys ((ys.length : Int) - 1) = ys[ys.length - 1]'(by omega) := by
      rw [show ((ys.length : Int) - 1) = ((ys.length - 1 : Nat) : Int) by omega, limbA_nat, List.getD_eq_getElem?_getD, List.getElem?_eq_getElem (by omega), Option.getD_some]
    refine ⟨?_, e.symm⟩
    rw [e]
    intro h
    apply hyt
    rw [List.getLastD_eq_getLast?, List.getLast?_eq_getElem?, List.getElem?_eq_getElem (by omega), Option.getD_some, h]
  have hcell := hry
  obtain ⟨A, c, rfl, hA⟩ := hcell
  rw [intsV_length] at hry ⊢
  obtain ⟨a, rfl, _, _, hca⟩ := hA (ys.length - 1) _ (intsV_at ys (ys.length - 1) (by omega))
  rw [hlast.2] at hca
  have hU0 : 1000000001 ≤ limbA ys ((ys.length : Int) - 1) * 1000000000 + limbA ys ((ys.length : Int) - 1 - 1) + 1 := by have := hlast.1; omega
  have hU1 : limbA ys ((ys.length : Int) - 1) * 1000000000 + limbA ys ((ys.length : Int) - 1 - 1) + 1 ≤ 1000000000000000000 := by omega
  have hF0 : 0 ≤ limbA cur ((sh : Int) + ((ys.length : Int) - 1) + 1) * 1000000000 + limbA cur ((sh : Int) + ((ys.length : Int) - 1)) := by omega
  have hF1 : limbA cur ((sh : Int) + ((ys.length : Int) - 1) + 1) * 1000000000 + limbA cur ((sh : Int) + ((ys.length : Int) - 1)) ≤ 999999999999999999 := by omega
  have HW := Lib.hid (guess_words hF0 hF1 hc3.1 hc3.2 hU0 hU1)
  have HG : Hid (guessN cur ys sh = ((limbA cur ((sh : Int) + ((ys.length : Int) - 1) + 1) * 1000000000 + limbA cur ((sh : Int) + ((ys.length : Int) - 1))) * 1000000000 + limbA cur ((sh : Int) + ((ys.length : Int) - 1) - 1)) /
    (limbA ys ((ys.length : Int) - 1) * 1000000000 + limbA ys ((ys.length : Int) - 1 - 1) + 1)) := Lib.hid rfl
  unfold guessN at hg0 hg1
  clear hN hgl hy1 hD hlast hyt hA
  have hadd := add64_run
  go_enter Tryd.func157, Tryd.ntmps157
  go_wp2
  go_quiet ((go_at_call 162; exact quiet_at rfl (limbAt_A _ ys _ lo hi _ hyl (hry.drewN _))))
  go_wp2
  go_quiet ((go_at_call 162; exact quiet_at rfl (limbAt_A _ cur _ lo2 hi2 _ hcl (hrc.drewN _))))
  generalize limbA cur ((sh : Int) + ((ys.length : Int) - 1) + 1) = C1 at *
  generalize limbA cur ((sh : Int) + ((ys.length : Int) - 1)) = C2 at *
  obtain ⟨F, hF⟩ : ∃ F : Nat, C1 * 1000000000 + C2 = (F : Int) := ⟨_, (Int.toNat_of_nonneg hF0).symm⟩
  rw [hF, Int.toNat_natCast] at HW
  rw [hF] at hg0 hg1 hF1 HG ⊢
  have hc11 := hc1.1
  have hc12 := hc1.2
  have hc21 := hc2.1
  have hc22 := hc2.2
  have hd11 := hd1.1
  have hd12 := hd1.2
  have hd21 := hd2.1
  have hd22 := hd2.2
  obtain ⟨U, hU⟩ : ∃ U : Nat, limbA ys ((ys.length : Int) - 1) * 1000000000 + limbA ys ((ys.length : Int) - 1 - 1) + 1 = (U : Int) := ⟨_, (Int.toNat_of_nonneg (by omega)).symm⟩
  rw [hU, Int.toNat_natCast] at HW
  rw [hU] at hg0 hg1 hU1 hU0 HG ⊢
  clear hc1 hc2 hd1 hd2
  obtain ⟨l3, hl3⟩ : ∃ l3 : Nat, limbA cur ((sh : Int) + ((ys.length : Int) - 1) - 1) = (l3 : Int) := ⟨_, (Int.toNat_of_nonneg hc3.1).symm⟩
  rw [hl3, Int.toNat_natCast] at HW
  rw [hl3] at hg0 hg1 hc3 HG
  have hl31 := hc3.2
  have hF2 : F * 1000000000 / 18446744073709551616 ≤ 1000000000 := by omega
  clear hc3 hd11 hd12 hd21 hd22 hc11 hc12 hc21 hc22
  go_wp2_with fail
  refine (Tryd.bits_Mul64 F 1000000000 (by omega) (by omega) _).mono ?_
  rintro e w1 ⟨rfl, rfl⟩
  have hm := Nat.mod_lt (F * 1000000000) (show 0 < 18446744073709551616 by omega)
  obtain ⟨h1, hh1⟩ : ∃ h1, F * 1000000000 / 18446744073709551616 = h1 := ⟨_, rfl⟩
  obtain ⟨m1, hm1⟩ : ∃ m1, F * 1000000000 % 18446744073709551616 = m1 := ⟨_, rfl⟩
  rw [hh1] at HW hF2 ⊢
  rw [hm1] at HW hm ⊢
  clear hh1 hm1
  go_wp2_with fail
  refine (limbAt_A v cur _ lo2 hi2 _ hcl (hrc.drewN _)).mono ?_
  rintro e w1 ⟨rfl, rfl⟩
  rw [hl3]
  have hHW := HW.out
  have hm2 := Nat.mod_lt (m1 + l3) (show 0 < 18446744073709551616 by omega)
  have hh2 : (m1 + l3) / 18446744073709551616 ≤ 1 := by omega
  rw [hHW.2.symm] at hg0 hg1
  have hHW1 := hHW.1
  have HQ := Lib.hid (HG.out.trans hHW.2.symm)
  clear hHW HW HG
  obtain ⟨c1, hc1⟩ : ∃ c1, (m1 + l3) / 18446744073709551616 = c1 := ⟨_, rfl⟩
  obtain ⟨m2, hc2⟩ : ∃ m2, (m1 + l3) % 18446744073709551616 = m2 := ⟨_, rfl⟩
  rw [hc1] at HQ hg0 hg1 hHW1 hh2
  rw [hc2] at HQ hg0 hg1 hm2
  have hc1i : ((m1 : Int) + (l3 : Int)) / 18446744073709551616 = (c1 : Int) := by omega
  have hc2i : ((m1 : Int) + (l3 : Int)) % 18446744073709551616 = (m2 : Int) := by omega
  obtain ⟨h2, hh3⟩ : ∃ h2 : Nat, (h1 : Int) + (c1 : Int) = (h2 : Int) := ⟨h1 + c1, by omega⟩
  rw [show h1 + c1 = h2 by omega] at HQ hg0 hg1 hHW1
  go_wp2_with fail
  refine (div64_any h2 m2 U hHW1 hm2 (by omega) _).mono ?_
  rintro e w1 ⟨⟨r, rfl⟩, n2, rfl⟩
  generalize (h2 * 18446744073709551616 + m2) / U = q at *
  go_wp2_with fail
  go_ret
  exact ⟨ret_int HQ.out.symm, _, rfl⟩
end Go.Proofs.YtcenmdiblbooeaaDoor
