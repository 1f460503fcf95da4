/-
  The laws of chapter 5, walked: they return true wherever both packages answer alike.
-/
import Derived.Test.YtecaghbakjalgaaSigned
import Derived.Deep.RegionHeld3
import Derived.Deep.DeepCutAuto
namespace Go.Proofs.Ytecaghbakjalgaa
open Go.RowKit

set_option maxHeartbeats 4000000 in
set_option maxRecDepth 100000 in
theorem lawIntOk_walk (va : Value) (a : SI) (R0 : Bool) (w : World)
    (hS : ∀ (ua : Value) (W : World), OwnS ua a W → Calls Try.prog 15 #[ua] W (Postb R0 W))
    (hI : ∀ (ua : Value) (W : World), OwnS ua a W → Calls Try.prog 17 #[ua] W (Postb R0 W))
    (hl : szS a ≤ 1048576) (ra : RdS w va a) :
    Calls Try.prog 3 #[va] w fun e w' => e = .returned (.bool true) ∧ Below w.heap.size w w' := by
  have HS := Lib.hid hS
  have HI := Lib.hid hI
  clear hS hI
  have hsa : 0 ≤ szS a := by unfold szS szI; omega
  obtain ⟨ua, rfl, qa⟩ := ra
  obtain ⟨Aa, ca, rfl⟩ := row_form qa
  rw [intsV_length] at qa
  have hla : a.2.length ≤ 1048576 := by unfold szS szI at hl; omega
  rw [intsV_length]
  have bb0 : Below w.heap.size w (w.alloc (.cells #[.bool a.1, .slice Aa a.2.length ca] 24)) := below_al (Below.refl _ _) _
  have ka := box_new w #[.bool a.1, .slice Aa a.2.length ca] 24
  have RFa : Hid (∀ W, Below w.heap.size w W → RdS W (.agg #[.bool a.1, .slice Aa a.2.length ca]) a) := Lib.hid fun W hb => rdS_below qa hb
  go_enter Try.func3, Try.ntmps3
  have ka_c0 := ka.here.cell 0 _ rfl
  have ka_c1 := ka.here.cell 1 _ rfl
  go_wp2_with fail
  clear ka_c0 ka_c1
  refine (szSigned_at _ a (1048576) _ (by omega) (by omega) (by omega) (RFa.out _ bb0)).mono ?_
  rintro e w1 ⟨rfl, b1⟩
  rw [leftI_of (by omega)]
  have bb1 := Below.next bb0 b1
  replace ka := ka.below b1
  have hn : decide (((1048576 : Int) - szS a : Int) < 0) = false := decide_eq_false (by omega)
  have HKa := Lib.hid (ka.lt (w.heap.size) (by simp))
  have ka_c0 := ka.here.cell 0 _ rfl
  have ka_c1 := ka.here.cell 1 _ rfl
  go_wp2_with fail
  clear ka_c0 ka_c1
  refine (toSigned_at _ a _ hla (RFa.out _ bb1)).mono ?_
  rintro e w2 ⟨t, rfl, ot, b2⟩
  have bb2 := Below.next bb1 b2
  replace ka := ka.below b2
  go_wp2_with fail
  refine (HS.out _ _ ⟨_, rfl, own_zero ot⟩).mono ?_
  rintro e w3 ⟨rfl, b3⟩
  clear ot
  have bb3 := Below.next bb2 b3
  replace ka := ka.below b3
  have ka_c0 := ka.here.cell 0 _ rfl
  have ka_c1 := ka.here.cell 1 _ rfl
  go_upto_region 6 with fail
  go_cut [5] (fun s wx => NewLoc a w3 s wx)
  case first =>
    go_wp2_with fail
    refine (toSigned_at _ a _ hla (RFa.out _ bb3)).mono ?_
    rintro e wt ⟨ut, rfl, ot, bt⟩
    obtain ⟨At_, ct, rfl⟩ := own_len ot
    go_wp2_with fail
    go_meet
    exact newLoc_last ot (Nat.le_refl _) bt
  rename World => w4
  clear ka_c0 ka_c1
  obtain ⟨gxa, uxa, rfl, oxa, lxa, b4⟩ := hcut
  obtain ⟨Axa, cxa, exa⟩ := own_len oxa.here.2
  subst exa
  have bb4 := Below.next bb3 b4
  replace ka := ka.below b4
  have oxa_c0 := oxa.here.1.cell 0 _ rfl
  have oxa_c1 := oxa.here.1.cell 1 _ rfl
  go_wp2_with fail
  clear oxa_c0 oxa_c1
  refine (HI.out _ _ ⟨_, rfl, oxa.here.2⟩).mono ?_
  rintro e w5 ⟨rfl, b5⟩
  have bb5 := Below.next bb4 b5
  replace ka := ka.below b5
  replace oxa := oxa.below b5
  have ka_c0 := ka.here.cell 0 _ rfl
  have ka_c1 := ka.here.cell 1 _ rfl
  have oxa_c0 := oxa.here.1.cell 0 _ rfl
  have oxa_c1 := oxa.here.1.cell 1 _ rfl
  go_wp2_with fail
  have HB0 := Lib.hid (show Below w5.heap.size w5 w5.drew from (Below.refl _ _).drew)
  have KL := Lib.hid (show ∀ W, Below w5.heap.size w5 W → W.cell? ⟨w.heap.size, 0, none⟩ = some (.bool a.1) ∧ W.cell? ⟨w.heap.size, 1, none⟩ = some (.slice Aa a.2.length ca) ∧ W.cell? ⟨gxa, 0, none⟩ = some (.bool a.1) ∧ W.cell? ⟨gxa, 1, none⟩ = some (.slice Axa a.2.length cxa) ∧ Hid (Below w5.heap.size w5 W) from
    fun W hb => ⟨(ka.below hb).here.cell 0 _ rfl, (ka.below hb).here.cell 1 _ rfl, (oxa.below hb).here.1.cell 0 _ rfl, (oxa.below hb).here.1.cell 1 _ rfl, Lib.hid hb⟩)
  have BBF := Lib.hid (show ∀ W, Below w5.heap.size w5 W → Below w.heap.size w W from fun W hb => Below.next bb5 hb)
  have OXF := Lib.hid (show ∀ W, Below w5.heap.size w5 W → OwnI _ a.2 W from fun W hb => (oxa.below hb).here.2)
  clear ka_c0 ka_c1 oxa_c0 oxa_c1
  go_region_held3 (fun W => W.cell? ⟨w.heap.size, 0, none⟩ = some (.bool a.1) ∧ W.cell? ⟨w.heap.size, 1, none⟩ = some (.slice Aa a.2.length ca) ∧ W.cell? ⟨gxa, 0, none⟩ = some (.bool a.1) ∧ W.cell? ⟨gxa, 1, none⟩ = some (.slice Axa a.2.length cxa) ∧ Hid (Below w5.heap.size w5 W))
    ((refine KL.out _ ?_; (first | exact HBe.out | exact HBt.out | exact HB0.out | fail)))
    (first
      | (go_at_call 16; (have hBB := (‹_ ∧ _ ∧ _ ∧ _ ∧ Hid (Below w5.heap.size w5 _)›).2.2.2.2); (with_reducible refine (toSigned_at _ a _ hla (RFa.out _ (BBF.out _ hBB.out))).mono ?_); rintro e wt ⟨t, rfl, ot, bt⟩; have HBt := Lib.hid (Below.next hBB.out bt); clear hBB)
      | (go_at_call 18; (have hBB := (‹_ ∧ _ ∧ _ ∧ _ ∧ Hid (Below w5.heap.size w5 _)›).2.2.2.2); (with_reducible refine (eqSigned_at _ _ a a _ (by omega) (OwnS.rd (OwnS.mk (x := a) (OXF.out _ hBB.out))) (OwnS.rd (OwnS.mk (x := a) (ownI_of ot)))).mono ?_); rintro e w6 ⟨rfl, be⟩; rw [decide_refl]; have HBe := Lib.hid (Below.next hBB.out be); clear hBB))
  have b6 := HBe.out
  have bb6 := Below.next bb5 b6
  replace ka := ka.below b6
  replace oxa := oxa.below b6
  clear HB0 KL BBF OXF HBt HBe ot
  go_wp2
  go_ret
  exact ⟨rfl, bb6⟩

set_option maxHeartbeats 4000000 in
set_option maxRecDepth 100000 in
theorem lawIntOf_walk  (k : Int) (R0 : SI) (w : World)
    (hS : ∀  (W : World), Calls Try.prog 19 #[.int .i64 k] W (NewS R0 W))
    (hI : ∀  (W : World), Calls Try.prog 20 #[.int .i64 k] W (NewS R0 W))
    (hlR0 : szS R0 ≤ 1048576)  :
    Calls Try.prog 4 #[.int .i64 k] w fun e w' => e = .returned (.bool true) ∧ Below w.heap.size w w' := by
  have HS := Lib.hid hS
  have HI := Lib.hid hI
  clear hS hI
  have hsR0 : 0 ≤ szS R0 := by unfold szS szI; omega
  have hlen0 : R0.2.length ≤ 1048576 := by unfold szS szI at hlR0; omega
  have bb0 : Below w.heap.size w w := Below.refl _ _
  go_enter Try.func4, Try.ntmps4
  go_upto_region 1 with fail
  go_cut [3] (fun s wx => NewLoc R0 w s wx)
  case first =>
    go_wp2_with fail
    refine (HS.out  _ ).mono ?_
    rintro e wf ⟨uf, rfl, of, bf⟩
    obtain ⟨Af, cf, rfl⟩ := own_len of
    have bwf := bf
    go_wp2_with fail
    go_meet
    exact newLoc_last of (Nat.le_refl _) bwf
  rename World => w1
  obtain ⟨gw0, uw0, rfl, ow0, lw0, b1⟩ := hcut
  obtain ⟨Aw0, cw0, ew0⟩ := own_len ow0.here.2
  subst ew0
  have bb1 := Below.next bb0 b1
  go_upto_region 2 with fail
  go_cut [4] (fun s wx => NewLoc R0 w1 s wx)
  case first =>
    go_wp2_with fail
    refine (HI.out  _ ).mono ?_
    rintro e wf ⟨uf, rfl, of, bf⟩
    obtain ⟨Af, cf, rfl⟩ := own_len of
    go_wp2_with fail
    go_meet
    exact newLoc_last of (Nat.le_refl _) bf
  rename World => w2
  obtain ⟨gg0, ug0, rfl, og0, lg0, b2⟩ := hcut
  obtain ⟨Ag0, cg0, eg0⟩ := own_len og0.here.2
  subst eg0
  have bb2 := Below.next bb1 b2
  replace ow0 := ow0.below b2
  have og0_c0 := og0.here.1.cell 0 _ rfl
  have og0_c1 := og0.here.1.cell 1 _ rfl
  have ow0_c0 := ow0.here.1.cell 0 _ rfl
  have ow0_c1 := ow0.here.1.cell 1 _ rfl
  go_wp2_with fail
  clear og0_c0 og0_c1 ow0_c0 ow0_c1
  refine (eqSigned_at _ _ R0 R0 _ (by omega) (OwnS.rd ⟨_, rfl, og0.here.2⟩) (OwnS.rd ⟨_, rfl, ow0.here.2⟩)).mono ?_
  rintro e w3 ⟨rfl, b3⟩
  rw [decide_refl]
  have bb3 := Below.next bb2 b3
  replace ow0 := ow0.below b3
  replace og0 := og0.below b3
  have z1 := b1.size
  have z2 := b2.size
  have z3 := b3.size
  have AP_w0_g0 := Lib.hid (Within.apart lw0 lg0 (.inl (by omega)))
  have F_g0 := Lib.hid (Within.from (B := w.heap.size) lg0 (by have := bb0.size; omega))
  clear z1 z2 z3
  have kg0 := box_at og0.here.1
  have mg0 := own_at' og0.here.2
  have Ng0 := Lib.hid (Lib.ownBlock_ne og0.here.2 og0.here.1 (by decide))
  clear og0
  have kg0_c0 := kg0.here.cell 0 _ rfl
  have kg0_c1 := kg0.here.cell 1 _ rfl
  go_wp2_with fail
  clear kg0_c0 kg0_c1
  refine (markSigned_at _ R0 _ (1) _ (by omega) (by omega) (mg0.imp fun _ h => OwnS.mk (x := R0) h)).mono ?_
  rintro e w4 ⟨rfl, mmg0, c4⟩
  clear mg0
  have bb4 := below_chg bb3 c4 bb3.size (fun i hi => F_g0.out i (by unfold locB; exact List.mem_cons_of_mem _ hi))
  replace ow0 := ow0.chg c4 (fun i hi hm => AP_w0_g0.out i hi (by unfold locB; exact List.mem_cons_of_mem _ hm))
  replace kg0 := kg0.chg c4 (fun i hi hm => by simp at hi; subst hi; exact Ng0.out (by simpa using hm))
  have mkg0 := mmg0
  clear mmg0
  have kg0_c0 := kg0.here.cell 0 _ rfl
  have kg0_c1 := kg0.here.cell 1 _ rfl
  go_wp2_with fail
  clear kg0_c0 kg0_c1
  refine (heldSigned_at _ R0 (1) _ (by omega) (by omega) mkg0.here).mono ?_
  rintro e w5 ⟨rfl, b5⟩
  have bb5 := Below.next bb4 b5
  replace ow0 := ow0.below b5
  replace kg0 := kg0.below b5
  replace mkg0 := mkg0.below b5
  have hq5 : decide ((1 : Int) + szS R0 < 0) = false := decide_eq_false (by omega)
  go_upto_region 13 with fail
  go_cut [7] (fun s wx => NewLoc R0 w5 s wx)
  case first =>
    go_wp2_with fail
    refine (HI.out  _ ).mono ?_
    rintro e wf ⟨uf, rfl, of, bf⟩
    obtain ⟨Af, cf, rfl⟩ := own_len of
    have bwf := bf
    go_wp2_with fail
    go_meet
    exact newLoc_last of (Nat.le_refl _) bwf
  rename World => w6
  obtain ⟨gh0, uh0, rfl, oh0, lh0, b6⟩ := hcut
  obtain ⟨Ah0, ch0, eh0⟩ := own_len oh0.here.2
  subst eh0
  have bb6 := Below.next bb5 b6
  replace ow0 := ow0.below b6
  replace kg0 := kg0.below b6
  replace mkg0 := mkg0.below b6
  have oh0_c0 := oh0.here.1.cell 0 _ rfl
  have oh0_c1 := oh0.here.1.cell 1 _ rfl
  have ow0_c0 := ow0.here.1.cell 0 _ rfl
  have ow0_c1 := ow0.here.1.cell 1 _ rfl
  go_wp2_with fail
  clear oh0_c0 oh0_c1 ow0_c0 ow0_c1
  refine (eqSigned_at _ _ R0 R0 _ (by omega) (OwnS.rd ⟨_, rfl, oh0.here.2⟩) (OwnS.rd ⟨_, rfl, ow0.here.2⟩)).mono ?_
  rintro e w7 ⟨rfl, b7⟩
  rw [decide_refl]
  have bb7 := Below.next bb6 b7
  replace ow0 := ow0.below b7
  replace kg0 := kg0.below b7
  replace mkg0 := mkg0.below b7
  replace oh0 := oh0.below b7
  have kg0_c0 := kg0.here.cell 0 _ rfl
  have kg0_c1 := kg0.here.cell 1 _ rfl
  go_wp2_with fail
  clear kg0_c0 kg0_c1
  refine (heldSigned_at _ R0 (1) _ (by omega) (by omega) mkg0.here).mono ?_
  rintro e w8 ⟨rfl, b8⟩
  have bb8 := Below.next bb7 b8
  replace ow0 := ow0.below b8
  replace kg0 := kg0.below b8
  replace mkg0 := mkg0.below b8
  replace oh0 := oh0.below b8
  have hq8 : decide ((1 : Int) + szS R0 < 0) = false := decide_eq_false (by omega)
  go_wp2
  go_ret
  exact ⟨rfl, bb8⟩

set_option maxHeartbeats 4000000 in
set_option maxRecDepth 100000 in
theorem lawIntNum_walk (va : Value) (a : SI) (R0 : Int) (R1 : Bool) (w : World)
    (hS : ∀ (ua : Value) (W : World), OwnS ua a W → Calls Try.prog 23 #[ua] W (Postnb R0 R1 W))
    (hI : ∀ (ua : Value) (W : World), OwnS ua a W → Calls Try.prog 24 #[ua] W (Postnb R0 R1 W))
    (hl : szS a ≤ 1048576) (ra : RdS w va a) :
    Calls Try.prog 5 #[va] w fun e w' => e = .returned (.bool true) ∧ Below w.heap.size w w' := by
  have HS := Lib.hid hS
  have HI := Lib.hid hI
  clear hS hI
  have hsa : 0 ≤ szS a := by unfold szS szI; omega
  obtain ⟨ua, rfl, qa⟩ := ra
  obtain ⟨Aa, ca, rfl⟩ := row_form qa
  rw [intsV_length] at qa
  have hla : a.2.length ≤ 1048576 := by unfold szS szI at hl; omega
  rw [intsV_length]
  have bb0 : Below w.heap.size w (w.alloc (.cells #[.bool a.1, .slice Aa a.2.length ca] 24)) := below_al (Below.refl _ _) _
  have ka := box_new w #[.bool a.1, .slice Aa a.2.length ca] 24
  have RFa : Hid (∀ W, Below w.heap.size w W → RdS W (.agg #[.bool a.1, .slice Aa a.2.length ca]) a) := Lib.hid fun W hb => rdS_below qa hb
  go_enter Try.func5, Try.ntmps5
  have ka_c0 := ka.here.cell 0 _ rfl
  have ka_c1 := ka.here.cell 1 _ rfl
  go_wp2_with fail
  clear ka_c0 ka_c1
  refine (szSigned_at _ a (1048576) _ (by omega) (by omega) (by omega) (RFa.out _ bb0)).mono ?_
  rintro e w1 ⟨rfl, b1⟩
  rw [leftI_of (by omega)]
  have bb1 := Below.next bb0 b1
  replace ka := ka.below b1
  have hn : decide (((1048576 : Int) - szS a : Int) < 0) = false := decide_eq_false (by omega)
  have HKa := Lib.hid (ka.lt (w.heap.size) (by simp))
  have ka_c0 := ka.here.cell 0 _ rfl
  have ka_c1 := ka.here.cell 1 _ rfl
  go_wp2_with fail
  clear ka_c0 ka_c1
  refine (toSigned_at _ a _ hla (RFa.out _ bb1)).mono ?_
  rintro e w2 ⟨t, rfl, ot, b2⟩
  have bb2 := Below.next bb1 b2
  replace ka := ka.below b2
  go_wp2_with fail
  refine (HS.out _ _ ⟨_, rfl, own_zero ot⟩).mono ?_
  rintro e w3 ⟨rfl, b3⟩
  clear ot
  have bb3 := Below.next bb2 b3
  replace ka := ka.below b3
  have ka_c0 := ka.here.cell 0 _ rfl
  have ka_c1 := ka.here.cell 1 _ rfl
  go_upto_region 6 with fail
  go_cut [6] (fun s wx => NewLoc a w3 s wx)
  case first =>
    go_wp2_with fail
    refine (toSigned_at _ a _ hla (RFa.out _ bb3)).mono ?_
    rintro e wt ⟨ut, rfl, ot, bt⟩
    obtain ⟨At_, ct, rfl⟩ := own_len ot
    go_wp2_with fail
    go_meet
    exact newLoc_last ot (Nat.le_refl _) bt
  rename World => w4
  clear ka_c0 ka_c1
  obtain ⟨gxa, uxa, rfl, oxa, lxa, b4⟩ := hcut
  obtain ⟨Axa, cxa, exa⟩ := own_len oxa.here.2
  subst exa
  have bb4 := Below.next bb3 b4
  replace ka := ka.below b4
  have oxa_c0 := oxa.here.1.cell 0 _ rfl
  have oxa_c1 := oxa.here.1.cell 1 _ rfl
  go_wp2_with fail
  clear oxa_c0 oxa_c1
  refine (HI.out _ _ ⟨_, rfl, oxa.here.2⟩).mono ?_
  rintro e w5 ⟨rfl, b5⟩
  have bb5 := Below.next bb4 b5
  replace ka := ka.below b5
  replace oxa := oxa.below b5
  have ka_c0 := ka.here.cell 0 _ rfl
  have ka_c1 := ka.here.cell 1 _ rfl
  have oxa_c0 := oxa.here.1.cell 0 _ rfl
  have oxa_c1 := oxa.here.1.cell 1 _ rfl
  go_wp2_with fail
  have HB0 := Lib.hid (show Below w5.heap.size w5 w5.drew from (Below.refl _ _).drew)
  have KL := Lib.hid (show ∀ W, Below w5.heap.size w5 W → W.cell? ⟨w.heap.size, 0, none⟩ = some (.bool a.1) ∧ W.cell? ⟨w.heap.size, 1, none⟩ = some (.slice Aa a.2.length ca) ∧ W.cell? ⟨gxa, 0, none⟩ = some (.bool a.1) ∧ W.cell? ⟨gxa, 1, none⟩ = some (.slice Axa a.2.length cxa) ∧ Hid (Below w5.heap.size w5 W) from
    fun W hb => ⟨(ka.below hb).here.cell 0 _ rfl, (ka.below hb).here.cell 1 _ rfl, (oxa.below hb).here.1.cell 0 _ rfl, (oxa.below hb).here.1.cell 1 _ rfl, Lib.hid hb⟩)
  have BBF := Lib.hid (show ∀ W, Below w5.heap.size w5 W → Below w.heap.size w W from fun W hb => Below.next bb5 hb)
  have OXF := Lib.hid (show ∀ W, Below w5.heap.size w5 W → OwnI _ a.2 W from fun W hb => (oxa.below hb).here.2)
  clear ka_c0 ka_c1 oxa_c0 oxa_c1
  go_region_held3 (fun W => W.cell? ⟨w.heap.size, 0, none⟩ = some (.bool a.1) ∧ W.cell? ⟨w.heap.size, 1, none⟩ = some (.slice Aa a.2.length ca) ∧ W.cell? ⟨gxa, 0, none⟩ = some (.bool a.1) ∧ W.cell? ⟨gxa, 1, none⟩ = some (.slice Axa a.2.length cxa) ∧ Hid (Below w5.heap.size w5 W))
    ((refine KL.out _ ?_; (first | exact HBe.out | exact HBt.out | exact HB0.out | fail)))
    (first
      | (go_at_call 16; (have hBB := (‹_ ∧ _ ∧ _ ∧ _ ∧ Hid (Below w5.heap.size w5 _)›).2.2.2.2); (with_reducible refine (toSigned_at _ a _ hla (RFa.out _ (BBF.out _ hBB.out))).mono ?_); rintro e wt ⟨t, rfl, ot, bt⟩; have HBt := Lib.hid (Below.next hBB.out bt); clear hBB)
      | (go_at_call 18; (have hBB := (‹_ ∧ _ ∧ _ ∧ _ ∧ Hid (Below w5.heap.size w5 _)›).2.2.2.2); (with_reducible refine (eqSigned_at _ _ a a _ (by omega) (OwnS.rd (OwnS.mk (x := a) (OXF.out _ hBB.out))) (OwnS.rd (OwnS.mk (x := a) (ownI_of ot)))).mono ?_); rintro e w6 ⟨rfl, be⟩; rw [decide_refl]; have HBe := Lib.hid (Below.next hBB.out be); clear hBB))
  have b6 := HBe.out
  have bb6 := Below.next bb5 b6
  replace ka := ka.below b6
  replace oxa := oxa.below b6
  clear HB0 KL BBF OXF HBt HBe ot
  go_wp2
  go_ret
  exact ⟨rfl, bb6⟩

set_option maxHeartbeats 4000000 in
set_option maxRecDepth 100000 in
theorem lawIntNeg_walk (va : Value) (a : SI) (R0 : SI) (w : World)
    (hS : ∀ (ua : Value) (W : World), OwnS ua a W → Calls Try.prog 25 #[ua] W (NewS R0 W))
    (hI : ∀ (ua : Value) (W : World), OwnS ua a W → Calls Try.prog 26 #[ua] W (NewS R0 W))
    (hl : szS a ≤ 1048576) (hlR0 : szS R0 ≤ 1048576) (ra : RdS w va a) :
    Calls Try.prog 6 #[va] w fun e w' => e = .returned (.bool true) ∧ Below w.heap.size w w' := by
  have HS := Lib.hid hS
  have HI := Lib.hid hI
  clear hS hI
  have hsa : 0 ≤ szS a := by unfold szS szI; omega
  have hsR0 : 0 ≤ szS R0 := by unfold szS szI; omega
  obtain ⟨ua, rfl, qa⟩ := ra
  obtain ⟨Aa, ca, rfl⟩ := row_form qa
  rw [intsV_length] at qa
  have hla : a.2.length ≤ 1048576 := by unfold szS szI at hl; omega
  have hlen0 : R0.2.length ≤ 1048576 := by unfold szS szI at hlR0; omega
  rw [intsV_length]
  have bb0 : Below w.heap.size w (w.alloc (.cells #[.bool a.1, .slice Aa a.2.length ca] 24)) := below_al (Below.refl _ _) _
  have ka := box_new w #[.bool a.1, .slice Aa a.2.length ca] 24
  have RFa : Hid (∀ W, Below w.heap.size w W → RdS W (.agg #[.bool a.1, .slice Aa a.2.length ca]) a) := Lib.hid fun W hb => rdS_below qa hb
  go_enter Try.func6, Try.ntmps6
  have ka_c0 := ka.here.cell 0 _ rfl
  have ka_c1 := ka.here.cell 1 _ rfl
  go_wp2_with fail
  clear ka_c0 ka_c1
  refine (szSigned_at _ a (1048576) _ (by omega) (by omega) (by omega) (RFa.out _ bb0)).mono ?_
  rintro e w1 ⟨rfl, b1⟩
  rw [leftI_of (by omega)]
  have bb1 := Below.next bb0 b1
  replace ka := ka.below b1
  have hn : decide (((1048576 : Int) - szS a : Int) < 0) = false := decide_eq_false (by omega)
  have HKa := Lib.hid (ka.lt (w.heap.size) (by simp))
  have ka_c0 := ka.here.cell 0 _ rfl
  have ka_c1 := ka.here.cell 1 _ rfl
  go_upto_region 5 with fail
  go_cut [4] (fun s wx => NewLoc R0 w1 s wx)
  case first =>
    go_wp2_with fail
    refine (toSigned_at _ a _ hla (RFa.out _ bb1)).mono ?_
    rintro e wt ⟨ut, rfl, ot, bt⟩
    obtain ⟨At_, ct, rfl⟩ := own_len ot
    go_wp2_with fail
    refine (HS.out _ _ ⟨_, rfl, own_zero ot⟩).mono ?_
    rintro e wf ⟨uf, rfl, of, bf⟩
    obtain ⟨Af, cf, rfl⟩ := own_len of
    have bwf := Below.next bt bf
    go_wp2_with fail
    go_meet
    exact newLoc_last of bt.size bwf
  rename World => w2
  clear ka_c0 ka_c1
  obtain ⟨gw0, uw0, rfl, ow0, lw0, b2⟩ := hcut
  obtain ⟨Aw0, cw0, ew0⟩ := own_len ow0.here.2
  subst ew0
  have bb2 := Below.next bb1 b2
  replace ka := ka.below b2
  have ka_c0 := ka.here.cell 0 _ rfl
  have ka_c1 := ka.here.cell 1 _ rfl
  go_upto_region 6 with fail
  go_cut [5] (fun s wx => NewLoc a w2 s wx)
  case first =>
    go_wp2_with fail
    refine (toSigned_at _ a _ hla (RFa.out _ bb2)).mono ?_
    rintro e wt ⟨ut, rfl, ot, bt⟩
    obtain ⟨At_, ct, rfl⟩ := own_len ot
    go_wp2_with fail
    go_meet
    exact newLoc_last ot (Nat.le_refl _) bt
  rename World => w3
  clear ka_c0 ka_c1
  obtain ⟨gxa, uxa, rfl, oxa, lxa, b3⟩ := hcut
  obtain ⟨Axa, cxa, exa⟩ := own_len oxa.here.2
  subst exa
  have bb3 := Below.next bb2 b3
  replace ka := ka.below b3
  replace ow0 := ow0.below b3
  have oxa_c0 := oxa.here.1.cell 0 _ rfl
  have oxa_c1 := oxa.here.1.cell 1 _ rfl
  go_upto_region 7 with fail
  go_cut [6] (fun s wx => NewLoc R0 w3 s wx)
  case first =>
    go_wp2_with fail
    refine (HI.out _ _ ⟨_, rfl, oxa.here.2⟩).mono ?_
    rintro e wf ⟨uf, rfl, of, bf⟩
    obtain ⟨Af, cf, rfl⟩ := own_len of
    go_wp2_with fail
    go_meet
    exact newLoc_last of (Nat.le_refl _) bf
  rename World => w4
  clear oxa_c0 oxa_c1
  obtain ⟨gg0, ug0, rfl, og0, lg0, b4⟩ := hcut
  obtain ⟨Ag0, cg0, eg0⟩ := own_len og0.here.2
  subst eg0
  have bb4 := Below.next bb3 b4
  replace ka := ka.below b4
  replace ow0 := ow0.below b4
  replace oxa := oxa.below b4
  have og0_c0 := og0.here.1.cell 0 _ rfl
  have og0_c1 := og0.here.1.cell 1 _ rfl
  have ow0_c0 := ow0.here.1.cell 0 _ rfl
  have ow0_c1 := ow0.here.1.cell 1 _ rfl
  go_wp2_with fail
  clear og0_c0 og0_c1 ow0_c0 ow0_c1
  refine (eqSigned_at _ _ R0 R0 _ (by omega) (OwnS.rd ⟨_, rfl, og0.here.2⟩) (OwnS.rd ⟨_, rfl, ow0.here.2⟩)).mono ?_
  rintro e w5 ⟨rfl, b5⟩
  rw [decide_refl]
  have bb5 := Below.next bb4 b5
  replace ka := ka.below b5
  replace ow0 := ow0.below b5
  replace oxa := oxa.below b5
  replace og0 := og0.below b5
  have ka_c0 := ka.here.cell 0 _ rfl
  have ka_c1 := ka.here.cell 1 _ rfl
  have oxa_c0 := oxa.here.1.cell 0 _ rfl
  have oxa_c1 := oxa.here.1.cell 1 _ rfl
  go_wp2_with fail
  have HB0 := Lib.hid (show Below w5.heap.size w5 w5.drew from (Below.refl _ _).drew)
  have KL := Lib.hid (show ∀ W, Below w5.heap.size w5 W → W.cell? ⟨w.heap.size, 0, none⟩ = some (.bool a.1) ∧ W.cell? ⟨w.heap.size, 1, none⟩ = some (.slice Aa a.2.length ca) ∧ W.cell? ⟨gxa, 0, none⟩ = some (.bool a.1) ∧ W.cell? ⟨gxa, 1, none⟩ = some (.slice Axa a.2.length cxa) ∧ Hid (Below w5.heap.size w5 W) from
    fun W hb => ⟨(ka.below hb).here.cell 0 _ rfl, (ka.below hb).here.cell 1 _ rfl, (oxa.below hb).here.1.cell 0 _ rfl, (oxa.below hb).here.1.cell 1 _ rfl, Lib.hid hb⟩)
  have BBF := Lib.hid (show ∀ W, Below w5.heap.size w5 W → Below w.heap.size w W from fun W hb => Below.next bb5 hb)
  have OXF := Lib.hid (show ∀ W, Below w5.heap.size w5 W → OwnI _ a.2 W from fun W hb => (oxa.below hb).here.2)
  clear ka_c0 ka_c1 oxa_c0 oxa_c1
  go_region_held3 (fun W => W.cell? ⟨w.heap.size, 0, none⟩ = some (.bool a.1) ∧ W.cell? ⟨w.heap.size, 1, none⟩ = some (.slice Aa a.2.length ca) ∧ W.cell? ⟨gxa, 0, none⟩ = some (.bool a.1) ∧ W.cell? ⟨gxa, 1, none⟩ = some (.slice Axa a.2.length cxa) ∧ Hid (Below w5.heap.size w5 W))
    ((refine KL.out _ ?_; (first | exact HBe.out | exact HBt.out | exact HB0.out | fail)))
    (first
      | (go_at_call 16; (have hBB := (‹_ ∧ _ ∧ _ ∧ _ ∧ Hid (Below w5.heap.size w5 _)›).2.2.2.2); (with_reducible refine (toSigned_at _ a _ hla (RFa.out _ (BBF.out _ hBB.out))).mono ?_); rintro e wt ⟨t, rfl, ot, bt⟩; have HBt := Lib.hid (Below.next hBB.out bt); clear hBB)
      | (go_at_call 18; (have hBB := (‹_ ∧ _ ∧ _ ∧ _ ∧ Hid (Below w5.heap.size w5 _)›).2.2.2.2); (with_reducible refine (eqSigned_at _ _ a a _ (by omega) (OwnS.rd (OwnS.mk (x := a) (OXF.out _ hBB.out))) (OwnS.rd (OwnS.mk (x := a) (ownI_of ot)))).mono ?_); rintro e w6 ⟨rfl, be⟩; rw [decide_refl]; have HBe := Lib.hid (Below.next hBB.out be); clear hBB))
  have b6 := HBe.out
  have bb6 := Below.next bb5 b6
  replace ka := ka.below b6
  replace ow0 := ow0.below b6
  replace oxa := oxa.below b6
  replace og0 := og0.below b6
  clear HB0 KL BBF OXF HBt HBe ot
  have z1 := b1.size
  have z2 := b2.size
  have z3 := b3.size
  have z4 := b4.size
  have z5 := b5.size
  have z6 := b6.size
  have AP_xa_g0 := Lib.hid (Within.apart lxa lg0 (.inl (by omega)))
  have AP_w0_xa := Lib.hid (Within.apart lw0 lxa (.inl (by omega)))
  have AP_w0_g0 := Lib.hid (Within.apart lw0 lg0 (.inl (by omega)))
  have F_xa := Lib.hid (Within.from (B := w.heap.size) lxa (by have := bb1.size; omega))
  have KX_a_xa := Lib.hid (show ∀ i ∈ [w.heap.size], i ∉ locB gxa (.slice Axa a.2.length cxa) from fun i hi hm => by have h1 := (lxa i hm).1; have h2 := HKa.out; simp at hi; omega)
  have F_g0 := Lib.hid (Within.from (B := w.heap.size) lg0 (by have := bb1.size; omega))
  have KX_a_g0 := Lib.hid (show ∀ i ∈ [w.heap.size], i ∉ locB gg0 (.slice Ag0 R0.2.length cg0) from fun i hi hm => by have h1 := (lg0 i hm).1; have h2 := HKa.out; simp at hi; omega)
  clear z1 z2 z3 z4 z5 z6
  have kxa := box_at oxa.here.1
  have mxa := own_at' oxa.here.2
  have Nxa := Lib.hid (Lib.ownBlock_ne oxa.here.2 oxa.here.1 (by decide))
  clear oxa
  have kxa_c0 := kxa.here.cell 0 _ rfl
  have kxa_c1 := kxa.here.cell 1 _ rfl
  go_wp2_with fail
  clear kxa_c0 kxa_c1
  refine (markSigned_at _ a _ (1) _ (by omega) (by omega) (mxa.imp fun _ h => OwnS.mk (x := a) h)).mono ?_
  rintro e w7 ⟨rfl, mmxa, c7⟩
  clear mxa
  have bb7 := below_chg bb6 c7 bb6.size (fun i hi => F_xa.out i (by unfold locB; exact List.mem_cons_of_mem _ hi))
  replace ka := ka.chg c7 (fun i hi hm => KX_a_xa.out i hi (by unfold locB; exact List.mem_cons_of_mem _ hm))
  replace ow0 := ow0.chg c7 (fun i hi hm => AP_w0_xa.out i hi (by unfold locB; exact List.mem_cons_of_mem _ hm))
  replace og0 := og0.chg c7 (fun i hi hm => (apart_symm AP_xa_g0.out) i hi (by unfold locB; exact List.mem_cons_of_mem _ hm))
  replace kxa := kxa.chg c7 (fun i hi hm => by simp at hi; subst hi; exact Nxa.out (by simpa using hm))
  have mkxa := mmxa
  clear mmxa
  have hk : decide (((1 + szS a) : Int) < 0) = false := decide_eq_false (by omega)
  have og0_c0 := og0.here.1.cell 0 _ rfl
  have og0_c1 := og0.here.1.cell 1 _ rfl
  have ow0_c0 := ow0.here.1.cell 0 _ rfl
  have ow0_c1 := ow0.here.1.cell 1 _ rfl
  go_wp2_with fail
  clear og0_c0 og0_c1 ow0_c0 ow0_c1
  refine (eqSigned_at _ _ R0 R0 _ (by omega) (OwnS.rd ⟨_, rfl, og0.here.2⟩) (OwnS.rd ⟨_, rfl, ow0.here.2⟩)).mono ?_
  rintro e w8 ⟨rfl, b8⟩
  rw [decide_refl]
  have bb8 := Below.next bb7 b8
  replace ka := ka.below b8
  replace ow0 := ow0.below b8
  replace og0 := og0.below b8
  replace kxa := kxa.below b8
  replace mkxa := mkxa.below b8
  clear hk
  have kg0 := box_at og0.here.1
  have mg0 := own_at' og0.here.2
  have Ng0 := Lib.hid (Lib.ownBlock_ne og0.here.2 og0.here.1 (by decide))
  clear og0
  have kg0_c0 := kg0.here.cell 0 _ rfl
  have kg0_c1 := kg0.here.cell 1 _ rfl
  go_wp2_with fail
  clear kg0_c0 kg0_c1
  refine (markSigned_at _ R0 _ (1) _ (by omega) (by omega) (mg0.imp fun _ h => OwnS.mk (x := R0) h)).mono ?_
  rintro e w9 ⟨rfl, mmg0, c9⟩
  clear mg0
  have bb9 := below_chg bb8 c9 bb8.size (fun i hi => F_g0.out i (by unfold locB; exact List.mem_cons_of_mem _ hi))
  replace ka := ka.chg c9 (fun i hi hm => KX_a_g0.out i hi (by unfold locB; exact List.mem_cons_of_mem _ hm))
  replace ow0 := ow0.chg c9 (fun i hi hm => AP_w0_g0.out i hi (by unfold locB; exact List.mem_cons_of_mem _ hm))
  replace kxa := kxa.chg c9 (fun i hi hm => AP_xa_g0.out i (by unfold locB; simp at hi; subst hi; exact List.mem_cons_self ..) (by unfold locB; exact List.mem_cons_of_mem _ hm))
  replace mkxa := mkxa.chg c9 (fun i hi hm => AP_xa_g0.out i (by unfold locB; exact List.mem_cons_of_mem _ hi) (by unfold locB; exact List.mem_cons_of_mem _ hm))
  replace kg0 := kg0.chg c9 (fun i hi hm => by simp at hi; subst hi; exact Ng0.out (by simpa using hm))
  have mkg0 := mmg0
  clear mmg0
  have kg0_c0 := kg0.here.cell 0 _ rfl
  have kg0_c1 := kg0.here.cell 1 _ rfl
  go_wp2_with fail
  clear kg0_c0 kg0_c1
  refine (heldSigned_at _ R0 (1) _ (by omega) (by omega) mkg0.here).mono ?_
  rintro e w10 ⟨rfl, b10⟩
  have bb10 := Below.next bb9 b10
  replace ka := ka.below b10
  replace ow0 := ow0.below b10
  replace kxa := kxa.below b10
  replace mkxa := mkxa.below b10
  replace kg0 := kg0.below b10
  replace mkg0 := mkg0.below b10
  have hq10 : decide ((1 : Int) + szS R0 < 0) = false := decide_eq_false (by omega)
  have ka_c0 := ka.here.cell 0 _ rfl
  have ka_c1 := ka.here.cell 1 _ rfl
  go_upto_region 24 with fail
  go_cut [10] (fun s wx => NewLoc R0 w10 s wx)
  case first =>
    go_wp2_with fail
    refine (toSigned_at _ a _ hla (RFa.out _ bb10)).mono ?_
    rintro e wt ⟨ut, rfl, ot, bt⟩
    obtain ⟨At_, ct, rfl⟩ := own_len ot
    go_wp2_with fail
    refine (HI.out _ _ ⟨_, rfl, own_zero ot⟩).mono ?_
    rintro e wf ⟨uf, rfl, of, bf⟩
    obtain ⟨Af, cf, rfl⟩ := own_len of
    have bwf := Below.next bt bf
    go_wp2_with fail
    go_meet
    exact newLoc_last of bt.size bwf
  rename World => w11
  clear ka_c0 ka_c1
  obtain ⟨gh0, uh0, rfl, oh0, lh0, b11⟩ := hcut
  obtain ⟨Ah0, ch0, eh0⟩ := own_len oh0.here.2
  subst eh0
  have bb11 := Below.next bb10 b11
  replace ka := ka.below b11
  replace ow0 := ow0.below b11
  replace kxa := kxa.below b11
  replace mkxa := mkxa.below b11
  replace kg0 := kg0.below b11
  replace mkg0 := mkg0.below b11
  have oh0_c0 := oh0.here.1.cell 0 _ rfl
  have oh0_c1 := oh0.here.1.cell 1 _ rfl
  have ow0_c0 := ow0.here.1.cell 0 _ rfl
  have ow0_c1 := ow0.here.1.cell 1 _ rfl
  go_wp2_with fail
  clear oh0_c0 oh0_c1 ow0_c0 ow0_c1
  refine (eqSigned_at _ _ R0 R0 _ (by omega) (OwnS.rd ⟨_, rfl, oh0.here.2⟩) (OwnS.rd ⟨_, rfl, ow0.here.2⟩)).mono ?_
  rintro e w12 ⟨rfl, b12⟩
  rw [decide_refl]
  have bb12 := Below.next bb11 b12
  replace ka := ka.below b12
  replace ow0 := ow0.below b12
  replace kxa := kxa.below b12
  replace mkxa := mkxa.below b12
  replace kg0 := kg0.below b12
  replace mkg0 := mkg0.below b12
  replace oh0 := oh0.below b12
  have kg0_c0 := kg0.here.cell 0 _ rfl
  have kg0_c1 := kg0.here.cell 1 _ rfl
  go_wp2_with fail
  clear kg0_c0 kg0_c1
  refine (heldSigned_at _ R0 (1) _ (by omega) (by omega) mkg0.here).mono ?_
  rintro e w13 ⟨rfl, b13⟩
  have bb13 := Below.next bb12 b13
  replace ka := ka.below b13
  replace ow0 := ow0.below b13
  replace kxa := kxa.below b13
  replace mkxa := mkxa.below b13
  replace kg0 := kg0.below b13
  replace mkg0 := mkg0.below b13
  replace oh0 := oh0.below b13
  have hq13 : decide ((1 : Int) + szS R0 < 0) = false := decide_eq_false (by omega)
  go_wp2
  go_ret
  exact ⟨rfl, bb13⟩

set_option maxHeartbeats 4000000 in
set_option maxRecDepth 100000 in
theorem lawIntAbs_walk (va : Value) (a : SI) (R0 : SI) (w : World)
    (hS : ∀ (ua : Value) (W : World), OwnS ua a W → Calls Try.prog 27 #[ua] W (NewS R0 W))
    (hI : ∀ (ua : Value) (W : World), OwnS ua a W → Calls Try.prog 28 #[ua] W (NewS R0 W))
    (hl : szS a ≤ 1048576) (hlR0 : szS R0 ≤ 1048576) (ra : RdS w va a) :
    Calls Try.prog 7 #[va] w fun e w' => e = .returned (.bool true) ∧ Below w.heap.size w w' := by
  have HS := Lib.hid hS
  have HI := Lib.hid hI
  clear hS hI
  have hsa : 0 ≤ szS a := by unfold szS szI; omega
  have hsR0 : 0 ≤ szS R0 := by unfold szS szI; omega
  obtain ⟨ua, rfl, qa⟩ := ra
  obtain ⟨Aa, ca, rfl⟩ := row_form qa
  rw [intsV_length] at qa
  have hla : a.2.length ≤ 1048576 := by unfold szS szI at hl; omega
  have hlen0 : R0.2.length ≤ 1048576 := by unfold szS szI at hlR0; omega
  rw [intsV_length]
  have bb0 : Below w.heap.size w (w.alloc (.cells #[.bool a.1, .slice Aa a.2.length ca] 24)) := below_al (Below.refl _ _) _
  have ka := box_new w #[.bool a.1, .slice Aa a.2.length ca] 24
  have RFa : Hid (∀ W, Below w.heap.size w W → RdS W (.agg #[.bool a.1, .slice Aa a.2.length ca]) a) := Lib.hid fun W hb => rdS_below qa hb
  go_enter Try.func7, Try.ntmps7
  have ka_c0 := ka.here.cell 0 _ rfl
  have ka_c1 := ka.here.cell 1 _ rfl
  go_wp2_with fail
  clear ka_c0 ka_c1
  refine (szSigned_at _ a (1048576) _ (by omega) (by omega) (by omega) (RFa.out _ bb0)).mono ?_
  rintro e w1 ⟨rfl, b1⟩
  rw [leftI_of (by omega)]
  have bb1 := Below.next bb0 b1
  replace ka := ka.below b1
  have hn : decide (((1048576 : Int) - szS a : Int) < 0) = false := decide_eq_false (by omega)
  have HKa := Lib.hid (ka.lt (w.heap.size) (by simp))
  have ka_c0 := ka.here.cell 0 _ rfl
  have ka_c1 := ka.here.cell 1 _ rfl
  go_upto_region 5 with fail
  go_cut [4] (fun s wx => NewLoc R0 w1 s wx)
  case first =>
    go_wp2_with fail
    refine (toSigned_at _ a _ hla (RFa.out _ bb1)).mono ?_
    rintro e wt ⟨ut, rfl, ot, bt⟩
    obtain ⟨At_, ct, rfl⟩ := own_len ot
    go_wp2_with fail
    refine (HS.out _ _ ⟨_, rfl, own_zero ot⟩).mono ?_
    rintro e wf ⟨uf, rfl, of, bf⟩
    obtain ⟨Af, cf, rfl⟩ := own_len of
    have bwf := Below.next bt bf
    go_wp2_with fail
    go_meet
    exact newLoc_last of bt.size bwf
  rename World => w2
  clear ka_c0 ka_c1
  obtain ⟨gw0, uw0, rfl, ow0, lw0, b2⟩ := hcut
  obtain ⟨Aw0, cw0, ew0⟩ := own_len ow0.here.2
  subst ew0
  have bb2 := Below.next bb1 b2
  replace ka := ka.below b2
  have ka_c0 := ka.here.cell 0 _ rfl
  have ka_c1 := ka.here.cell 1 _ rfl
  go_upto_region 6 with fail
  go_cut [5] (fun s wx => NewLoc a w2 s wx)
  case first =>
    go_wp2_with fail
    refine (toSigned_at _ a _ hla (RFa.out _ bb2)).mono ?_
    rintro e wt ⟨ut, rfl, ot, bt⟩
    obtain ⟨At_, ct, rfl⟩ := own_len ot
    go_wp2_with fail
    go_meet
    exact newLoc_last ot (Nat.le_refl _) bt
  rename World => w3
  clear ka_c0 ka_c1
  obtain ⟨gxa, uxa, rfl, oxa, lxa, b3⟩ := hcut
  obtain ⟨Axa, cxa, exa⟩ := own_len oxa.here.2
  subst exa
  have bb3 := Below.next bb2 b3
  replace ka := ka.below b3
  replace ow0 := ow0.below b3
  have oxa_c0 := oxa.here.1.cell 0 _ rfl
  have oxa_c1 := oxa.here.1.cell 1 _ rfl
  go_upto_region 7 with fail
  go_cut [6] (fun s wx => NewLoc R0 w3 s wx)
  case first =>
    go_wp2_with fail
    refine (HI.out _ _ ⟨_, rfl, oxa.here.2⟩).mono ?_
    rintro e wf ⟨uf, rfl, of, bf⟩
    obtain ⟨Af, cf, rfl⟩ := own_len of
    go_wp2_with fail
    go_meet
    exact newLoc_last of (Nat.le_refl _) bf
  rename World => w4
  clear oxa_c0 oxa_c1
  obtain ⟨gg0, ug0, rfl, og0, lg0, b4⟩ := hcut
  obtain ⟨Ag0, cg0, eg0⟩ := own_len og0.here.2
  subst eg0
  have bb4 := Below.next bb3 b4
  replace ka := ka.below b4
  replace ow0 := ow0.below b4
  replace oxa := oxa.below b4
  have og0_c0 := og0.here.1.cell 0 _ rfl
  have og0_c1 := og0.here.1.cell 1 _ rfl
  have ow0_c0 := ow0.here.1.cell 0 _ rfl
  have ow0_c1 := ow0.here.1.cell 1 _ rfl
  go_wp2_with fail
  clear og0_c0 og0_c1 ow0_c0 ow0_c1
  refine (eqSigned_at _ _ R0 R0 _ (by omega) (OwnS.rd ⟨_, rfl, og0.here.2⟩) (OwnS.rd ⟨_, rfl, ow0.here.2⟩)).mono ?_
  rintro e w5 ⟨rfl, b5⟩
  rw [decide_refl]
  have bb5 := Below.next bb4 b5
  replace ka := ka.below b5
  replace ow0 := ow0.below b5
  replace oxa := oxa.below b5
  replace og0 := og0.below b5
  have ka_c0 := ka.here.cell 0 _ rfl
  have ka_c1 := ka.here.cell 1 _ rfl
  have oxa_c0 := oxa.here.1.cell 0 _ rfl
  have oxa_c1 := oxa.here.1.cell 1 _ rfl
  go_wp2_with fail
  have HB0 := Lib.hid (show Below w5.heap.size w5 w5.drew from (Below.refl _ _).drew)
  have KL := Lib.hid (show ∀ W, Below w5.heap.size w5 W → W.cell? ⟨w.heap.size, 0, none⟩ = some (.bool a.1) ∧ W.cell? ⟨w.heap.size, 1, none⟩ = some (.slice Aa a.2.length ca) ∧ W.cell? ⟨gxa, 0, none⟩ = some (.bool a.1) ∧ W.cell? ⟨gxa, 1, none⟩ = some (.slice Axa a.2.length cxa) ∧ Hid (Below w5.heap.size w5 W) from
    fun W hb => ⟨(ka.below hb).here.cell 0 _ rfl, (ka.below hb).here.cell 1 _ rfl, (oxa.below hb).here.1.cell 0 _ rfl, (oxa.below hb).here.1.cell 1 _ rfl, Lib.hid hb⟩)
  have BBF := Lib.hid (show ∀ W, Below w5.heap.size w5 W → Below w.heap.size w W from fun W hb => Below.next bb5 hb)
  have OXF := Lib.hid (show ∀ W, Below w5.heap.size w5 W → OwnI _ a.2 W from fun W hb => (oxa.below hb).here.2)
  clear ka_c0 ka_c1 oxa_c0 oxa_c1
  go_region_held3 (fun W => W.cell? ⟨w.heap.size, 0, none⟩ = some (.bool a.1) ∧ W.cell? ⟨w.heap.size, 1, none⟩ = some (.slice Aa a.2.length ca) ∧ W.cell? ⟨gxa, 0, none⟩ = some (.bool a.1) ∧ W.cell? ⟨gxa, 1, none⟩ = some (.slice Axa a.2.length cxa) ∧ Hid (Below w5.heap.size w5 W))
    ((refine KL.out _ ?_; (first | exact HBe.out | exact HBt.out | exact HB0.out | fail)))
    (first
      | (go_at_call 16; (have hBB := (‹_ ∧ _ ∧ _ ∧ _ ∧ Hid (Below w5.heap.size w5 _)›).2.2.2.2); (with_reducible refine (toSigned_at _ a _ hla (RFa.out _ (BBF.out _ hBB.out))).mono ?_); rintro e wt ⟨t, rfl, ot, bt⟩; have HBt := Lib.hid (Below.next hBB.out bt); clear hBB)
      | (go_at_call 18; (have hBB := (‹_ ∧ _ ∧ _ ∧ _ ∧ Hid (Below w5.heap.size w5 _)›).2.2.2.2); (with_reducible refine (eqSigned_at _ _ a a _ (by omega) (OwnS.rd (OwnS.mk (x := a) (OXF.out _ hBB.out))) (OwnS.rd (OwnS.mk (x := a) (ownI_of ot)))).mono ?_); rintro e w6 ⟨rfl, be⟩; rw [decide_refl]; have HBe := Lib.hid (Below.next hBB.out be); clear hBB))
  have b6 := HBe.out
  have bb6 := Below.next bb5 b6
  replace ka := ka.below b6
  replace ow0 := ow0.below b6
  replace oxa := oxa.below b6
  replace og0 := og0.below b6
  clear HB0 KL BBF OXF HBt HBe ot
  have z1 := b1.size
  have z2 := b2.size
  have z3 := b3.size
  have z4 := b4.size
  have z5 := b5.size
  have z6 := b6.size
  have AP_xa_g0 := Lib.hid (Within.apart lxa lg0 (.inl (by omega)))
  have AP_w0_xa := Lib.hid (Within.apart lw0 lxa (.inl (by omega)))
  have AP_w0_g0 := Lib.hid (Within.apart lw0 lg0 (.inl (by omega)))
  have F_xa := Lib.hid (Within.from (B := w.heap.size) lxa (by have := bb1.size; omega))
  have KX_a_xa := Lib.hid (show ∀ i ∈ [w.heap.size], i ∉ locB gxa (.slice Axa a.2.length cxa) from fun i hi hm => by have h1 := (lxa i hm).1; have h2 := HKa.out; simp at hi; omega)
  have F_g0 := Lib.hid (Within.from (B := w.heap.size) lg0 (by have := bb1.size; omega))
  have KX_a_g0 := Lib.hid (show ∀ i ∈ [w.heap.size], i ∉ locB gg0 (.slice Ag0 R0.2.length cg0) from fun i hi hm => by have h1 := (lg0 i hm).1; have h2 := HKa.out; simp at hi; omega)
  clear z1 z2 z3 z4 z5 z6
  have kxa := box_at oxa.here.1
  have mxa := own_at' oxa.here.2
  have Nxa := Lib.hid (Lib.ownBlock_ne oxa.here.2 oxa.here.1 (by decide))
  clear oxa
  have kxa_c0 := kxa.here.cell 0 _ rfl
  have kxa_c1 := kxa.here.cell 1 _ rfl
  go_wp2_with fail
  clear kxa_c0 kxa_c1
  refine (markSigned_at _ a _ (1) _ (by omega) (by omega) (mxa.imp fun _ h => OwnS.mk (x := a) h)).mono ?_
  rintro e w7 ⟨rfl, mmxa, c7⟩
  clear mxa
  have bb7 := below_chg bb6 c7 bb6.size (fun i hi => F_xa.out i (by unfold locB; exact List.mem_cons_of_mem _ hi))
  replace ka := ka.chg c7 (fun i hi hm => KX_a_xa.out i hi (by unfold locB; exact List.mem_cons_of_mem _ hm))
  replace ow0 := ow0.chg c7 (fun i hi hm => AP_w0_xa.out i hi (by unfold locB; exact List.mem_cons_of_mem _ hm))
  replace og0 := og0.chg c7 (fun i hi hm => (apart_symm AP_xa_g0.out) i hi (by unfold locB; exact List.mem_cons_of_mem _ hm))
  replace kxa := kxa.chg c7 (fun i hi hm => by simp at hi; subst hi; exact Nxa.out (by simpa using hm))
  have mkxa := mmxa
  clear mmxa
  have hk : decide (((1 + szS a) : Int) < 0) = false := decide_eq_false (by omega)
  have og0_c0 := og0.here.1.cell 0 _ rfl
  have og0_c1 := og0.here.1.cell 1 _ rfl
  have ow0_c0 := ow0.here.1.cell 0 _ rfl
  have ow0_c1 := ow0.here.1.cell 1 _ rfl
  go_wp2_with fail
  clear og0_c0 og0_c1 ow0_c0 ow0_c1
  refine (eqSigned_at _ _ R0 R0 _ (by omega) (OwnS.rd ⟨_, rfl, og0.here.2⟩) (OwnS.rd ⟨_, rfl, ow0.here.2⟩)).mono ?_
  rintro e w8 ⟨rfl, b8⟩
  rw [decide_refl]
  have bb8 := Below.next bb7 b8
  replace ka := ka.below b8
  replace ow0 := ow0.below b8
  replace og0 := og0.below b8
  replace kxa := kxa.below b8
  replace mkxa := mkxa.below b8
  clear hk
  have kg0 := box_at og0.here.1
  have mg0 := own_at' og0.here.2
  have Ng0 := Lib.hid (Lib.ownBlock_ne og0.here.2 og0.here.1 (by decide))
  clear og0
  have kg0_c0 := kg0.here.cell 0 _ rfl
  have kg0_c1 := kg0.here.cell 1 _ rfl
  go_wp2_with fail
  clear kg0_c0 kg0_c1
  refine (markSigned_at _ R0 _ (1) _ (by omega) (by omega) (mg0.imp fun _ h => OwnS.mk (x := R0) h)).mono ?_
  rintro e w9 ⟨rfl, mmg0, c9⟩
  clear mg0
  have bb9 := below_chg bb8 c9 bb8.size (fun i hi => F_g0.out i (by unfold locB; exact List.mem_cons_of_mem _ hi))
  replace ka := ka.chg c9 (fun i hi hm => KX_a_g0.out i hi (by unfold locB; exact List.mem_cons_of_mem _ hm))
  replace ow0 := ow0.chg c9 (fun i hi hm => AP_w0_g0.out i hi (by unfold locB; exact List.mem_cons_of_mem _ hm))
  replace kxa := kxa.chg c9 (fun i hi hm => AP_xa_g0.out i (by unfold locB; simp at hi; subst hi; exact List.mem_cons_self ..) (by unfold locB; exact List.mem_cons_of_mem _ hm))
  replace mkxa := mkxa.chg c9 (fun i hi hm => AP_xa_g0.out i (by unfold locB; exact List.mem_cons_of_mem _ hi) (by unfold locB; exact List.mem_cons_of_mem _ hm))
  replace kg0 := kg0.chg c9 (fun i hi hm => by simp at hi; subst hi; exact Ng0.out (by simpa using hm))
  have mkg0 := mmg0
  clear mmg0
  have kg0_c0 := kg0.here.cell 0 _ rfl
  have kg0_c1 := kg0.here.cell 1 _ rfl
  go_wp2_with fail
  clear kg0_c0 kg0_c1
  refine (heldSigned_at _ R0 (1) _ (by omega) (by omega) mkg0.here).mono ?_
  rintro e w10 ⟨rfl, b10⟩
  have bb10 := Below.next bb9 b10
  replace ka := ka.below b10
  replace ow0 := ow0.below b10
  replace kxa := kxa.below b10
  replace mkxa := mkxa.below b10
  replace kg0 := kg0.below b10
  replace mkg0 := mkg0.below b10
  have hq10 : decide ((1 : Int) + szS R0 < 0) = false := decide_eq_false (by omega)
  have ka_c0 := ka.here.cell 0 _ rfl
  have ka_c1 := ka.here.cell 1 _ rfl
  go_upto_region 24 with fail
  go_cut [10] (fun s wx => NewLoc R0 w10 s wx)
  case first =>
    go_wp2_with fail
    refine (toSigned_at _ a _ hla (RFa.out _ bb10)).mono ?_
    rintro e wt ⟨ut, rfl, ot, bt⟩
    obtain ⟨At_, ct, rfl⟩ := own_len ot
    go_wp2_with fail
    refine (HI.out _ _ ⟨_, rfl, own_zero ot⟩).mono ?_
    rintro e wf ⟨uf, rfl, of, bf⟩
    obtain ⟨Af, cf, rfl⟩ := own_len of
    have bwf := Below.next bt bf
    go_wp2_with fail
    go_meet
    exact newLoc_last of bt.size bwf
  rename World => w11
  clear ka_c0 ka_c1
  obtain ⟨gh0, uh0, rfl, oh0, lh0, b11⟩ := hcut
  obtain ⟨Ah0, ch0, eh0⟩ := own_len oh0.here.2
  subst eh0
  have bb11 := Below.next bb10 b11
  replace ka := ka.below b11
  replace ow0 := ow0.below b11
  replace kxa := kxa.below b11
  replace mkxa := mkxa.below b11
  replace kg0 := kg0.below b11
  replace mkg0 := mkg0.below b11
  have oh0_c0 := oh0.here.1.cell 0 _ rfl
  have oh0_c1 := oh0.here.1.cell 1 _ rfl
  have ow0_c0 := ow0.here.1.cell 0 _ rfl
  have ow0_c1 := ow0.here.1.cell 1 _ rfl
  go_wp2_with fail
  clear oh0_c0 oh0_c1 ow0_c0 ow0_c1
  refine (eqSigned_at _ _ R0 R0 _ (by omega) (OwnS.rd ⟨_, rfl, oh0.here.2⟩) (OwnS.rd ⟨_, rfl, ow0.here.2⟩)).mono ?_
  rintro e w12 ⟨rfl, b12⟩
  rw [decide_refl]
  have bb12 := Below.next bb11 b12
  replace ka := ka.below b12
  replace ow0 := ow0.below b12
  replace kxa := kxa.below b12
  replace mkxa := mkxa.below b12
  replace kg0 := kg0.below b12
  replace mkg0 := mkg0.below b12
  replace oh0 := oh0.below b12
  have kg0_c0 := kg0.here.cell 0 _ rfl
  have kg0_c1 := kg0.here.cell 1 _ rfl
  go_wp2_with fail
  clear kg0_c0 kg0_c1
  refine (heldSigned_at _ R0 (1) _ (by omega) (by omega) mkg0.here).mono ?_
  rintro e w13 ⟨rfl, b13⟩
  have bb13 := Below.next bb12 b13
  replace ka := ka.below b13
  replace ow0 := ow0.below b13
  replace kxa := kxa.below b13
  replace mkxa := mkxa.below b13
  replace kg0 := kg0.below b13
  replace mkg0 := mkg0.below b13
  replace oh0 := oh0.below b13
  have hq13 : decide ((1 : Int) + szS R0 < 0) = false := decide_eq_false (by omega)
  go_wp2
  go_ret
  exact ⟨rfl, bb13⟩

set_option maxHeartbeats 4000000 in
set_option maxRecDepth 100000 in
theorem lawIntAdd_walk (va : Value) (vb : Value) (a : SI) (b : SI) (R0 : SI) (w : World)
    (hS : ∀ (ua : Value) (ub : Value) (W : World), OwnS ua a W → OwnS ub b W → Calls Try.prog 29 #[ua, ub] W (NewS R0 W))
    (hI : ∀ (ua : Value) (ub : Value) (W : World), OwnS ua a W → OwnS ub b W → Calls Try.prog 30 #[ua, ub] W (NewS R0 W))
    (hl : szS a + szS b ≤ 1048576) (hlR0 : szS R0 ≤ 1048576) (ra : RdS w va a) (rb : RdS w vb b) :
    Calls Try.prog 8 #[va, vb] w fun e w' => e = .returned (.bool true) ∧ Below w.heap.size w w' := by
  have HS := Lib.hid hS
  have HI := Lib.hid hI
  clear hS hI
  have hsa : 0 ≤ szS a := by unfold szS szI; omega
  have hsb : 0 ≤ szS b := by unfold szS szI; omega
  have hsR0 : 0 ≤ szS R0 := by unfold szS szI; omega
  obtain ⟨ua, rfl, qa⟩ := ra
  obtain ⟨Aa, ca, rfl⟩ := row_form qa
  rw [intsV_length] at qa
  have hla : a.2.length ≤ 1048576 := by unfold szS szI at hl hsb; omega
  obtain ⟨ub, rfl, qb⟩ := rb
  obtain ⟨Ab, cb, rfl⟩ := row_form qb
  rw [intsV_length] at qb
  have hlb : b.2.length ≤ 1048576 := by unfold szS szI at hl hsa; omega
  have hlen0 : R0.2.length ≤ 1048576 := by unfold szS szI at hlR0; omega
  rw [intsV_length]
  rw [intsV_length]
  have bb0 : Below w.heap.size w ((w.alloc (.cells #[.bool a.1, .slice Aa a.2.length ca] 24)).alloc (.cells #[.bool b.1, .slice Ab b.2.length cb] 24)) := below_al (below_al (Below.refl _ _) _) _
  have ka := (box_new w #[.bool a.1, .slice Aa a.2.length ca] 24).below (below_al (Below.refl _ _) (.cells #[.bool b.1, .slice Ab b.2.length cb] 24))
  have kb := box_new (w.alloc (.cells #[.bool a.1, .slice Aa a.2.length ca] 24)) #[.bool b.1, .slice Ab b.2.length cb] 24
  rw [show (w.alloc (.cells #[.bool a.1, .slice Aa a.2.length ca] 24)).heap.size = w.heap.size + 1 by simp] at kb
  have RFa : Hid (∀ W, Below w.heap.size w W → RdS W (.agg #[.bool a.1, .slice Aa a.2.length ca]) a) := Lib.hid fun W hb => rdS_below qa hb
  have RFb : Hid (∀ W, Below w.heap.size w W → RdS W (.agg #[.bool b.1, .slice Ab b.2.length cb]) b) := Lib.hid fun W hb => rdS_below qb hb
  go_enter Try.func8, Try.ntmps8
  have ka_c0 := ka.here.cell 0 _ rfl
  have ka_c1 := ka.here.cell 1 _ rfl
  go_wp2_with fail
  clear ka_c0 ka_c1
  refine (szSigned_at _ a (1048576) _ (by omega) (by omega) (by omega) (RFa.out _ bb0)).mono ?_
  rintro e w1 ⟨rfl, b1⟩
  rw [leftI_of (by omega)]
  have bb1 := Below.next bb0 b1
  replace ka := ka.below b1
  replace kb := kb.below b1
  have hn : decide (((1048576 : Int) - szS a : Int) < 0) = false := decide_eq_false (by omega)
  have kb_c0 := kb.here.cell 0 _ rfl
  have kb_c1 := kb.here.cell 1 _ rfl
  go_wp2_with fail
  clear kb_c0 kb_c1
  refine (szSigned_at _ b (1048576 - szS a) _ (by omega) (by omega) (by omega) (RFb.out _ bb1)).mono ?_
  rintro e w2 ⟨rfl, b2⟩
  rw [leftI_of (by omega)]
  have bb2 := Below.next bb1 b2
  replace ka := ka.below b2
  replace kb := kb.below b2
  clear hn
  have hn : decide (((1048576 : Int) - szS a - szS b : Int) < 0) = false := decide_eq_false (by omega)
  have HKa := Lib.hid (ka.lt (w.heap.size) (by simp))
  have HKb := Lib.hid (kb.lt (w.heap.size + 1) (by simp))
  have ka_c0 := ka.here.cell 0 _ rfl
  have ka_c1 := ka.here.cell 1 _ rfl
  have kb_c0 := kb.here.cell 0 _ rfl
  have kb_c1 := kb.here.cell 1 _ rfl
  go_upto_region 8 with fail
  go_cut [6] (fun s wx => NewLoc R0 w2 s wx)
  case first =>
    have HB0 := Lib.hid (show Below w2.heap.size w2 w2.drew from (Below.refl _ _).drew)
    have KL := Lib.hid (show ∀ W, Below w2.heap.size w2 W → W.cell? ⟨w.heap.size, 0, none⟩ = some (.bool a.1) ∧ W.cell? ⟨w.heap.size, 1, none⟩ = some (.slice Aa a.2.length ca) ∧ W.cell? ⟨w.heap.size + 1, 0, none⟩ = some (.bool b.1) ∧ W.cell? ⟨w.heap.size + 1, 1, none⟩ = some (.slice Ab b.2.length cb) ∧ Hid (Below w2.heap.size w2 W) from
      fun W hb => ⟨(ka.below hb).here.cell 0 _ rfl, (ka.below hb).here.cell 1 _ rfl, (kb.below hb).here.cell 0 _ rfl, (kb.below hb).here.cell 1 _ rfl, Lib.hid hb⟩)
    have BBF := Lib.hid (show ∀ W, Below w2.heap.size w2 W → Below w.heap.size w W from fun W hb => Below.next bb2 hb)
    clear ka_c0 ka_c1 kb_c0 kb_c1
    go_region_held3 (fun W => W.cell? ⟨w.heap.size, 0, none⟩ = some (.bool a.1) ∧ W.cell? ⟨w.heap.size, 1, none⟩ = some (.slice Aa a.2.length ca) ∧ W.cell? ⟨w.heap.size + 1, 0, none⟩ = some (.bool b.1) ∧ W.cell? ⟨w.heap.size + 1, 1, none⟩ = some (.slice Ab b.2.length cb) ∧ Hid (Below w2.heap.size w2 W))
      ((refine KL.out _ ?_; (first | exact HBf.out | exact HBtb.out | exact HBta.out | exact HB0.out | exact below_al HBf.out _ | exact below_al HBtb.out _ | exact below_al HBta.out _ | exact below_al HB0.out _ | exact below_set2 HBf.out (by first | exact HBtb.out.size | exact HBta.out.size | exact HB0.out.size) | fail)))
      (first
        | (go_at_call 16; (have hBB := (‹_ ∧ _ ∧ _ ∧ _ ∧ Hid (Below w2.heap.size w2 _)›).2.2.2.2); (with_reducible refine (toSigned_at _ a _ hla (RFa.out _ (BBF.out _ hBB.out))).mono ?_); rintro e wta ⟨ta, rfl, ota_, bta⟩; have HBta := Lib.hid (Below.next hBB.out bta); have ota := own_at' ota_; (try have hbxa : At [w2.heap.size] (BoxAt w2.heap.size #[.bool false, .slice none 0 0] 27) wta := At.below (box_new w2.drew _ _) bta); clear hBB)
        | (go_at_call 16; (have hBB := (‹_ ∧ _ ∧ _ ∧ _ ∧ Hid (Below w2.heap.size w2 _)›).2.2.2.2); (with_reducible refine (toSigned_at _ b _ hlb (RFb.out _ (BBF.out _ hBB.out))).mono ?_); rintro e wtb ⟨tb, rfl, otb_, btb⟩; have HBtb := Lib.hid (Below.next hBB.out btb); have otb := own_at' otb_; (have otab := At.below (by first | exact ota | exact At.below ota (below_al (Below.refl _ _) _)) btb); (first | have hbxb := At.below (box_new _ _ _) btb | have hbxb := At.below hbxa btb | skip); clear hBB)
        | (go_at_call 29; (have hBB := (‹_ ∧ _ ∧ _ ∧ _ ∧ Hid (Below w2.heap.size w2 _)›).2.2.2.2); (with_reducible refine (HS.out _ _ _ (OwnS.mk (x := a) (At.here (by first | exact otab | exact At.below otab (below_al (Below.refl _ _) _)))) (OwnS.mk (x := b) (At.here (by first | exact otb | exact At.below otb (below_al (Below.refl _ _) _))))).mono ?_); rintro e wf ⟨uf, rfl, of, bf⟩; have HBf := Lib.hid (Below.next hBB.out bf); have HBS := Lib.hid hBB.out.size; (first | have hbxf := At.below (box_new _ _ _) bf | have hbxf := At.below hbxb bf | skip); obtain ⟨Af, cf, rfl⟩ := own_len of; (try (have cz0 := hbxf.here.cell 0 _ rfl; have cz1 := hbxf.here.cell 1 _ rfl; have fz0 := Lib.frozen_of_heap hbxf.here 0; have fz1 := Lib.frozen_of_heap hbxf.here 1)); clear hBB))
    all_goals (go_wp2_with fail; go_meet; first | exact newLoc_last of HBS.out HBf.out | exact newLoc_early hbxf.here of HBS.out (by first | exact HBtb.out.size | exact HBta.out.size | exact HB0.out.size) HBf.out)
  rename World => w3
  clear ka_c0 ka_c1 kb_c0 kb_c1
  obtain ⟨gw0, uw0, rfl, ow0, lw0, b3⟩ := hcut
  obtain ⟨Aw0, cw0, ew0⟩ := own_len ow0.here.2
  subst ew0
  have bb3 := Below.next bb2 b3
  replace ka := ka.below b3
  replace kb := kb.below b3
  have ka_c0 := ka.here.cell 0 _ rfl
  have ka_c1 := ka.here.cell 1 _ rfl
  go_upto_region 9 with fail
  go_cut [7] (fun s wx => NewLoc a w3 s wx)
  case first =>
    go_wp2_with fail
    refine (toSigned_at _ a _ hla (RFa.out _ bb3)).mono ?_
    rintro e wt ⟨ut, rfl, ot, bt⟩
    obtain ⟨At_, ct, rfl⟩ := own_len ot
    go_wp2_with fail
    go_meet
    exact newLoc_last ot (Nat.le_refl _) bt
  rename World => w4
  clear ka_c0 ka_c1
  obtain ⟨gxa, uxa, rfl, oxa, lxa, b4⟩ := hcut
  obtain ⟨Axa, cxa, exa⟩ := own_len oxa.here.2
  subst exa
  have bb4 := Below.next bb3 b4
  replace ka := ka.below b4
  replace kb := kb.below b4
  replace ow0 := ow0.below b4
  have kb_c0 := kb.here.cell 0 _ rfl
  have kb_c1 := kb.here.cell 1 _ rfl
  go_upto_region 10 with fail
  go_cut [8] (fun s wx => NewLoc b w4 s wx)
  case first =>
    go_wp2_with fail
    refine (toSigned_at _ b _ hlb (RFb.out _ bb4)).mono ?_
    rintro e wt ⟨ut, rfl, ot, bt⟩
    obtain ⟨At_, ct, rfl⟩ := own_len ot
    go_wp2_with fail
    go_meet
    exact newLoc_last ot (Nat.le_refl _) bt
  rename World => w5
  clear kb_c0 kb_c1
  obtain ⟨gxb, uxb, rfl, oxb, lxb, b5⟩ := hcut
  obtain ⟨Axb, cxb, exb⟩ := own_len oxb.here.2
  subst exb
  have bb5 := Below.next bb4 b5
  replace ka := ka.below b5
  replace kb := kb.below b5
  replace ow0 := ow0.below b5
  replace oxa := oxa.below b5
  have oxa_c0 := oxa.here.1.cell 0 _ rfl
  have oxa_c1 := oxa.here.1.cell 1 _ rfl
  have oxb_c0 := oxb.here.1.cell 0 _ rfl
  have oxb_c1 := oxb.here.1.cell 1 _ rfl
  go_upto_region 11 with fail
  go_cut [9] (fun s wx => NewLoc R0 w5 s wx)
  case first =>
    go_wp2_with fail
    refine (HI.out _ _ _ ⟨_, rfl, oxa.here.2⟩ ⟨_, rfl, oxb.here.2⟩).mono ?_
    rintro e wf ⟨uf, rfl, of, bf⟩
    obtain ⟨Af, cf, rfl⟩ := own_len of
    go_wp2_with fail
    go_meet
    exact newLoc_last of (Nat.le_refl _) bf
  rename World => w6
  clear oxa_c0 oxa_c1 oxb_c0 oxb_c1
  obtain ⟨gg0, ug0, rfl, og0, lg0, b6⟩ := hcut
  obtain ⟨Ag0, cg0, eg0⟩ := own_len og0.here.2
  subst eg0
  have bb6 := Below.next bb5 b6
  replace ka := ka.below b6
  replace kb := kb.below b6
  replace ow0 := ow0.below b6
  replace oxa := oxa.below b6
  replace oxb := oxb.below b6
  have og0_c0 := og0.here.1.cell 0 _ rfl
  have og0_c1 := og0.here.1.cell 1 _ rfl
  have ow0_c0 := ow0.here.1.cell 0 _ rfl
  have ow0_c1 := ow0.here.1.cell 1 _ rfl
  go_wp2_with fail
  clear og0_c0 og0_c1 ow0_c0 ow0_c1
  refine (eqSigned_at _ _ R0 R0 _ (by omega) (OwnS.rd ⟨_, rfl, og0.here.2⟩) (OwnS.rd ⟨_, rfl, ow0.here.2⟩)).mono ?_
  rintro e w7 ⟨rfl, b7⟩
  rw [decide_refl]
  have bb7 := Below.next bb6 b7
  replace ka := ka.below b7
  replace kb := kb.below b7
  replace ow0 := ow0.below b7
  replace oxa := oxa.below b7
  replace oxb := oxb.below b7
  replace og0 := og0.below b7
  have ka_c0 := ka.here.cell 0 _ rfl
  have ka_c1 := ka.here.cell 1 _ rfl
  have oxa_c0 := oxa.here.1.cell 0 _ rfl
  have oxa_c1 := oxa.here.1.cell 1 _ rfl
  go_wp2_with fail
  have HB0 := Lib.hid (show Below w7.heap.size w7 w7.drew from (Below.refl _ _).drew)
  have KL := Lib.hid (show ∀ W, Below w7.heap.size w7 W → W.cell? ⟨w.heap.size, 0, none⟩ = some (.bool a.1) ∧ W.cell? ⟨w.heap.size, 1, none⟩ = some (.slice Aa a.2.length ca) ∧ W.cell? ⟨gxa, 0, none⟩ = some (.bool a.1) ∧ W.cell? ⟨gxa, 1, none⟩ = some (.slice Axa a.2.length cxa) ∧ Hid (Below w7.heap.size w7 W) from
    fun W hb => ⟨(ka.below hb).here.cell 0 _ rfl, (ka.below hb).here.cell 1 _ rfl, (oxa.below hb).here.1.cell 0 _ rfl, (oxa.below hb).here.1.cell 1 _ rfl, Lib.hid hb⟩)
  have BBF := Lib.hid (show ∀ W, Below w7.heap.size w7 W → Below w.heap.size w W from fun W hb => Below.next bb7 hb)
  have OXF := Lib.hid (show ∀ W, Below w7.heap.size w7 W → OwnI _ a.2 W from fun W hb => (oxa.below hb).here.2)
  clear ka_c0 ka_c1 oxa_c0 oxa_c1
  go_region_held3 (fun W => W.cell? ⟨w.heap.size, 0, none⟩ = some (.bool a.1) ∧ W.cell? ⟨w.heap.size, 1, none⟩ = some (.slice Aa a.2.length ca) ∧ W.cell? ⟨gxa, 0, none⟩ = some (.bool a.1) ∧ W.cell? ⟨gxa, 1, none⟩ = some (.slice Axa a.2.length cxa) ∧ Hid (Below w7.heap.size w7 W))
    ((refine KL.out _ ?_; (first | exact HBe.out | exact HBt.out | exact HB0.out | fail)))
    (first
      | (go_at_call 16; (have hBB := (‹_ ∧ _ ∧ _ ∧ _ ∧ Hid (Below w7.heap.size w7 _)›).2.2.2.2); (with_reducible refine (toSigned_at _ a _ hla (RFa.out _ (BBF.out _ hBB.out))).mono ?_); rintro e wt ⟨t, rfl, ot, bt⟩; have HBt := Lib.hid (Below.next hBB.out bt); clear hBB)
      | (go_at_call 18; (have hBB := (‹_ ∧ _ ∧ _ ∧ _ ∧ Hid (Below w7.heap.size w7 _)›).2.2.2.2); (with_reducible refine (eqSigned_at _ _ a a _ (by omega) (OwnS.rd (OwnS.mk (x := a) (OXF.out _ hBB.out))) (OwnS.rd (OwnS.mk (x := a) (ownI_of ot)))).mono ?_); rintro e w8 ⟨rfl, be⟩; rw [decide_refl]; have HBe := Lib.hid (Below.next hBB.out be); clear hBB))
  have b8 := HBe.out
  have bb8 := Below.next bb7 b8
  replace ka := ka.below b8
  replace kb := kb.below b8
  replace ow0 := ow0.below b8
  replace oxa := oxa.below b8
  replace oxb := oxb.below b8
  replace og0 := og0.below b8
  clear HB0 KL BBF OXF HBt HBe ot
  have kb_c0 := kb.here.cell 0 _ rfl
  have kb_c1 := kb.here.cell 1 _ rfl
  have oxb_c0 := oxb.here.1.cell 0 _ rfl
  have oxb_c1 := oxb.here.1.cell 1 _ rfl
  go_wp2_with fail
  have HB0 := Lib.hid (show Below w8.heap.size w8 w8.drew from (Below.refl _ _).drew)
  have KL := Lib.hid (show ∀ W, Below w8.heap.size w8 W → W.cell? ⟨w.heap.size + 1, 0, none⟩ = some (.bool b.1) ∧ W.cell? ⟨w.heap.size + 1, 1, none⟩ = some (.slice Ab b.2.length cb) ∧ W.cell? ⟨gxb, 0, none⟩ = some (.bool b.1) ∧ W.cell? ⟨gxb, 1, none⟩ = some (.slice Axb b.2.length cxb) ∧ Hid (Below w8.heap.size w8 W) from
    fun W hb => ⟨(kb.below hb).here.cell 0 _ rfl, (kb.below hb).here.cell 1 _ rfl, (oxb.below hb).here.1.cell 0 _ rfl, (oxb.below hb).here.1.cell 1 _ rfl, Lib.hid hb⟩)
  have BBF := Lib.hid (show ∀ W, Below w8.heap.size w8 W → Below w.heap.size w W from fun W hb => Below.next bb8 hb)
  have OXF := Lib.hid (show ∀ W, Below w8.heap.size w8 W → OwnI _ b.2 W from fun W hb => (oxb.below hb).here.2)
  clear kb_c0 kb_c1 oxb_c0 oxb_c1
  go_region_held3 (fun W => W.cell? ⟨w.heap.size + 1, 0, none⟩ = some (.bool b.1) ∧ W.cell? ⟨w.heap.size + 1, 1, none⟩ = some (.slice Ab b.2.length cb) ∧ W.cell? ⟨gxb, 0, none⟩ = some (.bool b.1) ∧ W.cell? ⟨gxb, 1, none⟩ = some (.slice Axb b.2.length cxb) ∧ Hid (Below w8.heap.size w8 W))
    ((refine KL.out _ ?_; (first | exact HBe.out | exact HBt.out | exact HB0.out | fail)))
    (first
      | (go_at_call 16; (have hBB := (‹_ ∧ _ ∧ _ ∧ _ ∧ Hid (Below w8.heap.size w8 _)›).2.2.2.2); (with_reducible refine (toSigned_at _ b _ hlb (RFb.out _ (BBF.out _ hBB.out))).mono ?_); rintro e wt ⟨t, rfl, ot, bt⟩; have HBt := Lib.hid (Below.next hBB.out bt); clear hBB)
      | (go_at_call 18; (have hBB := (‹_ ∧ _ ∧ _ ∧ _ ∧ Hid (Below w8.heap.size w8 _)›).2.2.2.2); (with_reducible refine (eqSigned_at _ _ b b _ (by omega) (OwnS.rd (OwnS.mk (x := b) (OXF.out _ hBB.out))) (OwnS.rd (OwnS.mk (x := b) (ownI_of ot)))).mono ?_); rintro e w9 ⟨rfl, be⟩; rw [decide_refl]; have HBe := Lib.hid (Below.next hBB.out be); clear hBB))
  have b9 := HBe.out
  have bb9 := Below.next bb8 b9
  replace ka := ka.below b9
  replace kb := kb.below b9
  replace ow0 := ow0.below b9
  replace oxa := oxa.below b9
  replace oxb := oxb.below b9
  replace og0 := og0.below b9
  clear HB0 KL BBF OXF HBt HBe ot
  have z1 := b1.size
  have z2 := b2.size
  have z3 := b3.size
  have z4 := b4.size
  have z5 := b5.size
  have z6 := b6.size
  have z7 := b7.size
  have z8 := b8.size
  have z9 := b9.size
  have AP_xa_xb := Lib.hid (Within.apart lxa lxb (.inl (by omega)))
  have AP_xa_g0 := Lib.hid (Within.apart lxa lg0 (.inl (by omega)))
  have AP_xb_g0 := Lib.hid (Within.apart lxb lg0 (.inl (by omega)))
  have AP_w0_xa := Lib.hid (Within.apart lw0 lxa (.inl (by omega)))
  have AP_w0_xb := Lib.hid (Within.apart lw0 lxb (.inl (by omega)))
  have AP_w0_g0 := Lib.hid (Within.apart lw0 lg0 (.inl (by omega)))
  have F_xa := Lib.hid (Within.from (B := w.heap.size) lxa (by have := bb2.size; omega))
  have KX_a_xa := Lib.hid (show ∀ i ∈ [w.heap.size], i ∉ locB gxa (.slice Axa a.2.length cxa) from fun i hi hm => by have h1 := (lxa i hm).1; have h2 := HKa.out; simp at hi; omega)
  have KX_b_xa := Lib.hid (show ∀ i ∈ [w.heap.size + 1], i ∉ locB gxa (.slice Axa a.2.length cxa) from fun i hi hm => by have h1 := (lxa i hm).1; have h2 := HKb.out; simp at hi; omega)
  have F_xb := Lib.hid (Within.from (B := w.heap.size) lxb (by have := bb2.size; omega))
  have KX_a_xb := Lib.hid (show ∀ i ∈ [w.heap.size], i ∉ locB gxb (.slice Axb b.2.length cxb) from fun i hi hm => by have h1 := (lxb i hm).1; have h2 := HKa.out; simp at hi; omega)
  have KX_b_xb := Lib.hid (show ∀ i ∈ [w.heap.size + 1], i ∉ locB gxb (.slice Axb b.2.length cxb) from fun i hi hm => by have h1 := (lxb i hm).1; have h2 := HKb.out; simp at hi; omega)
  have F_g0 := Lib.hid (Within.from (B := w.heap.size) lg0 (by have := bb2.size; omega))
  have KX_a_g0 := Lib.hid (show ∀ i ∈ [w.heap.size], i ∉ locB gg0 (.slice Ag0 R0.2.length cg0) from fun i hi hm => by have h1 := (lg0 i hm).1; have h2 := HKa.out; simp at hi; omega)
  have KX_b_g0 := Lib.hid (show ∀ i ∈ [w.heap.size + 1], i ∉ locB gg0 (.slice Ag0 R0.2.length cg0) from fun i hi hm => by have h1 := (lg0 i hm).1; have h2 := HKb.out; simp at hi; omega)
  clear z1 z2 z3 z4 z5 z6 z7 z8 z9
  have kxa := box_at oxa.here.1
  have mxa := own_at' oxa.here.2
  have Nxa := Lib.hid (Lib.ownBlock_ne oxa.here.2 oxa.here.1 (by decide))
  clear oxa
  have kxa_c0 := kxa.here.cell 0 _ rfl
  have kxa_c1 := kxa.here.cell 1 _ rfl
  go_wp2_with fail
  clear kxa_c0 kxa_c1
  refine (markSigned_at _ a _ (1) _ (by omega) (by omega) (mxa.imp fun _ h => OwnS.mk (x := a) h)).mono ?_
  rintro e w10 ⟨rfl, mmxa, c10⟩
  clear mxa
  have bb10 := below_chg bb9 c10 bb9.size (fun i hi => F_xa.out i (by unfold locB; exact List.mem_cons_of_mem _ hi))
  replace ka := ka.chg c10 (fun i hi hm => KX_a_xa.out i hi (by unfold locB; exact List.mem_cons_of_mem _ hm))
  replace kb := kb.chg c10 (fun i hi hm => KX_b_xa.out i hi (by unfold locB; exact List.mem_cons_of_mem _ hm))
  replace ow0 := ow0.chg c10 (fun i hi hm => AP_w0_xa.out i hi (by unfold locB; exact List.mem_cons_of_mem _ hm))
  replace oxb := oxb.chg c10 (fun i hi hm => (apart_symm AP_xa_xb.out) i hi (by unfold locB; exact List.mem_cons_of_mem _ hm))
  replace og0 := og0.chg c10 (fun i hi hm => (apart_symm AP_xa_g0.out) i hi (by unfold locB; exact List.mem_cons_of_mem _ hm))
  replace kxa := kxa.chg c10 (fun i hi hm => by simp at hi; subst hi; exact Nxa.out (by simpa using hm))
  have mkxa := mmxa
  clear mmxa
  have kxb := box_at oxb.here.1
  have mxb := own_at' oxb.here.2
  have Nxb := Lib.hid (Lib.ownBlock_ne oxb.here.2 oxb.here.1 (by decide))
  clear oxb
  have kxb_c0 := kxb.here.cell 0 _ rfl
  have kxb_c1 := kxb.here.cell 1 _ rfl
  go_wp2_with fail
  clear kxb_c0 kxb_c1
  refine (markSigned_at _ b _ (1 + szS a) _ (by omega) (by omega) (mxb.imp fun _ h => OwnS.mk (x := b) h)).mono ?_
  rintro e w11 ⟨rfl, mmxb, c11⟩
  clear mxb
  have bb11 := below_chg bb10 c11 bb10.size (fun i hi => F_xb.out i (by unfold locB; exact List.mem_cons_of_mem _ hi))
  replace ka := ka.chg c11 (fun i hi hm => KX_a_xb.out i hi (by unfold locB; exact List.mem_cons_of_mem _ hm))
  replace kb := kb.chg c11 (fun i hi hm => KX_b_xb.out i hi (by unfold locB; exact List.mem_cons_of_mem _ hm))
  replace ow0 := ow0.chg c11 (fun i hi hm => AP_w0_xb.out i hi (by unfold locB; exact List.mem_cons_of_mem _ hm))
  replace og0 := og0.chg c11 (fun i hi hm => (apart_symm AP_xb_g0.out) i hi (by unfold locB; exact List.mem_cons_of_mem _ hm))
  replace kxa := kxa.chg c11 (fun i hi hm => AP_xa_xb.out i (by unfold locB; simp at hi; subst hi; exact List.mem_cons_self ..) (by unfold locB; exact List.mem_cons_of_mem _ hm))
  replace mkxa := mkxa.chg c11 (fun i hi hm => AP_xa_xb.out i (by unfold locB; exact List.mem_cons_of_mem _ hi) (by unfold locB; exact List.mem_cons_of_mem _ hm))
  replace kxb := kxb.chg c11 (fun i hi hm => by simp at hi; subst hi; exact Nxb.out (by simpa using hm))
  have mkxb := mmxb
  clear mmxb
  have hk : decide (((1 + szS a + szS b) : Int) < 0) = false := decide_eq_false (by omega)
  have og0_c0 := og0.here.1.cell 0 _ rfl
  have og0_c1 := og0.here.1.cell 1 _ rfl
  have ow0_c0 := ow0.here.1.cell 0 _ rfl
  have ow0_c1 := ow0.here.1.cell 1 _ rfl
  go_wp2_with fail
  clear og0_c0 og0_c1 ow0_c0 ow0_c1
  refine (eqSigned_at _ _ R0 R0 _ (by omega) (OwnS.rd ⟨_, rfl, og0.here.2⟩) (OwnS.rd ⟨_, rfl, ow0.here.2⟩)).mono ?_
  rintro e w12 ⟨rfl, b12⟩
  rw [decide_refl]
  have bb12 := Below.next bb11 b12
  replace ka := ka.below b12
  replace kb := kb.below b12
  replace ow0 := ow0.below b12
  replace og0 := og0.below b12
  replace kxa := kxa.below b12
  replace mkxa := mkxa.below b12
  replace kxb := kxb.below b12
  replace mkxb := mkxb.below b12
  clear hk
  have kg0 := box_at og0.here.1
  have mg0 := own_at' og0.here.2
  have Ng0 := Lib.hid (Lib.ownBlock_ne og0.here.2 og0.here.1 (by decide))
  clear og0
  have kg0_c0 := kg0.here.cell 0 _ rfl
  have kg0_c1 := kg0.here.cell 1 _ rfl
  go_wp2_with fail
  clear kg0_c0 kg0_c1
  refine (markSigned_at _ R0 _ (1) _ (by omega) (by omega) (mg0.imp fun _ h => OwnS.mk (x := R0) h)).mono ?_
  rintro e w13 ⟨rfl, mmg0, c13⟩
  clear mg0
  have bb13 := below_chg bb12 c13 bb12.size (fun i hi => F_g0.out i (by unfold locB; exact List.mem_cons_of_mem _ hi))
  replace ka := ka.chg c13 (fun i hi hm => KX_a_g0.out i hi (by unfold locB; exact List.mem_cons_of_mem _ hm))
  replace kb := kb.chg c13 (fun i hi hm => KX_b_g0.out i hi (by unfold locB; exact List.mem_cons_of_mem _ hm))
  replace ow0 := ow0.chg c13 (fun i hi hm => AP_w0_g0.out i hi (by unfold locB; exact List.mem_cons_of_mem _ hm))
  replace kxa := kxa.chg c13 (fun i hi hm => AP_xa_g0.out i (by unfold locB; simp at hi; subst hi; exact List.mem_cons_self ..) (by unfold locB; exact List.mem_cons_of_mem _ hm))
  replace mkxa := mkxa.chg c13 (fun i hi hm => AP_xa_g0.out i (by unfold locB; exact List.mem_cons_of_mem _ hi) (by unfold locB; exact List.mem_cons_of_mem _ hm))
  replace kxb := kxb.chg c13 (fun i hi hm => AP_xb_g0.out i (by unfold locB; simp at hi; subst hi; exact List.mem_cons_self ..) (by unfold locB; exact List.mem_cons_of_mem _ hm))
  replace mkxb := mkxb.chg c13 (fun i hi hm => AP_xb_g0.out i (by unfold locB; exact List.mem_cons_of_mem _ hi) (by unfold locB; exact List.mem_cons_of_mem _ hm))
  replace kg0 := kg0.chg c13 (fun i hi hm => by simp at hi; subst hi; exact Ng0.out (by simpa using hm))
  have mkg0 := mmg0
  clear mmg0
  have kg0_c0 := kg0.here.cell 0 _ rfl
  have kg0_c1 := kg0.here.cell 1 _ rfl
  go_wp2_with fail
  clear kg0_c0 kg0_c1
  refine (heldSigned_at _ R0 (1) _ (by omega) (by omega) mkg0.here).mono ?_
  rintro e w14 ⟨rfl, b14⟩
  have bb14 := Below.next bb13 b14
  replace ka := ka.below b14
  replace kb := kb.below b14
  replace ow0 := ow0.below b14
  replace kxa := kxa.below b14
  replace mkxa := mkxa.below b14
  replace kxb := kxb.below b14
  replace mkxb := mkxb.below b14
  replace kg0 := kg0.below b14
  replace mkg0 := mkg0.below b14
  have hq14 : decide ((1 : Int) + szS R0 < 0) = false := decide_eq_false (by omega)
  have ka_c0 := ka.here.cell 0 _ rfl
  have ka_c1 := ka.here.cell 1 _ rfl
  have kb_c0 := kb.here.cell 0 _ rfl
  have kb_c1 := kb.here.cell 1 _ rfl
  go_upto_region 31 with fail
  go_cut [13] (fun s wx => NewLoc R0 w14 s wx)
  case first =>
    have HB0 := Lib.hid (show Below w14.heap.size w14 w14.drew from (Below.refl _ _).drew)
    have KL := Lib.hid (show ∀ W, Below w14.heap.size w14 W → W.cell? ⟨w.heap.size, 0, none⟩ = some (.bool a.1) ∧ W.cell? ⟨w.heap.size, 1, none⟩ = some (.slice Aa a.2.length ca) ∧ W.cell? ⟨w.heap.size + 1, 0, none⟩ = some (.bool b.1) ∧ W.cell? ⟨w.heap.size + 1, 1, none⟩ = some (.slice Ab b.2.length cb) ∧ Hid (Below w14.heap.size w14 W) from
      fun W hb => ⟨(ka.below hb).here.cell 0 _ rfl, (ka.below hb).here.cell 1 _ rfl, (kb.below hb).here.cell 0 _ rfl, (kb.below hb).here.cell 1 _ rfl, Lib.hid hb⟩)
    have BBF := Lib.hid (show ∀ W, Below w14.heap.size w14 W → Below w.heap.size w W from fun W hb => Below.next bb14 hb)
    clear ka_c0 ka_c1 kb_c0 kb_c1
    go_region_held3 (fun W => W.cell? ⟨w.heap.size, 0, none⟩ = some (.bool a.1) ∧ W.cell? ⟨w.heap.size, 1, none⟩ = some (.slice Aa a.2.length ca) ∧ W.cell? ⟨w.heap.size + 1, 0, none⟩ = some (.bool b.1) ∧ W.cell? ⟨w.heap.size + 1, 1, none⟩ = some (.slice Ab b.2.length cb) ∧ Hid (Below w14.heap.size w14 W))
      ((refine KL.out _ ?_; (first | exact HBf.out | exact HBtb.out | exact HBta.out | exact HB0.out | exact below_al HBf.out _ | exact below_al HBtb.out _ | exact below_al HBta.out _ | exact below_al HB0.out _ | exact below_set2 HBf.out (by first | exact HBtb.out.size | exact HBta.out.size | exact HB0.out.size) | fail)))
      (first
        | (go_at_call 16; (have hBB := (‹_ ∧ _ ∧ _ ∧ _ ∧ Hid (Below w14.heap.size w14 _)›).2.2.2.2); (with_reducible refine (toSigned_at _ a _ hla (RFa.out _ (BBF.out _ hBB.out))).mono ?_); rintro e wta ⟨ta, rfl, ota_, bta⟩; have HBta := Lib.hid (Below.next hBB.out bta); have ota := own_at' ota_; (try have hbxa : At [w14.heap.size] (BoxAt w14.heap.size #[.bool false, .slice none 0 0] 27) wta := At.below (box_new w14.drew _ _) bta); clear hBB)
        | (go_at_call 16; (have hBB := (‹_ ∧ _ ∧ _ ∧ _ ∧ Hid (Below w14.heap.size w14 _)›).2.2.2.2); (with_reducible refine (toSigned_at _ b _ hlb (RFb.out _ (BBF.out _ hBB.out))).mono ?_); rintro e wtb ⟨tb, rfl, otb_, btb⟩; have HBtb := Lib.hid (Below.next hBB.out btb); have otb := own_at' otb_; (have otab := At.below (by first | exact ota | exact At.below ota (below_al (Below.refl _ _) _)) btb); (first | have hbxb := At.below (box_new _ _ _) btb | have hbxb := At.below hbxa btb | skip); clear hBB)
        | (go_at_call 30; (have hBB := (‹_ ∧ _ ∧ _ ∧ _ ∧ Hid (Below w14.heap.size w14 _)›).2.2.2.2); (with_reducible refine (HI.out _ _ _ (OwnS.mk (x := a) (At.here (by first | exact otab | exact At.below otab (below_al (Below.refl _ _) _)))) (OwnS.mk (x := b) (At.here (by first | exact otb | exact At.below otb (below_al (Below.refl _ _) _))))).mono ?_); rintro e wf ⟨uf, rfl, of, bf⟩; have HBf := Lib.hid (Below.next hBB.out bf); have HBS := Lib.hid hBB.out.size; (first | have hbxf := At.below (box_new _ _ _) bf | have hbxf := At.below hbxb bf | skip); obtain ⟨Af, cf, rfl⟩ := own_len of; (try (have cz0 := hbxf.here.cell 0 _ rfl; have cz1 := hbxf.here.cell 1 _ rfl; have fz0 := Lib.frozen_of_heap hbxf.here 0; have fz1 := Lib.frozen_of_heap hbxf.here 1)); clear hBB))
    all_goals (go_wp2_with fail; go_meet; first | exact newLoc_last of HBS.out HBf.out | exact newLoc_early hbxf.here of HBS.out (by first | exact HBtb.out.size | exact HBta.out.size | exact HB0.out.size) HBf.out)
  rename World => w15
  clear ka_c0 ka_c1 kb_c0 kb_c1
  obtain ⟨gh0, uh0, rfl, oh0, lh0, b15⟩ := hcut
  obtain ⟨Ah0, ch0, eh0⟩ := own_len oh0.here.2
  subst eh0
  have bb15 := Below.next bb14 b15
  replace ka := ka.below b15
  replace kb := kb.below b15
  replace ow0 := ow0.below b15
  replace kxa := kxa.below b15
  replace mkxa := mkxa.below b15
  replace kxb := kxb.below b15
  replace mkxb := mkxb.below b15
  replace kg0 := kg0.below b15
  replace mkg0 := mkg0.below b15
  have oh0_c0 := oh0.here.1.cell 0 _ rfl
  have oh0_c1 := oh0.here.1.cell 1 _ rfl
  have ow0_c0 := ow0.here.1.cell 0 _ rfl
  have ow0_c1 := ow0.here.1.cell 1 _ rfl
  go_wp2_with fail
  clear oh0_c0 oh0_c1 ow0_c0 ow0_c1
  refine (eqSigned_at _ _ R0 R0 _ (by omega) (OwnS.rd ⟨_, rfl, oh0.here.2⟩) (OwnS.rd ⟨_, rfl, ow0.here.2⟩)).mono ?_
  rintro e w16 ⟨rfl, b16⟩
  rw [decide_refl]
  have bb16 := Below.next bb15 b16
  replace ka := ka.below b16
  replace kb := kb.below b16
  replace ow0 := ow0.below b16
  replace kxa := kxa.below b16
  replace mkxa := mkxa.below b16
  replace kxb := kxb.below b16
  replace mkxb := mkxb.below b16
  replace kg0 := kg0.below b16
  replace mkg0 := mkg0.below b16
  replace oh0 := oh0.below b16
  have kg0_c0 := kg0.here.cell 0 _ rfl
  have kg0_c1 := kg0.here.cell 1 _ rfl
  go_wp2_with fail
  clear kg0_c0 kg0_c1
  refine (heldSigned_at _ R0 (1) _ (by omega) (by omega) mkg0.here).mono ?_
  rintro e w17 ⟨rfl, b17⟩
  have bb17 := Below.next bb16 b17
  replace ka := ka.below b17
  replace kb := kb.below b17
  replace ow0 := ow0.below b17
  replace kxa := kxa.below b17
  replace mkxa := mkxa.below b17
  replace kxb := kxb.below b17
  replace mkxb := mkxb.below b17
  replace kg0 := kg0.below b17
  replace mkg0 := mkg0.below b17
  replace oh0 := oh0.below b17
  have hq17 : decide ((1 : Int) + szS R0 < 0) = false := decide_eq_false (by omega)
  go_wp2
  go_ret
  exact ⟨rfl, bb17⟩

set_option maxHeartbeats 4000000 in
set_option maxRecDepth 100000 in
theorem lawIntSub_walk (va : Value) (vb : Value) (a : SI) (b : SI) (R0 : SI) (w : World)
    (hS : ∀ (ua : Value) (ub : Value) (W : World), OwnS ua a W → OwnS ub b W → Calls Try.prog 31 #[ua, ub] W (NewS R0 W))
    (hI : ∀ (ua : Value) (ub : Value) (W : World), OwnS ua a W → OwnS ub b W → Calls Try.prog 32 #[ua, ub] W (NewS R0 W))
    (hl : szS a + szS b ≤ 1048576) (hlR0 : szS R0 ≤ 1048576) (ra : RdS w va a) (rb : RdS w vb b) :
    Calls Try.prog 9 #[va, vb] w fun e w' => e = .returned (.bool true) ∧ Below w.heap.size w w' := by
  have HS := Lib.hid hS
  have HI := Lib.hid hI
  clear hS hI
  have hsa : 0 ≤ szS a := by unfold szS szI; omega
  have hsb : 0 ≤ szS b := by unfold szS szI; omega
  have hsR0 : 0 ≤ szS R0 := by unfold szS szI; omega
  obtain ⟨ua, rfl, qa⟩ := ra
  obtain ⟨Aa, ca, rfl⟩ := row_form qa
  rw [intsV_length] at qa
  have hla : a.2.length ≤ 1048576 := by unfold szS szI at hl hsb; omega
  obtain ⟨ub, rfl, qb⟩ := rb
  obtain ⟨Ab, cb, rfl⟩ := row_form qb
  rw [intsV_length] at qb
  have hlb : b.2.length ≤ 1048576 := by unfold szS szI at hl hsa; omega
  have hlen0 : R0.2.length ≤ 1048576 := by unfold szS szI at hlR0; omega
  rw [intsV_length]
  rw [intsV_length]
  have bb0 : Below w.heap.size w ((w.alloc (.cells #[.bool a.1, .slice Aa a.2.length ca] 24)).alloc (.cells #[.bool b.1, .slice Ab b.2.length cb] 24)) := below_al (below_al (Below.refl _ _) _) _
  have ka := (box_new w #[.bool a.1, .slice Aa a.2.length ca] 24).below (below_al (Below.refl _ _) (.cells #[.bool b.1, .slice Ab b.2.length cb] 24))
  have kb := box_new (w.alloc (.cells #[.bool a.1, .slice Aa a.2.length ca] 24)) #[.bool b.1, .slice Ab b.2.length cb] 24
  rw [show (w.alloc (.cells #[.bool a.1, .slice Aa a.2.length ca] 24)).heap.size = w.heap.size + 1 by simp] at kb
  have RFa : Hid (∀ W, Below w.heap.size w W → RdS W (.agg #[.bool a.1, .slice Aa a.2.length ca]) a) := Lib.hid fun W hb => rdS_below qa hb
  have RFb : Hid (∀ W, Below w.heap.size w W → RdS W (.agg #[.bool b.1, .slice Ab b.2.length cb]) b) := Lib.hid fun W hb => rdS_below qb hb
  go_enter Try.func9, Try.ntmps9
  have ka_c0 := ka.here.cell 0 _ rfl
  have ka_c1 := ka.here.cell 1 _ rfl
  go_wp2_with fail
  clear ka_c0 ka_c1
  refine (szSigned_at _ a (1048576) _ (by omega) (by omega) (by omega) (RFa.out _ bb0)).mono ?_
  rintro e w1 ⟨rfl, b1⟩
  rw [leftI_of (by omega)]
  have bb1 := Below.next bb0 b1
  replace ka := ka.below b1
  replace kb := kb.below b1
  have hn : decide (((1048576 : Int) - szS a : Int) < 0) = false := decide_eq_false (by omega)
  have kb_c0 := kb.here.cell 0 _ rfl
  have kb_c1 := kb.here.cell 1 _ rfl
  go_wp2_with fail
  clear kb_c0 kb_c1
  refine (szSigned_at _ b (1048576 - szS a) _ (by omega) (by omega) (by omega) (RFb.out _ bb1)).mono ?_
  rintro e w2 ⟨rfl, b2⟩
  rw [leftI_of (by omega)]
  have bb2 := Below.next bb1 b2
  replace ka := ka.below b2
  replace kb := kb.below b2
  clear hn
  have hn : decide (((1048576 : Int) - szS a - szS b : Int) < 0) = false := decide_eq_false (by omega)
  have HKa := Lib.hid (ka.lt (w.heap.size) (by simp))
  have HKb := Lib.hid (kb.lt (w.heap.size + 1) (by simp))
  have ka_c0 := ka.here.cell 0 _ rfl
  have ka_c1 := ka.here.cell 1 _ rfl
  have kb_c0 := kb.here.cell 0 _ rfl
  have kb_c1 := kb.here.cell 1 _ rfl
  go_upto_region 8 with fail
  go_cut [6] (fun s wx => NewLoc R0 w2 s wx)
  case first =>
    have HB0 := Lib.hid (show Below w2.heap.size w2 w2.drew from (Below.refl _ _).drew)
    have KL := Lib.hid (show ∀ W, Below w2.heap.size w2 W → W.cell? ⟨w.heap.size, 0, none⟩ = some (.bool a.1) ∧ W.cell? ⟨w.heap.size, 1, none⟩ = some (.slice Aa a.2.length ca) ∧ W.cell? ⟨w.heap.size + 1, 0, none⟩ = some (.bool b.1) ∧ W.cell? ⟨w.heap.size + 1, 1, none⟩ = some (.slice Ab b.2.length cb) ∧ Hid (Below w2.heap.size w2 W) from
      fun W hb => ⟨(ka.below hb).here.cell 0 _ rfl, (ka.below hb).here.cell 1 _ rfl, (kb.below hb).here.cell 0 _ rfl, (kb.below hb).here.cell 1 _ rfl, Lib.hid hb⟩)
    have BBF := Lib.hid (show ∀ W, Below w2.heap.size w2 W → Below w.heap.size w W from fun W hb => Below.next bb2 hb)
    clear ka_c0 ka_c1 kb_c0 kb_c1
    go_region_held3 (fun W => W.cell? ⟨w.heap.size, 0, none⟩ = some (.bool a.1) ∧ W.cell? ⟨w.heap.size, 1, none⟩ = some (.slice Aa a.2.length ca) ∧ W.cell? ⟨w.heap.size + 1, 0, none⟩ = some (.bool b.1) ∧ W.cell? ⟨w.heap.size + 1, 1, none⟩ = some (.slice Ab b.2.length cb) ∧ Hid (Below w2.heap.size w2 W))
      ((refine KL.out _ ?_; (first | exact HBf.out | exact HBtb.out | exact HBta.out | exact HB0.out | exact below_al HBf.out _ | exact below_al HBtb.out _ | exact below_al HBta.out _ | exact below_al HB0.out _ | exact below_set2 HBf.out (by first | exact HBtb.out.size | exact HBta.out.size | exact HB0.out.size) | fail)))
      (first
        | (go_at_call 16; (have hBB := (‹_ ∧ _ ∧ _ ∧ _ ∧ Hid (Below w2.heap.size w2 _)›).2.2.2.2); (with_reducible refine (toSigned_at _ a _ hla (RFa.out _ (BBF.out _ hBB.out))).mono ?_); rintro e wta ⟨ta, rfl, ota_, bta⟩; have HBta := Lib.hid (Below.next hBB.out bta); have ota := own_at' ota_; (try have hbxa : At [w2.heap.size] (BoxAt w2.heap.size #[.bool false, .slice none 0 0] 27) wta := At.below (box_new w2.drew _ _) bta); clear hBB)
        | (go_at_call 16; (have hBB := (‹_ ∧ _ ∧ _ ∧ _ ∧ Hid (Below w2.heap.size w2 _)›).2.2.2.2); (with_reducible refine (toSigned_at _ b _ hlb (RFb.out _ (BBF.out _ hBB.out))).mono ?_); rintro e wtb ⟨tb, rfl, otb_, btb⟩; have HBtb := Lib.hid (Below.next hBB.out btb); have otb := own_at' otb_; (have otab := At.below (by first | exact ota | exact At.below ota (below_al (Below.refl _ _) _)) btb); (first | have hbxb := At.below (box_new _ _ _) btb | have hbxb := At.below hbxa btb | skip); clear hBB)
        | (go_at_call 31; (have hBB := (‹_ ∧ _ ∧ _ ∧ _ ∧ Hid (Below w2.heap.size w2 _)›).2.2.2.2); (with_reducible refine (HS.out _ _ _ (OwnS.mk (x := a) (At.here (by first | exact otab | exact At.below otab (below_al (Below.refl _ _) _)))) (OwnS.mk (x := b) (At.here (by first | exact otb | exact At.below otb (below_al (Below.refl _ _) _))))).mono ?_); rintro e wf ⟨uf, rfl, of, bf⟩; have HBf := Lib.hid (Below.next hBB.out bf); have HBS := Lib.hid hBB.out.size; (first | have hbxf := At.below (box_new _ _ _) bf | have hbxf := At.below hbxb bf | skip); obtain ⟨Af, cf, rfl⟩ := own_len of; (try (have cz0 := hbxf.here.cell 0 _ rfl; have cz1 := hbxf.here.cell 1 _ rfl; have fz0 := Lib.frozen_of_heap hbxf.here 0; have fz1 := Lib.frozen_of_heap hbxf.here 1)); clear hBB))
    all_goals (go_wp2_with fail; go_meet; first | exact newLoc_last of HBS.out HBf.out | exact newLoc_early hbxf.here of HBS.out (by first | exact HBtb.out.size | exact HBta.out.size | exact HB0.out.size) HBf.out)
  rename World => w3
  clear ka_c0 ka_c1 kb_c0 kb_c1
  obtain ⟨gw0, uw0, rfl, ow0, lw0, b3⟩ := hcut
  obtain ⟨Aw0, cw0, ew0⟩ := own_len ow0.here.2
  subst ew0
  have bb3 := Below.next bb2 b3
  replace ka := ka.below b3
  replace kb := kb.below b3
  have ka_c0 := ka.here.cell 0 _ rfl
  have ka_c1 := ka.here.cell 1 _ rfl
  go_upto_region 9 with fail
  go_cut [7] (fun s wx => NewLoc a w3 s wx)
  case first =>
    go_wp2_with fail
    refine (toSigned_at _ a _ hla (RFa.out _ bb3)).mono ?_
    rintro e wt ⟨ut, rfl, ot, bt⟩
    obtain ⟨At_, ct, rfl⟩ := own_len ot
    go_wp2_with fail
    go_meet
    exact newLoc_last ot (Nat.le_refl _) bt
  rename World => w4
  clear ka_c0 ka_c1
  obtain ⟨gxa, uxa, rfl, oxa, lxa, b4⟩ := hcut
  obtain ⟨Axa, cxa, exa⟩ := own_len oxa.here.2
  subst exa
  have bb4 := Below.next bb3 b4
  replace ka := ka.below b4
  replace kb := kb.below b4
  replace ow0 := ow0.below b4
  have kb_c0 := kb.here.cell 0 _ rfl
  have kb_c1 := kb.here.cell 1 _ rfl
  go_upto_region 10 with fail
  go_cut [8] (fun s wx => NewLoc b w4 s wx)
  case first =>
    go_wp2_with fail
    refine (toSigned_at _ b _ hlb (RFb.out _ bb4)).mono ?_
    rintro e wt ⟨ut, rfl, ot, bt⟩
    obtain ⟨At_, ct, rfl⟩ := own_len ot
    go_wp2_with fail
    go_meet
    exact newLoc_last ot (Nat.le_refl _) bt
  rename World => w5
  clear kb_c0 kb_c1
  obtain ⟨gxb, uxb, rfl, oxb, lxb, b5⟩ := hcut
  obtain ⟨Axb, cxb, exb⟩ := own_len oxb.here.2
  subst exb
  have bb5 := Below.next bb4 b5
  replace ka := ka.below b5
  replace kb := kb.below b5
  replace ow0 := ow0.below b5
  replace oxa := oxa.below b5
  have oxa_c0 := oxa.here.1.cell 0 _ rfl
  have oxa_c1 := oxa.here.1.cell 1 _ rfl
  have oxb_c0 := oxb.here.1.cell 0 _ rfl
  have oxb_c1 := oxb.here.1.cell 1 _ rfl
  go_upto_region 11 with fail
  go_cut [9] (fun s wx => NewLoc R0 w5 s wx)
  case first =>
    go_wp2_with fail
    refine (HI.out _ _ _ ⟨_, rfl, oxa.here.2⟩ ⟨_, rfl, oxb.here.2⟩).mono ?_
    rintro e wf ⟨uf, rfl, of, bf⟩
    obtain ⟨Af, cf, rfl⟩ := own_len of
    go_wp2_with fail
    go_meet
    exact newLoc_last of (Nat.le_refl _) bf
  rename World => w6
  clear oxa_c0 oxa_c1 oxb_c0 oxb_c1
  obtain ⟨gg0, ug0, rfl, og0, lg0, b6⟩ := hcut
  obtain ⟨Ag0, cg0, eg0⟩ := own_len og0.here.2
  subst eg0
  have bb6 := Below.next bb5 b6
  replace ka := ka.below b6
  replace kb := kb.below b6
  replace ow0 := ow0.below b6
  replace oxa := oxa.below b6
  replace oxb := oxb.below b6
  have og0_c0 := og0.here.1.cell 0 _ rfl
  have og0_c1 := og0.here.1.cell 1 _ rfl
  have ow0_c0 := ow0.here.1.cell 0 _ rfl
  have ow0_c1 := ow0.here.1.cell 1 _ rfl
  go_wp2_with fail
  clear og0_c0 og0_c1 ow0_c0 ow0_c1
  refine (eqSigned_at _ _ R0 R0 _ (by omega) (OwnS.rd ⟨_, rfl, og0.here.2⟩) (OwnS.rd ⟨_, rfl, ow0.here.2⟩)).mono ?_
  rintro e w7 ⟨rfl, b7⟩
  rw [decide_refl]
  have bb7 := Below.next bb6 b7
  replace ka := ka.below b7
  replace kb := kb.below b7
  replace ow0 := ow0.below b7
  replace oxa := oxa.below b7
  replace oxb := oxb.below b7
  replace og0 := og0.below b7
  have ka_c0 := ka.here.cell 0 _ rfl
  have ka_c1 := ka.here.cell 1 _ rfl
  have oxa_c0 := oxa.here.1.cell 0 _ rfl
  have oxa_c1 := oxa.here.1.cell 1 _ rfl
  go_wp2_with fail
  have HB0 := Lib.hid (show Below w7.heap.size w7 w7.drew from (Below.refl _ _).drew)
  have KL := Lib.hid (show ∀ W, Below w7.heap.size w7 W → W.cell? ⟨w.heap.size, 0, none⟩ = some (.bool a.1) ∧ W.cell? ⟨w.heap.size, 1, none⟩ = some (.slice Aa a.2.length ca) ∧ W.cell? ⟨gxa, 0, none⟩ = some (.bool a.1) ∧ W.cell? ⟨gxa, 1, none⟩ = some (.slice Axa a.2.length cxa) ∧ Hid (Below w7.heap.size w7 W) from
    fun W hb => ⟨(ka.below hb).here.cell 0 _ rfl, (ka.below hb).here.cell 1 _ rfl, (oxa.below hb).here.1.cell 0 _ rfl, (oxa.below hb).here.1.cell 1 _ rfl, Lib.hid hb⟩)
  have BBF := Lib.hid (show ∀ W, Below w7.heap.size w7 W → Below w.heap.size w W from fun W hb => Below.next bb7 hb)
  have OXF := Lib.hid (show ∀ W, Below w7.heap.size w7 W → OwnI _ a.2 W from fun W hb => (oxa.below hb).here.2)
  clear ka_c0 ka_c1 oxa_c0 oxa_c1
  go_region_held3 (fun W => W.cell? ⟨w.heap.size, 0, none⟩ = some (.bool a.1) ∧ W.cell? ⟨w.heap.size, 1, none⟩ = some (.slice Aa a.2.length ca) ∧ W.cell? ⟨gxa, 0, none⟩ = some (.bool a.1) ∧ W.cell? ⟨gxa, 1, none⟩ = some (.slice Axa a.2.length cxa) ∧ Hid (Below w7.heap.size w7 W))
    ((refine KL.out _ ?_; (first | exact HBe.out | exact HBt.out | exact HB0.out | fail)))
    (first
      | (go_at_call 16; (have hBB := (‹_ ∧ _ ∧ _ ∧ _ ∧ Hid (Below w7.heap.size w7 _)›).2.2.2.2); (with_reducible refine (toSigned_at _ a _ hla (RFa.out _ (BBF.out _ hBB.out))).mono ?_); rintro e wt ⟨t, rfl, ot, bt⟩; have HBt := Lib.hid (Below.next hBB.out bt); clear hBB)
      | (go_at_call 18; (have hBB := (‹_ ∧ _ ∧ _ ∧ _ ∧ Hid (Below w7.heap.size w7 _)›).2.2.2.2); (with_reducible refine (eqSigned_at _ _ a a _ (by omega) (OwnS.rd (OwnS.mk (x := a) (OXF.out _ hBB.out))) (OwnS.rd (OwnS.mk (x := a) (ownI_of ot)))).mono ?_); rintro e w8 ⟨rfl, be⟩; rw [decide_refl]; have HBe := Lib.hid (Below.next hBB.out be); clear hBB))
  have b8 := HBe.out
  have bb8 := Below.next bb7 b8
  replace ka := ka.below b8
  replace kb := kb.below b8
  replace ow0 := ow0.below b8
  replace oxa := oxa.below b8
  replace oxb := oxb.below b8
  replace og0 := og0.below b8
  clear HB0 KL BBF OXF HBt HBe ot
  have kb_c0 := kb.here.cell 0 _ rfl
  have kb_c1 := kb.here.cell 1 _ rfl
  have oxb_c0 := oxb.here.1.cell 0 _ rfl
  have oxb_c1 := oxb.here.1.cell 1 _ rfl
  go_wp2_with fail
  have HB0 := Lib.hid (show Below w8.heap.size w8 w8.drew from (Below.refl _ _).drew)
  have KL := Lib.hid (show ∀ W, Below w8.heap.size w8 W → W.cell? ⟨w.heap.size + 1, 0, none⟩ = some (.bool b.1) ∧ W.cell? ⟨w.heap.size + 1, 1, none⟩ = some (.slice Ab b.2.length cb) ∧ W.cell? ⟨gxb, 0, none⟩ = some (.bool b.1) ∧ W.cell? ⟨gxb, 1, none⟩ = some (.slice Axb b.2.length cxb) ∧ Hid (Below w8.heap.size w8 W) from
    fun W hb => ⟨(kb.below hb).here.cell 0 _ rfl, (kb.below hb).here.cell 1 _ rfl, (oxb.below hb).here.1.cell 0 _ rfl, (oxb.below hb).here.1.cell 1 _ rfl, Lib.hid hb⟩)
  have BBF := Lib.hid (show ∀ W, Below w8.heap.size w8 W → Below w.heap.size w W from fun W hb => Below.next bb8 hb)
  have OXF := Lib.hid (show ∀ W, Below w8.heap.size w8 W → OwnI _ b.2 W from fun W hb => (oxb.below hb).here.2)
  clear kb_c0 kb_c1 oxb_c0 oxb_c1
  go_region_held3 (fun W => W.cell? ⟨w.heap.size + 1, 0, none⟩ = some (.bool b.1) ∧ W.cell? ⟨w.heap.size + 1, 1, none⟩ = some (.slice Ab b.2.length cb) ∧ W.cell? ⟨gxb, 0, none⟩ = some (.bool b.1) ∧ W.cell? ⟨gxb, 1, none⟩ = some (.slice Axb b.2.length cxb) ∧ Hid (Below w8.heap.size w8 W))
    ((refine KL.out _ ?_; (first | exact HBe.out | exact HBt.out | exact HB0.out | fail)))
    (first
      | (go_at_call 16; (have hBB := (‹_ ∧ _ ∧ _ ∧ _ ∧ Hid (Below w8.heap.size w8 _)›).2.2.2.2); (with_reducible refine (toSigned_at _ b _ hlb (RFb.out _ (BBF.out _ hBB.out))).mono ?_); rintro e wt ⟨t, rfl, ot, bt⟩; have HBt := Lib.hid (Below.next hBB.out bt); clear hBB)
      | (go_at_call 18; (have hBB := (‹_ ∧ _ ∧ _ ∧ _ ∧ Hid (Below w8.heap.size w8 _)›).2.2.2.2); (with_reducible refine (eqSigned_at _ _ b b _ (by omega) (OwnS.rd (OwnS.mk (x := b) (OXF.out _ hBB.out))) (OwnS.rd (OwnS.mk (x := b) (ownI_of ot)))).mono ?_); rintro e w9 ⟨rfl, be⟩; rw [decide_refl]; have HBe := Lib.hid (Below.next hBB.out be); clear hBB))
  have b9 := HBe.out
  have bb9 := Below.next bb8 b9
  replace ka := ka.below b9
  replace kb := kb.below b9
  replace ow0 := ow0.below b9
  replace oxa := oxa.below b9
  replace oxb := oxb.below b9
  replace og0 := og0.below b9
  clear HB0 KL BBF OXF HBt HBe ot
  have z1 := b1.size
  have z2 := b2.size
  have z3 := b3.size
  have z4 := b4.size
  have z5 := b5.size
  have z6 := b6.size
  have z7 := b7.size
  have z8 := b8.size
  have z9 := b9.size
  have AP_xa_xb := Lib.hid (Within.apart lxa lxb (.inl (by omega)))
  have AP_xa_g0 := Lib.hid (Within.apart lxa lg0 (.inl (by omega)))
  have AP_xb_g0 := Lib.hid (Within.apart lxb lg0 (.inl (by omega)))
  have AP_w0_xa := Lib.hid (Within.apart lw0 lxa (.inl (by omega)))
  have AP_w0_xb := Lib.hid (Within.apart lw0 lxb (.inl (by omega)))
  have AP_w0_g0 := Lib.hid (Within.apart lw0 lg0 (.inl (by omega)))
  have F_xa := Lib.hid (Within.from (B := w.heap.size) lxa (by have := bb2.size; omega))
  have KX_a_xa := Lib.hid (show ∀ i ∈ [w.heap.size], i ∉ locB gxa (.slice Axa a.2.length cxa) from fun i hi hm => by have h1 := (lxa i hm).1; have h2 := HKa.out; simp at hi; omega)
  have KX_b_xa := Lib.hid (show ∀ i ∈ [w.heap.size + 1], i ∉ locB gxa (.slice Axa a.2.length cxa) from fun i hi hm => by have h1 := (lxa i hm).1; have h2 := HKb.out; simp at hi; omega)
  have F_xb := Lib.hid (Within.from (B := w.heap.size) lxb (by have := bb2.size; omega))
  have KX_a_xb := Lib.hid (show ∀ i ∈ [w.heap.size], i ∉ locB gxb (.slice Axb b.2.length cxb) from fun i hi hm => by have h1 := (lxb i hm).1; have h2 := HKa.out; simp at hi; omega)
  have KX_b_xb := Lib.hid (show ∀ i ∈ [w.heap.size + 1], i ∉ locB gxb (.slice Axb b.2.length cxb) from fun i hi hm => by have h1 := (lxb i hm).1; have h2 := HKb.out; simp at hi; omega)
  have F_g0 := Lib.hid (Within.from (B := w.heap.size) lg0 (by have := bb2.size; omega))
  have KX_a_g0 := Lib.hid (show ∀ i ∈ [w.heap.size], i ∉ locB gg0 (.slice Ag0 R0.2.length cg0) from fun i hi hm => by have h1 := (lg0 i hm).1; have h2 := HKa.out; simp at hi; omega)
  have KX_b_g0 := Lib.hid (show ∀ i ∈ [w.heap.size + 1], i ∉ locB gg0 (.slice Ag0 R0.2.length cg0) from fun i hi hm => by have h1 := (lg0 i hm).1; have h2 := HKb.out; simp at hi; omega)
  clear z1 z2 z3 z4 z5 z6 z7 z8 z9
  have kxa := box_at oxa.here.1
  have mxa := own_at' oxa.here.2
  have Nxa := Lib.hid (Lib.ownBlock_ne oxa.here.2 oxa.here.1 (by decide))
  clear oxa
  have kxa_c0 := kxa.here.cell 0 _ rfl
  have kxa_c1 := kxa.here.cell 1 _ rfl
  go_wp2_with fail
  clear kxa_c0 kxa_c1
  refine (markSigned_at _ a _ (1) _ (by omega) (by omega) (mxa.imp fun _ h => OwnS.mk (x := a) h)).mono ?_
  rintro e w10 ⟨rfl, mmxa, c10⟩
  clear mxa
  have bb10 := below_chg bb9 c10 bb9.size (fun i hi => F_xa.out i (by unfold locB; exact List.mem_cons_of_mem _ hi))
  replace ka := ka.chg c10 (fun i hi hm => KX_a_xa.out i hi (by unfold locB; exact List.mem_cons_of_mem _ hm))
  replace kb := kb.chg c10 (fun i hi hm => KX_b_xa.out i hi (by unfold locB; exact List.mem_cons_of_mem _ hm))
  replace ow0 := ow0.chg c10 (fun i hi hm => AP_w0_xa.out i hi (by unfold locB; exact List.mem_cons_of_mem _ hm))
  replace oxb := oxb.chg c10 (fun i hi hm => (apart_symm AP_xa_xb.out) i hi (by unfold locB; exact List.mem_cons_of_mem _ hm))
  replace og0 := og0.chg c10 (fun i hi hm => (apart_symm AP_xa_g0.out) i hi (by unfold locB; exact List.mem_cons_of_mem _ hm))
  replace kxa := kxa.chg c10 (fun i hi hm => by simp at hi; subst hi; exact Nxa.out (by simpa using hm))
  have mkxa := mmxa
  clear mmxa
  have kxb := box_at oxb.here.1
  have mxb := own_at' oxb.here.2
  have Nxb := Lib.hid (Lib.ownBlock_ne oxb.here.2 oxb.here.1 (by decide))
  clear oxb
  have kxb_c0 := kxb.here.cell 0 _ rfl
  have kxb_c1 := kxb.here.cell 1 _ rfl
  go_wp2_with fail
  clear kxb_c0 kxb_c1
  refine (markSigned_at _ b _ (1 + szS a) _ (by omega) (by omega) (mxb.imp fun _ h => OwnS.mk (x := b) h)).mono ?_
  rintro e w11 ⟨rfl, mmxb, c11⟩
  clear mxb
  have bb11 := below_chg bb10 c11 bb10.size (fun i hi => F_xb.out i (by unfold locB; exact List.mem_cons_of_mem _ hi))
  replace ka := ka.chg c11 (fun i hi hm => KX_a_xb.out i hi (by unfold locB; exact List.mem_cons_of_mem _ hm))
  replace kb := kb.chg c11 (fun i hi hm => KX_b_xb.out i hi (by unfold locB; exact List.mem_cons_of_mem _ hm))
  replace ow0 := ow0.chg c11 (fun i hi hm => AP_w0_xb.out i hi (by unfold locB; exact List.mem_cons_of_mem _ hm))
  replace og0 := og0.chg c11 (fun i hi hm => (apart_symm AP_xb_g0.out) i hi (by unfold locB; exact List.mem_cons_of_mem _ hm))
  replace kxa := kxa.chg c11 (fun i hi hm => AP_xa_xb.out i (by unfold locB; simp at hi; subst hi; exact List.mem_cons_self ..) (by unfold locB; exact List.mem_cons_of_mem _ hm))
  replace mkxa := mkxa.chg c11 (fun i hi hm => AP_xa_xb.out i (by unfold locB; exact List.mem_cons_of_mem _ hi) (by unfold locB; exact List.mem_cons_of_mem _ hm))
  replace kxb := kxb.chg c11 (fun i hi hm => by simp at hi; subst hi; exact Nxb.out (by simpa using hm))
  have mkxb := mmxb
  clear mmxb
  have hk : decide (((1 + szS a + szS b) : Int) < 0) = false := decide_eq_false (by omega)
  have og0_c0 := og0.here.1.cell 0 _ rfl
  have og0_c1 := og0.here.1.cell 1 _ rfl
  have ow0_c0 := ow0.here.1.cell 0 _ rfl
  have ow0_c1 := ow0.here.1.cell 1 _ rfl
  go_wp2_with fail
  clear og0_c0 og0_c1 ow0_c0 ow0_c1
  refine (eqSigned_at _ _ R0 R0 _ (by omega) (OwnS.rd ⟨_, rfl, og0.here.2⟩) (OwnS.rd ⟨_, rfl, ow0.here.2⟩)).mono ?_
  rintro e w12 ⟨rfl, b12⟩
  rw [decide_refl]
  have bb12 := Below.next bb11 b12
  replace ka := ka.below b12
  replace kb := kb.below b12
  replace ow0 := ow0.below b12
  replace og0 := og0.below b12
  replace kxa := kxa.below b12
  replace mkxa := mkxa.below b12
  replace kxb := kxb.below b12
  replace mkxb := mkxb.below b12
  clear hk
  have kg0 := box_at og0.here.1
  have mg0 := own_at' og0.here.2
  have Ng0 := Lib.hid (Lib.ownBlock_ne og0.here.2 og0.here.1 (by decide))
  clear og0
  have kg0_c0 := kg0.here.cell 0 _ rfl
  have kg0_c1 := kg0.here.cell 1 _ rfl
  go_wp2_with fail
  clear kg0_c0 kg0_c1
  refine (markSigned_at _ R0 _ (1) _ (by omega) (by omega) (mg0.imp fun _ h => OwnS.mk (x := R0) h)).mono ?_
  rintro e w13 ⟨rfl, mmg0, c13⟩
  clear mg0
  have bb13 := below_chg bb12 c13 bb12.size (fun i hi => F_g0.out i (by unfold locB; exact List.mem_cons_of_mem _ hi))
  replace ka := ka.chg c13 (fun i hi hm => KX_a_g0.out i hi (by unfold locB; exact List.mem_cons_of_mem _ hm))
  replace kb := kb.chg c13 (fun i hi hm => KX_b_g0.out i hi (by unfold locB; exact List.mem_cons_of_mem _ hm))
  replace ow0 := ow0.chg c13 (fun i hi hm => AP_w0_g0.out i hi (by unfold locB; exact List.mem_cons_of_mem _ hm))
  replace kxa := kxa.chg c13 (fun i hi hm => AP_xa_g0.out i (by unfold locB; simp at hi; subst hi; exact List.mem_cons_self ..) (by unfold locB; exact List.mem_cons_of_mem _ hm))
  replace mkxa := mkxa.chg c13 (fun i hi hm => AP_xa_g0.out i (by unfold locB; exact List.mem_cons_of_mem _ hi) (by unfold locB; exact List.mem_cons_of_mem _ hm))
  replace kxb := kxb.chg c13 (fun i hi hm => AP_xb_g0.out i (by unfold locB; simp at hi; subst hi; exact List.mem_cons_self ..) (by unfold locB; exact List.mem_cons_of_mem _ hm))
  replace mkxb := mkxb.chg c13 (fun i hi hm => AP_xb_g0.out i (by unfold locB; exact List.mem_cons_of_mem _ hi) (by unfold locB; exact List.mem_cons_of_mem _ hm))
  replace kg0 := kg0.chg c13 (fun i hi hm => by simp at hi; subst hi; exact Ng0.out (by simpa using hm))
  have mkg0 := mmg0
  clear mmg0
  have kg0_c0 := kg0.here.cell 0 _ rfl
  have kg0_c1 := kg0.here.cell 1 _ rfl
  go_wp2_with fail
  clear kg0_c0 kg0_c1
  refine (heldSigned_at _ R0 (1) _ (by omega) (by omega) mkg0.here).mono ?_
  rintro e w14 ⟨rfl, b14⟩
  have bb14 := Below.next bb13 b14
  replace ka := ka.below b14
  replace kb := kb.below b14
  replace ow0 := ow0.below b14
  replace kxa := kxa.below b14
  replace mkxa := mkxa.below b14
  replace kxb := kxb.below b14
  replace mkxb := mkxb.below b14
  replace kg0 := kg0.below b14
  replace mkg0 := mkg0.below b14
  have hq14 : decide ((1 : Int) + szS R0 < 0) = false := decide_eq_false (by omega)
  have ka_c0 := ka.here.cell 0 _ rfl
  have ka_c1 := ka.here.cell 1 _ rfl
  have kb_c0 := kb.here.cell 0 _ rfl
  have kb_c1 := kb.here.cell 1 _ rfl
  go_upto_region 31 with fail
  go_cut [13] (fun s wx => NewLoc R0 w14 s wx)
  case first =>
    have HB0 := Lib.hid (show Below w14.heap.size w14 w14.drew from (Below.refl _ _).drew)
    have KL := Lib.hid (show ∀ W, Below w14.heap.size w14 W → W.cell? ⟨w.heap.size, 0, none⟩ = some (.bool a.1) ∧ W.cell? ⟨w.heap.size, 1, none⟩ = some (.slice Aa a.2.length ca) ∧ W.cell? ⟨w.heap.size + 1, 0, none⟩ = some (.bool b.1) ∧ W.cell? ⟨w.heap.size + 1, 1, none⟩ = some (.slice Ab b.2.length cb) ∧ Hid (Below w14.heap.size w14 W) from
      fun W hb => ⟨(ka.below hb).here.cell 0 _ rfl, (ka.below hb).here.cell 1 _ rfl, (kb.below hb).here.cell 0 _ rfl, (kb.below hb).here.cell 1 _ rfl, Lib.hid hb⟩)
    have BBF := Lib.hid (show ∀ W, Below w14.heap.size w14 W → Below w.heap.size w W from fun W hb => Below.next bb14 hb)
    clear ka_c0 ka_c1 kb_c0 kb_c1
    go_region_held3 (fun W => W.cell? ⟨w.heap.size, 0, none⟩ = some (.bool a.1) ∧ W.cell? ⟨w.heap.size, 1, none⟩ = some (.slice Aa a.2.length ca) ∧ W.cell? ⟨w.heap.size + 1, 0, none⟩ = some (.bool b.1) ∧ W.cell? ⟨w.heap.size + 1, 1, none⟩ = some (.slice Ab b.2.length cb) ∧ Hid (Below w14.heap.size w14 W))
      ((refine KL.out _ ?_; (first | exact HBf.out | exact HBtb.out | exact HBta.out | exact HB0.out | exact below_al HBf.out _ | exact below_al HBtb.out _ | exact below_al HBta.out _ | exact below_al HB0.out _ | exact below_set2 HBf.out (by first | exact HBtb.out.size | exact HBta.out.size | exact HB0.out.size) | fail)))
      (first
        | (go_at_call 16; (have hBB := (‹_ ∧ _ ∧ _ ∧ _ ∧ Hid (Below w14.heap.size w14 _)›).2.2.2.2); (with_reducible refine (toSigned_at _ a _ hla (RFa.out _ (BBF.out _ hBB.out))).mono ?_); rintro e wta ⟨ta, rfl, ota_, bta⟩; have HBta := Lib.hid (Below.next hBB.out bta); have ota := own_at' ota_; (try have hbxa : At [w14.heap.size] (BoxAt w14.heap.size #[.bool false, .slice none 0 0] 27) wta := At.below (box_new w14.drew _ _) bta); clear hBB)
        | (go_at_call 16; (have hBB := (‹_ ∧ _ ∧ _ ∧ _ ∧ Hid (Below w14.heap.size w14 _)›).2.2.2.2); (with_reducible refine (toSigned_at _ b _ hlb (RFb.out _ (BBF.out _ hBB.out))).mono ?_); rintro e wtb ⟨tb, rfl, otb_, btb⟩; have HBtb := Lib.hid (Below.next hBB.out btb); have otb := own_at' otb_; (have otab := At.below (by first | exact ota | exact At.below ota (below_al (Below.refl _ _) _)) btb); (first | have hbxb := At.below (box_new _ _ _) btb | have hbxb := At.below hbxa btb | skip); clear hBB)
        | (go_at_call 32; (have hBB := (‹_ ∧ _ ∧ _ ∧ _ ∧ Hid (Below w14.heap.size w14 _)›).2.2.2.2); (with_reducible refine (HI.out _ _ _ (OwnS.mk (x := a) (At.here (by first | exact otab | exact At.below otab (below_al (Below.refl _ _) _)))) (OwnS.mk (x := b) (At.here (by first | exact otb | exact At.below otb (below_al (Below.refl _ _) _))))).mono ?_); rintro e wf ⟨uf, rfl, of, bf⟩; have HBf := Lib.hid (Below.next hBB.out bf); have HBS := Lib.hid hBB.out.size; (first | have hbxf := At.below (box_new _ _ _) bf | have hbxf := At.below hbxb bf | skip); obtain ⟨Af, cf, rfl⟩ := own_len of; (try (have cz0 := hbxf.here.cell 0 _ rfl; have cz1 := hbxf.here.cell 1 _ rfl; have fz0 := Lib.frozen_of_heap hbxf.here 0; have fz1 := Lib.frozen_of_heap hbxf.here 1)); clear hBB))
    all_goals (go_wp2_with fail; go_meet; first | exact newLoc_last of HBS.out HBf.out | exact newLoc_early hbxf.here of HBS.out (by first | exact HBtb.out.size | exact HBta.out.size | exact HB0.out.size) HBf.out)
  rename World => w15
  clear ka_c0 ka_c1 kb_c0 kb_c1
  obtain ⟨gh0, uh0, rfl, oh0, lh0, b15⟩ := hcut
  obtain ⟨Ah0, ch0, eh0⟩ := own_len oh0.here.2
  subst eh0
  have bb15 := Below.next bb14 b15
  replace ka := ka.below b15
  replace kb := kb.below b15
  replace ow0 := ow0.below b15
  replace kxa := kxa.below b15
  replace mkxa := mkxa.below b15
  replace kxb := kxb.below b15
  replace mkxb := mkxb.below b15
  replace kg0 := kg0.below b15
  replace mkg0 := mkg0.below b15
  have oh0_c0 := oh0.here.1.cell 0 _ rfl
  have oh0_c1 := oh0.here.1.cell 1 _ rfl
  have ow0_c0 := ow0.here.1.cell 0 _ rfl
  have ow0_c1 := ow0.here.1.cell 1 _ rfl
  go_wp2_with fail
  clear oh0_c0 oh0_c1 ow0_c0 ow0_c1
  refine (eqSigned_at _ _ R0 R0 _ (by omega) (OwnS.rd ⟨_, rfl, oh0.here.2⟩) (OwnS.rd ⟨_, rfl, ow0.here.2⟩)).mono ?_
  rintro e w16 ⟨rfl, b16⟩
  rw [decide_refl]
  have bb16 := Below.next bb15 b16
  replace ka := ka.below b16
  replace kb := kb.below b16
  replace ow0 := ow0.below b16
  replace kxa := kxa.below b16
  replace mkxa := mkxa.below b16
  replace kxb := kxb.below b16
  replace mkxb := mkxb.below b16
  replace kg0 := kg0.below b16
  replace mkg0 := mkg0.below b16
  replace oh0 := oh0.below b16
  have kg0_c0 := kg0.here.cell 0 _ rfl
  have kg0_c1 := kg0.here.cell 1 _ rfl
  go_wp2_with fail
  clear kg0_c0 kg0_c1
  refine (heldSigned_at _ R0 (1) _ (by omega) (by omega) mkg0.here).mono ?_
  rintro e w17 ⟨rfl, b17⟩
  have bb17 := Below.next bb16 b17
  replace ka := ka.below b17
  replace kb := kb.below b17
  replace ow0 := ow0.below b17
  replace kxa := kxa.below b17
  replace mkxa := mkxa.below b17
  replace kxb := kxb.below b17
  replace mkxb := mkxb.below b17
  replace kg0 := kg0.below b17
  replace mkg0 := mkg0.below b17
  replace oh0 := oh0.below b17
  have hq17 : decide ((1 : Int) + szS R0 < 0) = false := decide_eq_false (by omega)
  go_wp2
  go_ret
  exact ⟨rfl, bb17⟩

set_option maxHeartbeats 4000000 in
set_option maxRecDepth 100000 in
theorem lawIntMul_walk (va : Value) (vb : Value) (a : SI) (b : SI) (R0 : SI) (w : World)
    (hS : ∀ (ua : Value) (ub : Value) (W : World), OwnS ua a W → OwnS ub b W → Calls Try.prog 33 #[ua, ub] W (NewS R0 W))
    (hI : ∀ (ua : Value) (ub : Value) (W : World), OwnS ua a W → OwnS ub b W → Calls Try.prog 34 #[ua, ub] W (NewS R0 W))
    (hl : szS a + szS b ≤ 1048576) (hlR0 : szS R0 ≤ 1048576) (ra : RdS w va a) (rb : RdS w vb b) :
    Calls Try.prog 10 #[va, vb] w fun e w' => e = .returned (.bool true) ∧ Below w.heap.size w w' := by
  have HS := Lib.hid hS
  have HI := Lib.hid hI
  clear hS hI
  have hsa : 0 ≤ szS a := by unfold szS szI; omega
  have hsb : 0 ≤ szS b := by unfold szS szI; omega
  have hsR0 : 0 ≤ szS R0 := by unfold szS szI; omega
  obtain ⟨ua, rfl, qa⟩ := ra
  obtain ⟨Aa, ca, rfl⟩ := row_form qa
  rw [intsV_length] at qa
  have hla : a.2.length ≤ 1048576 := by unfold szS szI at hl hsb; omega
  obtain ⟨ub, rfl, qb⟩ := rb
  obtain ⟨Ab, cb, rfl⟩ := row_form qb
  rw [intsV_length] at qb
  have hlb : b.2.length ≤ 1048576 := by unfold szS szI at hl hsa; omega
  have hlen0 : R0.2.length ≤ 1048576 := by unfold szS szI at hlR0; omega
  rw [intsV_length]
  rw [intsV_length]
  have bb0 : Below w.heap.size w ((w.alloc (.cells #[.bool a.1, .slice Aa a.2.length ca] 24)).alloc (.cells #[.bool b.1, .slice Ab b.2.length cb] 24)) := below_al (below_al (Below.refl _ _) _) _
  have ka := (box_new w #[.bool a.1, .slice Aa a.2.length ca] 24).below (below_al (Below.refl _ _) (.cells #[.bool b.1, .slice Ab b.2.length cb] 24))
  have kb := box_new (w.alloc (.cells #[.bool a.1, .slice Aa a.2.length ca] 24)) #[.bool b.1, .slice Ab b.2.length cb] 24
  rw [show (w.alloc (.cells #[.bool a.1, .slice Aa a.2.length ca] 24)).heap.size = w.heap.size + 1 by simp] at kb
  have RFa : Hid (∀ W, Below w.heap.size w W → RdS W (.agg #[.bool a.1, .slice Aa a.2.length ca]) a) := Lib.hid fun W hb => rdS_below qa hb
  have RFb : Hid (∀ W, Below w.heap.size w W → RdS W (.agg #[.bool b.1, .slice Ab b.2.length cb]) b) := Lib.hid fun W hb => rdS_below qb hb
  go_enter Try.func10, Try.ntmps10
  have ka_c0 := ka.here.cell 0 _ rfl
  have ka_c1 := ka.here.cell 1 _ rfl
  go_wp2_with fail
  clear ka_c0 ka_c1
  refine (szSigned_at _ a (1048576) _ (by omega) (by omega) (by omega) (RFa.out _ bb0)).mono ?_
  rintro e w1 ⟨rfl, b1⟩
  rw [leftI_of (by omega)]
  have bb1 := Below.next bb0 b1
  replace ka := ka.below b1
  replace kb := kb.below b1
  have hn : decide (((1048576 : Int) - szS a : Int) < 0) = false := decide_eq_false (by omega)
  have kb_c0 := kb.here.cell 0 _ rfl
  have kb_c1 := kb.here.cell 1 _ rfl
  go_wp2_with fail
  clear kb_c0 kb_c1
  refine (szSigned_at _ b (1048576 - szS a) _ (by omega) (by omega) (by omega) (RFb.out _ bb1)).mono ?_
  rintro e w2 ⟨rfl, b2⟩
  rw [leftI_of (by omega)]
  have bb2 := Below.next bb1 b2
  replace ka := ka.below b2
  replace kb := kb.below b2
  clear hn
  have hn : decide (((1048576 : Int) - szS a - szS b : Int) < 0) = false := decide_eq_false (by omega)
  have HKa := Lib.hid (ka.lt (w.heap.size) (by simp))
  have HKb := Lib.hid (kb.lt (w.heap.size + 1) (by simp))
  have ka_c0 := ka.here.cell 0 _ rfl
  have ka_c1 := ka.here.cell 1 _ rfl
  have kb_c0 := kb.here.cell 0 _ rfl
  have kb_c1 := kb.here.cell 1 _ rfl
  go_upto_region 8 with fail
  go_cut [6] (fun s wx => NewLoc R0 w2 s wx)
  case first =>
    have HB0 := Lib.hid (show Below w2.heap.size w2 w2.drew from (Below.refl _ _).drew)
    have KL := Lib.hid (show ∀ W, Below w2.heap.size w2 W → W.cell? ⟨w.heap.size, 0, none⟩ = some (.bool a.1) ∧ W.cell? ⟨w.heap.size, 1, none⟩ = some (.slice Aa a.2.length ca) ∧ W.cell? ⟨w.heap.size + 1, 0, none⟩ = some (.bool b.1) ∧ W.cell? ⟨w.heap.size + 1, 1, none⟩ = some (.slice Ab b.2.length cb) ∧ Hid (Below w2.heap.size w2 W) from
      fun W hb => ⟨(ka.below hb).here.cell 0 _ rfl, (ka.below hb).here.cell 1 _ rfl, (kb.below hb).here.cell 0 _ rfl, (kb.below hb).here.cell 1 _ rfl, Lib.hid hb⟩)
    have BBF := Lib.hid (show ∀ W, Below w2.heap.size w2 W → Below w.heap.size w W from fun W hb => Below.next bb2 hb)
    clear ka_c0 ka_c1 kb_c0 kb_c1
    go_region_held3 (fun W => W.cell? ⟨w.heap.size, 0, none⟩ = some (.bool a.1) ∧ W.cell? ⟨w.heap.size, 1, none⟩ = some (.slice Aa a.2.length ca) ∧ W.cell? ⟨w.heap.size + 1, 0, none⟩ = some (.bool b.1) ∧ W.cell? ⟨w.heap.size + 1, 1, none⟩ = some (.slice Ab b.2.length cb) ∧ Hid (Below w2.heap.size w2 W))
      ((refine KL.out _ ?_; (first | exact HBf.out | exact HBtb.out | exact HBta.out | exact HB0.out | exact below_al HBf.out _ | exact below_al HBtb.out _ | exact below_al HBta.out _ | exact below_al HB0.out _ | exact below_set2 HBf.out (by first | exact HBtb.out.size | exact HBta.out.size | exact HB0.out.size) | fail)))
      (first
        | (go_at_call 16; (have hBB := (‹_ ∧ _ ∧ _ ∧ _ ∧ Hid (Below w2.heap.size w2 _)›).2.2.2.2); (with_reducible refine (toSigned_at _ a _ hla (RFa.out _ (BBF.out _ hBB.out))).mono ?_); rintro e wta ⟨ta, rfl, ota_, bta⟩; have HBta := Lib.hid (Below.next hBB.out bta); have ota := own_at' ota_; (try have hbxa : At [w2.heap.size] (BoxAt w2.heap.size #[.bool false, .slice none 0 0] 27) wta := At.below (box_new w2.drew _ _) bta); clear hBB)
        | (go_at_call 16; (have hBB := (‹_ ∧ _ ∧ _ ∧ _ ∧ Hid (Below w2.heap.size w2 _)›).2.2.2.2); (with_reducible refine (toSigned_at _ b _ hlb (RFb.out _ (BBF.out _ hBB.out))).mono ?_); rintro e wtb ⟨tb, rfl, otb_, btb⟩; have HBtb := Lib.hid (Below.next hBB.out btb); have otb := own_at' otb_; (have otab := At.below (by first | exact ota | exact At.below ota (below_al (Below.refl _ _) _)) btb); (first | have hbxb := At.below (box_new _ _ _) btb | have hbxb := At.below hbxa btb | skip); clear hBB)
        | (go_at_call 33; (have hBB := (‹_ ∧ _ ∧ _ ∧ _ ∧ Hid (Below w2.heap.size w2 _)›).2.2.2.2); (with_reducible refine (HS.out _ _ _ (OwnS.mk (x := a) (At.here (by first | exact otab | exact At.below otab (below_al (Below.refl _ _) _)))) (OwnS.mk (x := b) (At.here (by first | exact otb | exact At.below otb (below_al (Below.refl _ _) _))))).mono ?_); rintro e wf ⟨uf, rfl, of, bf⟩; have HBf := Lib.hid (Below.next hBB.out bf); have HBS := Lib.hid hBB.out.size; (first | have hbxf := At.below (box_new _ _ _) bf | have hbxf := At.below hbxb bf | skip); obtain ⟨Af, cf, rfl⟩ := own_len of; (try (have cz0 := hbxf.here.cell 0 _ rfl; have cz1 := hbxf.here.cell 1 _ rfl; have fz0 := Lib.frozen_of_heap hbxf.here 0; have fz1 := Lib.frozen_of_heap hbxf.here 1)); clear hBB))
    all_goals (go_wp2_with fail; go_meet; first | exact newLoc_last of HBS.out HBf.out | exact newLoc_early hbxf.here of HBS.out (by first | exact HBtb.out.size | exact HBta.out.size | exact HB0.out.size) HBf.out)
  rename World => w3
  clear ka_c0 ka_c1 kb_c0 kb_c1
  obtain ⟨gw0, uw0, rfl, ow0, lw0, b3⟩ := hcut
  obtain ⟨Aw0, cw0, ew0⟩ := own_len ow0.here.2
  subst ew0
  have bb3 := Below.next bb2 b3
  replace ka := ka.below b3
  replace kb := kb.below b3
  have ka_c0 := ka.here.cell 0 _ rfl
  have ka_c1 := ka.here.cell 1 _ rfl
  go_upto_region 9 with fail
  go_cut [7] (fun s wx => NewLoc a w3 s wx)
  case first =>
    go_wp2_with fail
    refine (toSigned_at _ a _ hla (RFa.out _ bb3)).mono ?_
    rintro e wt ⟨ut, rfl, ot, bt⟩
    obtain ⟨At_, ct, rfl⟩ := own_len ot
    go_wp2_with fail
    go_meet
    exact newLoc_last ot (Nat.le_refl _) bt
  rename World => w4
  clear ka_c0 ka_c1
  obtain ⟨gxa, uxa, rfl, oxa, lxa, b4⟩ := hcut
  obtain ⟨Axa, cxa, exa⟩ := own_len oxa.here.2
  subst exa
  have bb4 := Below.next bb3 b4
  replace ka := ka.below b4
  replace kb := kb.below b4
  replace ow0 := ow0.below b4
  have kb_c0 := kb.here.cell 0 _ rfl
  have kb_c1 := kb.here.cell 1 _ rfl
  go_upto_region 10 with fail
  go_cut [8] (fun s wx => NewLoc b w4 s wx)
  case first =>
    go_wp2_with fail
    refine (toSigned_at _ b _ hlb (RFb.out _ bb4)).mono ?_
    rintro e wt ⟨ut, rfl, ot, bt⟩
    obtain ⟨At_, ct, rfl⟩ := own_len ot
    go_wp2_with fail
    go_meet
    exact newLoc_last ot (Nat.le_refl _) bt
  rename World => w5
  clear kb_c0 kb_c1
  obtain ⟨gxb, uxb, rfl, oxb, lxb, b5⟩ := hcut
  obtain ⟨Axb, cxb, exb⟩ := own_len oxb.here.2
  subst exb
  have bb5 := Below.next bb4 b5
  replace ka := ka.below b5
  replace kb := kb.below b5
  replace ow0 := ow0.below b5
  replace oxa := oxa.below b5
  have oxa_c0 := oxa.here.1.cell 0 _ rfl
  have oxa_c1 := oxa.here.1.cell 1 _ rfl
  have oxb_c0 := oxb.here.1.cell 0 _ rfl
  have oxb_c1 := oxb.here.1.cell 1 _ rfl
  go_upto_region 11 with fail
  go_cut [9] (fun s wx => NewLoc R0 w5 s wx)
  case first =>
    go_wp2_with fail
    refine (HI.out _ _ _ ⟨_, rfl, oxa.here.2⟩ ⟨_, rfl, oxb.here.2⟩).mono ?_
    rintro e wf ⟨uf, rfl, of, bf⟩
    obtain ⟨Af, cf, rfl⟩ := own_len of
    go_wp2_with fail
    go_meet
    exact newLoc_last of (Nat.le_refl _) bf
  rename World => w6
  clear oxa_c0 oxa_c1 oxb_c0 oxb_c1
  obtain ⟨gg0, ug0, rfl, og0, lg0, b6⟩ := hcut
  obtain ⟨Ag0, cg0, eg0⟩ := own_len og0.here.2
  subst eg0
  have bb6 := Below.next bb5 b6
  replace ka := ka.below b6
  replace kb := kb.below b6
  replace ow0 := ow0.below b6
  replace oxa := oxa.below b6
  replace oxb := oxb.below b6
  have og0_c0 := og0.here.1.cell 0 _ rfl
  have og0_c1 := og0.here.1.cell 1 _ rfl
  have ow0_c0 := ow0.here.1.cell 0 _ rfl
  have ow0_c1 := ow0.here.1.cell 1 _ rfl
  go_wp2_with fail
  clear og0_c0 og0_c1 ow0_c0 ow0_c1
  refine (eqSigned_at _ _ R0 R0 _ (by omega) (OwnS.rd ⟨_, rfl, og0.here.2⟩) (OwnS.rd ⟨_, rfl, ow0.here.2⟩)).mono ?_
  rintro e w7 ⟨rfl, b7⟩
  rw [decide_refl]
  have bb7 := Below.next bb6 b7
  replace ka := ka.below b7
  replace kb := kb.below b7
  replace ow0 := ow0.below b7
  replace oxa := oxa.below b7
  replace oxb := oxb.below b7
  replace og0 := og0.below b7
  have ka_c0 := ka.here.cell 0 _ rfl
  have ka_c1 := ka.here.cell 1 _ rfl
  have oxa_c0 := oxa.here.1.cell 0 _ rfl
  have oxa_c1 := oxa.here.1.cell 1 _ rfl
  go_wp2_with fail
  have HB0 := Lib.hid (show Below w7.heap.size w7 w7.drew from (Below.refl _ _).drew)
  have KL := Lib.hid (show ∀ W, Below w7.heap.size w7 W → W.cell? ⟨w.heap.size, 0, none⟩ = some (.bool a.1) ∧ W.cell? ⟨w.heap.size, 1, none⟩ = some (.slice Aa a.2.length ca) ∧ W.cell? ⟨gxa, 0, none⟩ = some (.bool a.1) ∧ W.cell? ⟨gxa, 1, none⟩ = some (.slice Axa a.2.length cxa) ∧ Hid (Below w7.heap.size w7 W) from
    fun W hb => ⟨(ka.below hb).here.cell 0 _ rfl, (ka.below hb).here.cell 1 _ rfl, (oxa.below hb).here.1.cell 0 _ rfl, (oxa.below hb).here.1.cell 1 _ rfl, Lib.hid hb⟩)
  have BBF := Lib.hid (show ∀ W, Below w7.heap.size w7 W → Below w.heap.size w W from fun W hb => Below.next bb7 hb)
  have OXF := Lib.hid (show ∀ W, Below w7.heap.size w7 W → OwnI _ a.2 W from fun W hb => (oxa.below hb).here.2)
  clear ka_c0 ka_c1 oxa_c0 oxa_c1
  go_region_held3 (fun W => W.cell? ⟨w.heap.size, 0, none⟩ = some (.bool a.1) ∧ W.cell? ⟨w.heap.size, 1, none⟩ = some (.slice Aa a.2.length ca) ∧ W.cell? ⟨gxa, 0, none⟩ = some (.bool a.1) ∧ W.cell? ⟨gxa, 1, none⟩ = some (.slice Axa a.2.length cxa) ∧ Hid (Below w7.heap.size w7 W))
    ((refine KL.out _ ?_; (first | exact HBe.out | exact HBt.out | exact HB0.out | fail)))
    (first
      | (go_at_call 16; (have hBB := (‹_ ∧ _ ∧ _ ∧ _ ∧ Hid (Below w7.heap.size w7 _)›).2.2.2.2); (with_reducible refine (toSigned_at _ a _ hla (RFa.out _ (BBF.out _ hBB.out))).mono ?_); rintro e wt ⟨t, rfl, ot, bt⟩; have HBt := Lib.hid (Below.next hBB.out bt); clear hBB)
      | (go_at_call 18; (have hBB := (‹_ ∧ _ ∧ _ ∧ _ ∧ Hid (Below w7.heap.size w7 _)›).2.2.2.2); (with_reducible refine (eqSigned_at _ _ a a _ (by omega) (OwnS.rd (OwnS.mk (x := a) (OXF.out _ hBB.out))) (OwnS.rd (OwnS.mk (x := a) (ownI_of ot)))).mono ?_); rintro e w8 ⟨rfl, be⟩; rw [decide_refl]; have HBe := Lib.hid (Below.next hBB.out be); clear hBB))
  have b8 := HBe.out
  have bb8 := Below.next bb7 b8
  replace ka := ka.below b8
  replace kb := kb.below b8
  replace ow0 := ow0.below b8
  replace oxa := oxa.below b8
  replace oxb := oxb.below b8
  replace og0 := og0.below b8
  clear HB0 KL BBF OXF HBt HBe ot
  have kb_c0 := kb.here.cell 0 _ rfl
  have kb_c1 := kb.here.cell 1 _ rfl
  have oxb_c0 := oxb.here.1.cell 0 _ rfl
  have oxb_c1 := oxb.here.1.cell 1 _ rfl
  go_wp2_with fail
  have HB0 := Lib.hid (show Below w8.heap.size w8 w8.drew from (Below.refl _ _).drew)
  have KL := Lib.hid (show ∀ W, Below w8.heap.size w8 W → W.cell? ⟨w.heap.size + 1, 0, none⟩ = some (.bool b.1) ∧ W.cell? ⟨w.heap.size + 1, 1, none⟩ = some (.slice Ab b.2.length cb) ∧ W.cell? ⟨gxb, 0, none⟩ = some (.bool b.1) ∧ W.cell? ⟨gxb, 1, none⟩ = some (.slice Axb b.2.length cxb) ∧ Hid (Below w8.heap.size w8 W) from
    fun W hb => ⟨(kb.below hb).here.cell 0 _ rfl, (kb.below hb).here.cell 1 _ rfl, (oxb.below hb).here.1.cell 0 _ rfl, (oxb.below hb).here.1.cell 1 _ rfl, Lib.hid hb⟩)
  have BBF := Lib.hid (show ∀ W, Below w8.heap.size w8 W → Below w.heap.size w W from fun W hb => Below.next bb8 hb)
  have OXF := Lib.hid (show ∀ W, Below w8.heap.size w8 W → OwnI _ b.2 W from fun W hb => (oxb.below hb).here.2)
  clear kb_c0 kb_c1 oxb_c0 oxb_c1
  go_region_held3 (fun W => W.cell? ⟨w.heap.size + 1, 0, none⟩ = some (.bool b.1) ∧ W.cell? ⟨w.heap.size + 1, 1, none⟩ = some (.slice Ab b.2.length cb) ∧ W.cell? ⟨gxb, 0, none⟩ = some (.bool b.1) ∧ W.cell? ⟨gxb, 1, none⟩ = some (.slice Axb b.2.length cxb) ∧ Hid (Below w8.heap.size w8 W))
    ((refine KL.out _ ?_; (first | exact HBe.out | exact HBt.out | exact HB0.out | fail)))
    (first
      | (go_at_call 16; (have hBB := (‹_ ∧ _ ∧ _ ∧ _ ∧ Hid (Below w8.heap.size w8 _)›).2.2.2.2); (with_reducible refine (toSigned_at _ b _ hlb (RFb.out _ (BBF.out _ hBB.out))).mono ?_); rintro e wt ⟨t, rfl, ot, bt⟩; have HBt := Lib.hid (Below.next hBB.out bt); clear hBB)
      | (go_at_call 18; (have hBB := (‹_ ∧ _ ∧ _ ∧ _ ∧ Hid (Below w8.heap.size w8 _)›).2.2.2.2); (with_reducible refine (eqSigned_at _ _ b b _ (by omega) (OwnS.rd (OwnS.mk (x := b) (OXF.out _ hBB.out))) (OwnS.rd (OwnS.mk (x := b) (ownI_of ot)))).mono ?_); rintro e w9 ⟨rfl, be⟩; rw [decide_refl]; have HBe := Lib.hid (Below.next hBB.out be); clear hBB))
  have b9 := HBe.out
  have bb9 := Below.next bb8 b9
  replace ka := ka.below b9
  replace kb := kb.below b9
  replace ow0 := ow0.below b9
  replace oxa := oxa.below b9
  replace oxb := oxb.below b9
  replace og0 := og0.below b9
  clear HB0 KL BBF OXF HBt HBe ot
  have z1 := b1.size
  have z2 := b2.size
  have z3 := b3.size
  have z4 := b4.size
  have z5 := b5.size
  have z6 := b6.size
  have z7 := b7.size
  have z8 := b8.size
  have z9 := b9.size
  have AP_xa_xb := Lib.hid (Within.apart lxa lxb (.inl (by omega)))
  have AP_xa_g0 := Lib.hid (Within.apart lxa lg0 (.inl (by omega)))
  have AP_xb_g0 := Lib.hid (Within.apart lxb lg0 (.inl (by omega)))
  have AP_w0_xa := Lib.hid (Within.apart lw0 lxa (.inl (by omega)))
  have AP_w0_xb := Lib.hid (Within.apart lw0 lxb (.inl (by omega)))
  have AP_w0_g0 := Lib.hid (Within.apart lw0 lg0 (.inl (by omega)))
  have F_xa := Lib.hid (Within.from (B := w.heap.size) lxa (by have := bb2.size; omega))
  have KX_a_xa := Lib.hid (show ∀ i ∈ [w.heap.size], i ∉ locB gxa (.slice Axa a.2.length cxa) from fun i hi hm => by have h1 := (lxa i hm).1; have h2 := HKa.out; simp at hi; omega)
  have KX_b_xa := Lib.hid (show ∀ i ∈ [w.heap.size + 1], i ∉ locB gxa (.slice Axa a.2.length cxa) from fun i hi hm => by have h1 := (lxa i hm).1; have h2 := HKb.out; simp at hi; omega)
  have F_xb := Lib.hid (Within.from (B := w.heap.size) lxb (by have := bb2.size; omega))
  have KX_a_xb := Lib.hid (show ∀ i ∈ [w.heap.size], i ∉ locB gxb (.slice Axb b.2.length cxb) from fun i hi hm => by have h1 := (lxb i hm).1; have h2 := HKa.out; simp at hi; omega)
  have KX_b_xb := Lib.hid (show ∀ i ∈ [w.heap.size + 1], i ∉ locB gxb (.slice Axb b.2.length cxb) from fun i hi hm => by have h1 := (lxb i hm).1; have h2 := HKb.out; simp at hi; omega)
  have F_g0 := Lib.hid (Within.from (B := w.heap.size) lg0 (by have := bb2.size; omega))
  have KX_a_g0 := Lib.hid (show ∀ i ∈ [w.heap.size], i ∉ locB gg0 (.slice Ag0 R0.2.length cg0) from fun i hi hm => by have h1 := (lg0 i hm).1; have h2 := HKa.out; simp at hi; omega)
  have KX_b_g0 := Lib.hid (show ∀ i ∈ [w.heap.size + 1], i ∉ locB gg0 (.slice Ag0 R0.2.length cg0) from fun i hi hm => by have h1 := (lg0 i hm).1; have h2 := HKb.out; simp at hi; omega)
  clear z1 z2 z3 z4 z5 z6 z7 z8 z9
  have kxa := box_at oxa.here.1
  have mxa := own_at' oxa.here.2
  have Nxa := Lib.hid (Lib.ownBlock_ne oxa.here.2 oxa.here.1 (by decide))
  clear oxa
  have kxa_c0 := kxa.here.cell 0 _ rfl
  have kxa_c1 := kxa.here.cell 1 _ rfl
  go_wp2_with fail
  clear kxa_c0 kxa_c1
  refine (markSigned_at _ a _ (1) _ (by omega) (by omega) (mxa.imp fun _ h => OwnS.mk (x := a) h)).mono ?_
  rintro e w10 ⟨rfl, mmxa, c10⟩
  clear mxa
  have bb10 := below_chg bb9 c10 bb9.size (fun i hi => F_xa.out i (by unfold locB; exact List.mem_cons_of_mem _ hi))
  replace ka := ka.chg c10 (fun i hi hm => KX_a_xa.out i hi (by unfold locB; exact List.mem_cons_of_mem _ hm))
  replace kb := kb.chg c10 (fun i hi hm => KX_b_xa.out i hi (by unfold locB; exact List.mem_cons_of_mem _ hm))
  replace ow0 := ow0.chg c10 (fun i hi hm => AP_w0_xa.out i hi (by unfold locB; exact List.mem_cons_of_mem _ hm))
  replace oxb := oxb.chg c10 (fun i hi hm => (apart_symm AP_xa_xb.out) i hi (by unfold locB; exact List.mem_cons_of_mem _ hm))
  replace og0 := og0.chg c10 (fun i hi hm => (apart_symm AP_xa_g0.out) i hi (by unfold locB; exact List.mem_cons_of_mem _ hm))
  replace kxa := kxa.chg c10 (fun i hi hm => by simp at hi; subst hi; exact Nxa.out (by simpa using hm))
  have mkxa := mmxa
  clear mmxa
  have kxb := box_at oxb.here.1
  have mxb := own_at' oxb.here.2
  have Nxb := Lib.hid (Lib.ownBlock_ne oxb.here.2 oxb.here.1 (by decide))
  clear oxb
  have kxb_c0 := kxb.here.cell 0 _ rfl
  have kxb_c1 := kxb.here.cell 1 _ rfl
  go_wp2_with fail
  clear kxb_c0 kxb_c1
  refine (markSigned_at _ b _ (1 + szS a) _ (by omega) (by omega) (mxb.imp fun _ h => OwnS.mk (x := b) h)).mono ?_
  rintro e w11 ⟨rfl, mmxb, c11⟩
  clear mxb
  have bb11 := below_chg bb10 c11 bb10.size (fun i hi => F_xb.out i (by unfold locB; exact List.mem_cons_of_mem _ hi))
  replace ka := ka.chg c11 (fun i hi hm => KX_a_xb.out i hi (by unfold locB; exact List.mem_cons_of_mem _ hm))
  replace kb := kb.chg c11 (fun i hi hm => KX_b_xb.out i hi (by unfold locB; exact List.mem_cons_of_mem _ hm))
  replace ow0 := ow0.chg c11 (fun i hi hm => AP_w0_xb.out i hi (by unfold locB; exact List.mem_cons_of_mem _ hm))
  replace og0 := og0.chg c11 (fun i hi hm => (apart_symm AP_xb_g0.out) i hi (by unfold locB; exact List.mem_cons_of_mem _ hm))
  replace kxa := kxa.chg c11 (fun i hi hm => AP_xa_xb.out i (by unfold locB; simp at hi; subst hi; exact List.mem_cons_self ..) (by unfold locB; exact List.mem_cons_of_mem _ hm))
  replace mkxa := mkxa.chg c11 (fun i hi hm => AP_xa_xb.out i (by unfold locB; exact List.mem_cons_of_mem _ hi) (by unfold locB; exact List.mem_cons_of_mem _ hm))
  replace kxb := kxb.chg c11 (fun i hi hm => by simp at hi; subst hi; exact Nxb.out (by simpa using hm))
  have mkxb := mmxb
  clear mmxb
  have hk : decide (((1 + szS a + szS b) : Int) < 0) = false := decide_eq_false (by omega)
  have og0_c0 := og0.here.1.cell 0 _ rfl
  have og0_c1 := og0.here.1.cell 1 _ rfl
  have ow0_c0 := ow0.here.1.cell 0 _ rfl
  have ow0_c1 := ow0.here.1.cell 1 _ rfl
  go_wp2_with fail
  clear og0_c0 og0_c1 ow0_c0 ow0_c1
  refine (eqSigned_at _ _ R0 R0 _ (by omega) (OwnS.rd ⟨_, rfl, og0.here.2⟩) (OwnS.rd ⟨_, rfl, ow0.here.2⟩)).mono ?_
  rintro e w12 ⟨rfl, b12⟩
  rw [decide_refl]
  have bb12 := Below.next bb11 b12
  replace ka := ka.below b12
  replace kb := kb.below b12
  replace ow0 := ow0.below b12
  replace og0 := og0.below b12
  replace kxa := kxa.below b12
  replace mkxa := mkxa.below b12
  replace kxb := kxb.below b12
  replace mkxb := mkxb.below b12
  clear hk
  have kg0 := box_at og0.here.1
  have mg0 := own_at' og0.here.2
  have Ng0 := Lib.hid (Lib.ownBlock_ne og0.here.2 og0.here.1 (by decide))
  clear og0
  have kg0_c0 := kg0.here.cell 0 _ rfl
  have kg0_c1 := kg0.here.cell 1 _ rfl
  go_wp2_with fail
  clear kg0_c0 kg0_c1
  refine (markSigned_at _ R0 _ (1) _ (by omega) (by omega) (mg0.imp fun _ h => OwnS.mk (x := R0) h)).mono ?_
  rintro e w13 ⟨rfl, mmg0, c13⟩
  clear mg0
  have bb13 := below_chg bb12 c13 bb12.size (fun i hi => F_g0.out i (by unfold locB; exact List.mem_cons_of_mem _ hi))
  replace ka := ka.chg c13 (fun i hi hm => KX_a_g0.out i hi (by unfold locB; exact List.mem_cons_of_mem _ hm))
  replace kb := kb.chg c13 (fun i hi hm => KX_b_g0.out i hi (by unfold locB; exact List.mem_cons_of_mem _ hm))
  replace ow0 := ow0.chg c13 (fun i hi hm => AP_w0_g0.out i hi (by unfold locB; exact List.mem_cons_of_mem _ hm))
  replace kxa := kxa.chg c13 (fun i hi hm => AP_xa_g0.out i (by unfold locB; simp at hi; subst hi; exact List.mem_cons_self ..) (by unfold locB; exact List.mem_cons_of_mem _ hm))
  replace mkxa := mkxa.chg c13 (fun i hi hm => AP_xa_g0.out i (by unfold locB; exact List.mem_cons_of_mem _ hi) (by unfold locB; exact List.mem_cons_of_mem _ hm))
  replace kxb := kxb.chg c13 (fun i hi hm => AP_xb_g0.out i (by unfold locB; simp at hi; subst hi; exact List.mem_cons_self ..) (by unfold locB; exact List.mem_cons_of_mem _ hm))
  replace mkxb := mkxb.chg c13 (fun i hi hm => AP_xb_g0.out i (by unfold locB; exact List.mem_cons_of_mem _ hi) (by unfold locB; exact List.mem_cons_of_mem _ hm))
  replace kg0 := kg0.chg c13 (fun i hi hm => by simp at hi; subst hi; exact Ng0.out (by simpa using hm))
  have mkg0 := mmg0
  clear mmg0
  have kg0_c0 := kg0.here.cell 0 _ rfl
  have kg0_c1 := kg0.here.cell 1 _ rfl
  go_wp2_with fail
  clear kg0_c0 kg0_c1
  refine (heldSigned_at _ R0 (1) _ (by omega) (by omega) mkg0.here).mono ?_
  rintro e w14 ⟨rfl, b14⟩
  have bb14 := Below.next bb13 b14
  replace ka := ka.below b14
  replace kb := kb.below b14
  replace ow0 := ow0.below b14
  replace kxa := kxa.below b14
  replace mkxa := mkxa.below b14
  replace kxb := kxb.below b14
  replace mkxb := mkxb.below b14
  replace kg0 := kg0.below b14
  replace mkg0 := mkg0.below b14
  have hq14 : decide ((1 : Int) + szS R0 < 0) = false := decide_eq_false (by omega)
  have ka_c0 := ka.here.cell 0 _ rfl
  have ka_c1 := ka.here.cell 1 _ rfl
  have kb_c0 := kb.here.cell 0 _ rfl
  have kb_c1 := kb.here.cell 1 _ rfl
  go_upto_region 31 with fail
  go_cut [13] (fun s wx => NewLoc R0 w14 s wx)
  case first =>
    have HB0 := Lib.hid (show Below w14.heap.size w14 w14.drew from (Below.refl _ _).drew)
    have KL := Lib.hid (show ∀ W, Below w14.heap.size w14 W → W.cell? ⟨w.heap.size, 0, none⟩ = some (.bool a.1) ∧ W.cell? ⟨w.heap.size, 1, none⟩ = some (.slice Aa a.2.length ca) ∧ W.cell? ⟨w.heap.size + 1, 0, none⟩ = some (.bool b.1) ∧ W.cell? ⟨w.heap.size + 1, 1, none⟩ = some (.slice Ab b.2.length cb) ∧ Hid (Below w14.heap.size w14 W) from
      fun W hb => ⟨(ka.below hb).here.cell 0 _ rfl, (ka.below hb).here.cell 1 _ rfl, (kb.below hb).here.cell 0 _ rfl, (kb.below hb).here.cell 1 _ rfl, Lib.hid hb⟩)
    have BBF := Lib.hid (show ∀ W, Below w14.heap.size w14 W → Below w.heap.size w W from fun W hb => Below.next bb14 hb)
    clear ka_c0 ka_c1 kb_c0 kb_c1
    go_region_held3 (fun W => W.cell? ⟨w.heap.size, 0, none⟩ = some (.bool a.1) ∧ W.cell? ⟨w.heap.size, 1, none⟩ = some (.slice Aa a.2.length ca) ∧ W.cell? ⟨w.heap.size + 1, 0, none⟩ = some (.bool b.1) ∧ W.cell? ⟨w.heap.size + 1, 1, none⟩ = some (.slice Ab b.2.length cb) ∧ Hid (Below w14.heap.size w14 W))
      ((refine KL.out _ ?_; (first | exact HBf.out | exact HBtb.out | exact HBta.out | exact HB0.out | exact below_al HBf.out _ | exact below_al HBtb.out _ | exact below_al HBta.out _ | exact below_al HB0.out _ | exact below_set2 HBf.out (by first | exact HBtb.out.size | exact HBta.out.size | exact HB0.out.size) | fail)))
      (first
        | (go_at_call 16; (have hBB := (‹_ ∧ _ ∧ _ ∧ _ ∧ Hid (Below w14.heap.size w14 _)›).2.2.2.2); (with_reducible refine (toSigned_at _ a _ hla (RFa.out _ (BBF.out _ hBB.out))).mono ?_); rintro e wta ⟨ta, rfl, ota_, bta⟩; have HBta := Lib.hid (Below.next hBB.out bta); have ota := own_at' ota_; (try have hbxa : At [w14.heap.size] (BoxAt w14.heap.size #[.bool false, .slice none 0 0] 27) wta := At.below (box_new w14.drew _ _) bta); clear hBB)
        | (go_at_call 16; (have hBB := (‹_ ∧ _ ∧ _ ∧ _ ∧ Hid (Below w14.heap.size w14 _)›).2.2.2.2); (with_reducible refine (toSigned_at _ b _ hlb (RFb.out _ (BBF.out _ hBB.out))).mono ?_); rintro e wtb ⟨tb, rfl, otb_, btb⟩; have HBtb := Lib.hid (Below.next hBB.out btb); have otb := own_at' otb_; (have otab := At.below (by first | exact ota | exact At.below ota (below_al (Below.refl _ _) _)) btb); (first | have hbxb := At.below (box_new _ _ _) btb | have hbxb := At.below hbxa btb | skip); clear hBB)
        | (go_at_call 34; (have hBB := (‹_ ∧ _ ∧ _ ∧ _ ∧ Hid (Below w14.heap.size w14 _)›).2.2.2.2); (with_reducible refine (HI.out _ _ _ (OwnS.mk (x := a) (At.here (by first | exact otab | exact At.below otab (below_al (Below.refl _ _) _)))) (OwnS.mk (x := b) (At.here (by first | exact otb | exact At.below otb (below_al (Below.refl _ _) _))))).mono ?_); rintro e wf ⟨uf, rfl, of, bf⟩; have HBf := Lib.hid (Below.next hBB.out bf); have HBS := Lib.hid hBB.out.size; (first | have hbxf := At.below (box_new _ _ _) bf | have hbxf := At.below hbxb bf | skip); obtain ⟨Af, cf, rfl⟩ := own_len of; (try (have cz0 := hbxf.here.cell 0 _ rfl; have cz1 := hbxf.here.cell 1 _ rfl; have fz0 := Lib.frozen_of_heap hbxf.here 0; have fz1 := Lib.frozen_of_heap hbxf.here 1)); clear hBB))
    all_goals (go_wp2_with fail; go_meet; first | exact newLoc_last of HBS.out HBf.out | exact newLoc_early hbxf.here of HBS.out (by first | exact HBtb.out.size | exact HBta.out.size | exact HB0.out.size) HBf.out)
  rename World => w15
  clear ka_c0 ka_c1 kb_c0 kb_c1
  obtain ⟨gh0, uh0, rfl, oh0, lh0, b15⟩ := hcut
  obtain ⟨Ah0, ch0, eh0⟩ := own_len oh0.here.2
  subst eh0
  have bb15 := Below.next bb14 b15
  replace ka := ka.below b15
  replace kb := kb.below b15
  replace ow0 := ow0.below b15
  replace kxa := kxa.below b15
  replace mkxa := mkxa.below b15
  replace kxb := kxb.below b15
  replace mkxb := mkxb.below b15
  replace kg0 := kg0.below b15
  replace mkg0 := mkg0.below b15
  have oh0_c0 := oh0.here.1.cell 0 _ rfl
  have oh0_c1 := oh0.here.1.cell 1 _ rfl
  have ow0_c0 := ow0.here.1.cell 0 _ rfl
  have ow0_c1 := ow0.here.1.cell 1 _ rfl
  go_wp2_with fail
  clear oh0_c0 oh0_c1 ow0_c0 ow0_c1
  refine (eqSigned_at _ _ R0 R0 _ (by omega) (OwnS.rd ⟨_, rfl, oh0.here.2⟩) (OwnS.rd ⟨_, rfl, ow0.here.2⟩)).mono ?_
  rintro e w16 ⟨rfl, b16⟩
  rw [decide_refl]
  have bb16 := Below.next bb15 b16
  replace ka := ka.below b16
  replace kb := kb.below b16
  replace ow0 := ow0.below b16
  replace kxa := kxa.below b16
  replace mkxa := mkxa.below b16
  replace kxb := kxb.below b16
  replace mkxb := mkxb.below b16
  replace kg0 := kg0.below b16
  replace mkg0 := mkg0.below b16
  replace oh0 := oh0.below b16
  have kg0_c0 := kg0.here.cell 0 _ rfl
  have kg0_c1 := kg0.here.cell 1 _ rfl
  go_wp2_with fail
  clear kg0_c0 kg0_c1
  refine (heldSigned_at _ R0 (1) _ (by omega) (by omega) mkg0.here).mono ?_
  rintro e w17 ⟨rfl, b17⟩
  have bb17 := Below.next bb16 b17
  replace ka := ka.below b17
  replace kb := kb.below b17
  replace ow0 := ow0.below b17
  replace kxa := kxa.below b17
  replace mkxa := mkxa.below b17
  replace kxb := kxb.below b17
  replace mkxb := mkxb.below b17
  replace kg0 := kg0.below b17
  replace mkg0 := mkg0.below b17
  replace oh0 := oh0.below b17
  have hq17 : decide ((1 : Int) + szS R0 < 0) = false := decide_eq_false (by omega)
  go_wp2
  go_ret
  exact ⟨rfl, bb17⟩

set_option maxHeartbeats 4000000 in
set_option maxRecDepth 100000 in
theorem lawIntCmp_walk (va : Value) (vb : Value) (a : SI) (b : SI) (R0 : Int) (w : World)
    (hS : ∀ (ua : Value) (ub : Value) (W : World), OwnS ua a W → OwnS ub b W → Calls Try.prog 35 #[ua, ub] W (Postn R0 W))
    (hI : ∀ (ua : Value) (ub : Value) (W : World), OwnS ua a W → OwnS ub b W → Calls Try.prog 36 #[ua, ub] W (Postn R0 W))
    (hl : szS a + szS b ≤ 1048576) (ra : RdS w va a) (rb : RdS w vb b) :
    Calls Try.prog 11 #[va, vb] w fun e w' => e = .returned (.bool true) ∧ Below w.heap.size w w' := by
  have HS := Lib.hid hS
  have HI := Lib.hid hI
  clear hS hI
  have hsa : 0 ≤ szS a := by unfold szS szI; omega
  have hsb : 0 ≤ szS b := by unfold szS szI; omega
  obtain ⟨ua, rfl, qa⟩ := ra
  obtain ⟨Aa, ca, rfl⟩ := row_form qa
  rw [intsV_length] at qa
  have hla : a.2.length ≤ 1048576 := by unfold szS szI at hl hsb; omega
  obtain ⟨ub, rfl, qb⟩ := rb
  obtain ⟨Ab, cb, rfl⟩ := row_form qb
  rw [intsV_length] at qb
  have hlb : b.2.length ≤ 1048576 := by unfold szS szI at hl hsa; omega
  rw [intsV_length]
  rw [intsV_length]
  have bb0 : Below w.heap.size w ((w.alloc (.cells #[.bool a.1, .slice Aa a.2.length ca] 24)).alloc (.cells #[.bool b.1, .slice Ab b.2.length cb] 24)) := below_al (below_al (Below.refl _ _) _) _
  have ka := (box_new w #[.bool a.1, .slice Aa a.2.length ca] 24).below (below_al (Below.refl _ _) (.cells #[.bool b.1, .slice Ab b.2.length cb] 24))
  have kb := box_new (w.alloc (.cells #[.bool a.1, .slice Aa a.2.length ca] 24)) #[.bool b.1, .slice Ab b.2.length cb] 24
  rw [show (w.alloc (.cells #[.bool a.1, .slice Aa a.2.length ca] 24)).heap.size = w.heap.size + 1 by simp] at kb
  have RFa : Hid (∀ W, Below w.heap.size w W → RdS W (.agg #[.bool a.1, .slice Aa a.2.length ca]) a) := Lib.hid fun W hb => rdS_below qa hb
  have RFb : Hid (∀ W, Below w.heap.size w W → RdS W (.agg #[.bool b.1, .slice Ab b.2.length cb]) b) := Lib.hid fun W hb => rdS_below qb hb
  go_enter Try.func11, Try.ntmps11
  have ka_c0 := ka.here.cell 0 _ rfl
  have ka_c1 := ka.here.cell 1 _ rfl
  go_wp2_with fail
  clear ka_c0 ka_c1
  refine (szSigned_at _ a (1048576) _ (by omega) (by omega) (by omega) (RFa.out _ bb0)).mono ?_
  rintro e w1 ⟨rfl, b1⟩
  rw [leftI_of (by omega)]
  have bb1 := Below.next bb0 b1
  replace ka := ka.below b1
  replace kb := kb.below b1
  have hn : decide (((1048576 : Int) - szS a : Int) < 0) = false := decide_eq_false (by omega)
  have kb_c0 := kb.here.cell 0 _ rfl
  have kb_c1 := kb.here.cell 1 _ rfl
  go_wp2_with fail
  clear kb_c0 kb_c1
  refine (szSigned_at _ b (1048576 - szS a) _ (by omega) (by omega) (by omega) (RFb.out _ bb1)).mono ?_
  rintro e w2 ⟨rfl, b2⟩
  rw [leftI_of (by omega)]
  have bb2 := Below.next bb1 b2
  replace ka := ka.below b2
  replace kb := kb.below b2
  clear hn
  have hn : decide (((1048576 : Int) - szS a - szS b : Int) < 0) = false := decide_eq_false (by omega)
  have HKa := Lib.hid (ka.lt (w.heap.size) (by simp))
  have HKb := Lib.hid (kb.lt (w.heap.size + 1) (by simp))
  have ka_c0 := ka.here.cell 0 _ rfl
  have ka_c1 := ka.here.cell 1 _ rfl
  have kb_c0 := kb.here.cell 0 _ rfl
  have kb_c1 := kb.here.cell 1 _ rfl
  go_wp2_with fail
  have HB0 := Lib.hid (show Below w2.heap.size w2 w2.drew from (Below.refl _ _).drew)
  have KL := Lib.hid (show ∀ W, Below w2.heap.size w2 W → W.cell? ⟨w.heap.size, 0, none⟩ = some (.bool a.1) ∧ W.cell? ⟨w.heap.size, 1, none⟩ = some (.slice Aa a.2.length ca) ∧ W.cell? ⟨w.heap.size + 1, 0, none⟩ = some (.bool b.1) ∧ W.cell? ⟨w.heap.size + 1, 1, none⟩ = some (.slice Ab b.2.length cb) ∧ Hid (Below w2.heap.size w2 W) from
    fun W hb => ⟨(ka.below hb).here.cell 0 _ rfl, (ka.below hb).here.cell 1 _ rfl, (kb.below hb).here.cell 0 _ rfl, (kb.below hb).here.cell 1 _ rfl, Lib.hid hb⟩)
  have BBF := Lib.hid (show ∀ W, Below w2.heap.size w2 W → Below w.heap.size w W from fun W hb => Below.next bb2 hb)
  clear ka_c0 ka_c1 kb_c0 kb_c1
  go_region_held3 (fun W => W.cell? ⟨w.heap.size, 0, none⟩ = some (.bool a.1) ∧ W.cell? ⟨w.heap.size, 1, none⟩ = some (.slice Aa a.2.length ca) ∧ W.cell? ⟨w.heap.size + 1, 0, none⟩ = some (.bool b.1) ∧ W.cell? ⟨w.heap.size + 1, 1, none⟩ = some (.slice Ab b.2.length cb) ∧ Hid (Below w2.heap.size w2 W))
    ((refine KL.out _ ?_; (first | exact HBf.out | exact HBtb.out | exact HBta.out | exact HB0.out | fail)))
    (first
      | (go_at_call 16; (have hBB := (‹_ ∧ _ ∧ _ ∧ _ ∧ Hid (Below w2.heap.size w2 _)›).2.2.2.2); (with_reducible refine (toSigned_at _ a _ hla (RFa.out _ (BBF.out _ hBB.out))).mono ?_); rintro e wta ⟨ta, rfl, ota_, bta⟩; have HBta := Lib.hid (Below.next hBB.out bta); have ota := own_at' ota_; clear hBB)
      | (go_at_call 16; (have hBB := (‹_ ∧ _ ∧ _ ∧ _ ∧ Hid (Below w2.heap.size w2 _)›).2.2.2.2); (with_reducible refine (toSigned_at _ b _ hlb (RFb.out _ (BBF.out _ hBB.out))).mono ?_); rintro e wtb ⟨tb, rfl, otb_, btb⟩; have HBtb := Lib.hid (Below.next hBB.out btb); have otb := own_at' otb_; (have otab := At.below (by first | exact ota | exact At.below ota (below_al (Below.refl _ _) _)) btb); clear hBB)
      | (go_at_call 35; (have hBB := (‹_ ∧ _ ∧ _ ∧ _ ∧ Hid (Below w2.heap.size w2 _)›).2.2.2.2); (with_reducible refine (HS.out _ _ _ (OwnS.mk (x := a) (At.here (by first | exact otab | exact At.below otab (below_al (Below.refl _ _) _)))) (OwnS.mk (x := b) (At.here (by first | exact otb | exact At.below otb (below_al (Below.refl _ _) _))))).mono ?_); rintro e w3 ⟨rfl, bf⟩; have HBf := Lib.hid (Below.next hBB.out bf); clear hBB))
  have b3 := HBf.out
  have bb3 := Below.next bb2 b3
  replace ka := ka.below b3
  replace kb := kb.below b3
  clear HB0 KL BBF HBf HBta ota ota_ HBtb otb otb_
  have ka_c0 := ka.here.cell 0 _ rfl
  have ka_c1 := ka.here.cell 1 _ rfl
  go_upto_region 9 with fail
  go_cut [7] (fun s wx => NewLoc a w3 s wx)
  case first =>
    go_wp2_with fail
    refine (toSigned_at _ a _ hla (RFa.out _ bb3)).mono ?_
    rintro e wt ⟨ut, rfl, ot, bt⟩
    obtain ⟨At_, ct, rfl⟩ := own_len ot
    go_wp2_with fail
    go_meet
    exact newLoc_last ot (Nat.le_refl _) bt
  rename World => w4
  clear ka_c0 ka_c1
  obtain ⟨gxa, uxa, rfl, oxa, lxa, b4⟩ := hcut
  obtain ⟨Axa, cxa, exa⟩ := own_len oxa.here.2
  subst exa
  have bb4 := Below.next bb3 b4
  replace ka := ka.below b4
  replace kb := kb.below b4
  have kb_c0 := kb.here.cell 0 _ rfl
  have kb_c1 := kb.here.cell 1 _ rfl
  go_upto_region 10 with fail
  go_cut [8] (fun s wx => NewLoc b w4 s wx)
  case first =>
    go_wp2_with fail
    refine (toSigned_at _ b _ hlb (RFb.out _ bb4)).mono ?_
    rintro e wt ⟨ut, rfl, ot, bt⟩
    obtain ⟨At_, ct, rfl⟩ := own_len ot
    go_wp2_with fail
    go_meet
    exact newLoc_last ot (Nat.le_refl _) bt
  rename World => w5
  clear kb_c0 kb_c1
  obtain ⟨gxb, uxb, rfl, oxb, lxb, b5⟩ := hcut
  obtain ⟨Axb, cxb, exb⟩ := own_len oxb.here.2
  subst exb
  have bb5 := Below.next bb4 b5
  replace ka := ka.below b5
  replace kb := kb.below b5
  replace oxa := oxa.below b5
  have oxa_c0 := oxa.here.1.cell 0 _ rfl
  have oxa_c1 := oxa.here.1.cell 1 _ rfl
  have oxb_c0 := oxb.here.1.cell 0 _ rfl
  have oxb_c1 := oxb.here.1.cell 1 _ rfl
  go_wp2_with fail
  clear oxa_c0 oxa_c1 oxb_c0 oxb_c1
  refine (HI.out _ _ _ ⟨_, rfl, oxa.here.2⟩ ⟨_, rfl, oxb.here.2⟩).mono ?_
  rintro e w6 ⟨rfl, b6⟩
  have bb6 := Below.next bb5 b6
  replace ka := ka.below b6
  replace kb := kb.below b6
  replace oxa := oxa.below b6
  replace oxb := oxb.below b6
  have ka_c0 := ka.here.cell 0 _ rfl
  have ka_c1 := ka.here.cell 1 _ rfl
  have oxa_c0 := oxa.here.1.cell 0 _ rfl
  have oxa_c1 := oxa.here.1.cell 1 _ rfl
  go_wp2_with fail
  have HB0 := Lib.hid (show Below w6.heap.size w6 w6.drew from (Below.refl _ _).drew)
  have KL := Lib.hid (show ∀ W, Below w6.heap.size w6 W → W.cell? ⟨w.heap.size, 0, none⟩ = some (.bool a.1) ∧ W.cell? ⟨w.heap.size, 1, none⟩ = some (.slice Aa a.2.length ca) ∧ W.cell? ⟨gxa, 0, none⟩ = some (.bool a.1) ∧ W.cell? ⟨gxa, 1, none⟩ = some (.slice Axa a.2.length cxa) ∧ Hid (Below w6.heap.size w6 W) from
    fun W hb => ⟨(ka.below hb).here.cell 0 _ rfl, (ka.below hb).here.cell 1 _ rfl, (oxa.below hb).here.1.cell 0 _ rfl, (oxa.below hb).here.1.cell 1 _ rfl, Lib.hid hb⟩)
  have BBF := Lib.hid (show ∀ W, Below w6.heap.size w6 W → Below w.heap.size w W from fun W hb => Below.next bb6 hb)
  have OXF := Lib.hid (show ∀ W, Below w6.heap.size w6 W → OwnI _ a.2 W from fun W hb => (oxa.below hb).here.2)
  clear ka_c0 ka_c1 oxa_c0 oxa_c1
  go_region_held3 (fun W => W.cell? ⟨w.heap.size, 0, none⟩ = some (.bool a.1) ∧ W.cell? ⟨w.heap.size, 1, none⟩ = some (.slice Aa a.2.length ca) ∧ W.cell? ⟨gxa, 0, none⟩ = some (.bool a.1) ∧ W.cell? ⟨gxa, 1, none⟩ = some (.slice Axa a.2.length cxa) ∧ Hid (Below w6.heap.size w6 W))
    ((refine KL.out _ ?_; (first | exact HBe.out | exact HBt.out | exact HB0.out | fail)))
    (first
      | (go_at_call 16; (have hBB := (‹_ ∧ _ ∧ _ ∧ _ ∧ Hid (Below w6.heap.size w6 _)›).2.2.2.2); (with_reducible refine (toSigned_at _ a _ hla (RFa.out _ (BBF.out _ hBB.out))).mono ?_); rintro e wt ⟨t, rfl, ot, bt⟩; have HBt := Lib.hid (Below.next hBB.out bt); clear hBB)
      | (go_at_call 18; (have hBB := (‹_ ∧ _ ∧ _ ∧ _ ∧ Hid (Below w6.heap.size w6 _)›).2.2.2.2); (with_reducible refine (eqSigned_at _ _ a a _ (by omega) (OwnS.rd (OwnS.mk (x := a) (OXF.out _ hBB.out))) (OwnS.rd (OwnS.mk (x := a) (ownI_of ot)))).mono ?_); rintro e w7 ⟨rfl, be⟩; rw [decide_refl]; have HBe := Lib.hid (Below.next hBB.out be); clear hBB))
  have b7 := HBe.out
  have bb7 := Below.next bb6 b7
  replace ka := ka.below b7
  replace kb := kb.below b7
  replace oxa := oxa.below b7
  replace oxb := oxb.below b7
  clear HB0 KL BBF OXF HBt HBe ot
  have kb_c0 := kb.here.cell 0 _ rfl
  have kb_c1 := kb.here.cell 1 _ rfl
  have oxb_c0 := oxb.here.1.cell 0 _ rfl
  have oxb_c1 := oxb.here.1.cell 1 _ rfl
  go_wp2_with fail
  have HB0 := Lib.hid (show Below w7.heap.size w7 w7.drew from (Below.refl _ _).drew)
  have KL := Lib.hid (show ∀ W, Below w7.heap.size w7 W → W.cell? ⟨w.heap.size + 1, 0, none⟩ = some (.bool b.1) ∧ W.cell? ⟨w.heap.size + 1, 1, none⟩ = some (.slice Ab b.2.length cb) ∧ W.cell? ⟨gxb, 0, none⟩ = some (.bool b.1) ∧ W.cell? ⟨gxb, 1, none⟩ = some (.slice Axb b.2.length cxb) ∧ Hid (Below w7.heap.size w7 W) from
    fun W hb => ⟨(kb.below hb).here.cell 0 _ rfl, (kb.below hb).here.cell 1 _ rfl, (oxb.below hb).here.1.cell 0 _ rfl, (oxb.below hb).here.1.cell 1 _ rfl, Lib.hid hb⟩)
  have BBF := Lib.hid (show ∀ W, Below w7.heap.size w7 W → Below w.heap.size w W from fun W hb => Below.next bb7 hb)
  have OXF := Lib.hid (show ∀ W, Below w7.heap.size w7 W → OwnI _ b.2 W from fun W hb => (oxb.below hb).here.2)
  clear kb_c0 kb_c1 oxb_c0 oxb_c1
  go_region_held3 (fun W => W.cell? ⟨w.heap.size + 1, 0, none⟩ = some (.bool b.1) ∧ W.cell? ⟨w.heap.size + 1, 1, none⟩ = some (.slice Ab b.2.length cb) ∧ W.cell? ⟨gxb, 0, none⟩ = some (.bool b.1) ∧ W.cell? ⟨gxb, 1, none⟩ = some (.slice Axb b.2.length cxb) ∧ Hid (Below w7.heap.size w7 W))
    ((refine KL.out _ ?_; (first | exact HBe.out | exact HBt.out | exact HB0.out | fail)))
    (first
      | (go_at_call 16; (have hBB := (‹_ ∧ _ ∧ _ ∧ _ ∧ Hid (Below w7.heap.size w7 _)›).2.2.2.2); (with_reducible refine (toSigned_at _ b _ hlb (RFb.out _ (BBF.out _ hBB.out))).mono ?_); rintro e wt ⟨t, rfl, ot, bt⟩; have HBt := Lib.hid (Below.next hBB.out bt); clear hBB)
      | (go_at_call 18; (have hBB := (‹_ ∧ _ ∧ _ ∧ _ ∧ Hid (Below w7.heap.size w7 _)›).2.2.2.2); (with_reducible refine (eqSigned_at _ _ b b _ (by omega) (OwnS.rd (OwnS.mk (x := b) (OXF.out _ hBB.out))) (OwnS.rd (OwnS.mk (x := b) (ownI_of ot)))).mono ?_); rintro e w8 ⟨rfl, be⟩; rw [decide_refl]; have HBe := Lib.hid (Below.next hBB.out be); clear hBB))
  have b8 := HBe.out
  have bb8 := Below.next bb7 b8
  replace ka := ka.below b8
  replace kb := kb.below b8
  replace oxa := oxa.below b8
  replace oxb := oxb.below b8
  clear HB0 KL BBF OXF HBt HBe ot
  go_wp2
  go_ret
  exact ⟨rfl, bb8⟩

set_option maxHeartbeats 4000000 in
set_option maxRecDepth 100000 in
theorem lawIntSign_walk (va : Value) (a : SI) (R0 : Int) (w : World)
    (hS : ∀ (ua : Value) (W : World), OwnS ua a W → Calls Try.prog 37 #[ua] W (Postn R0 W))
    (hI : ∀ (ua : Value) (W : World), OwnS ua a W → Calls Try.prog 38 #[ua] W (Postn R0 W))
    (hl : szS a ≤ 1048576) (ra : RdS w va a) :
    Calls Try.prog 12 #[va] w fun e w' => e = .returned (.bool true) ∧ Below w.heap.size w w' := by
  have HS := Lib.hid hS
  have HI := Lib.hid hI
  clear hS hI
  have hsa : 0 ≤ szS a := by unfold szS szI; omega
  obtain ⟨ua, rfl, qa⟩ := ra
  obtain ⟨Aa, ca, rfl⟩ := row_form qa
  rw [intsV_length] at qa
  have hla : a.2.length ≤ 1048576 := by unfold szS szI at hl; omega
  rw [intsV_length]
  have bb0 : Below w.heap.size w (w.alloc (.cells #[.bool a.1, .slice Aa a.2.length ca] 24)) := below_al (Below.refl _ _) _
  have ka := box_new w #[.bool a.1, .slice Aa a.2.length ca] 24
  have RFa : Hid (∀ W, Below w.heap.size w W → RdS W (.agg #[.bool a.1, .slice Aa a.2.length ca]) a) := Lib.hid fun W hb => rdS_below qa hb
  go_enter Try.func12, Try.ntmps12
  have ka_c0 := ka.here.cell 0 _ rfl
  have ka_c1 := ka.here.cell 1 _ rfl
  go_wp2_with fail
  clear ka_c0 ka_c1
  refine (szSigned_at _ a (1048576) _ (by omega) (by omega) (by omega) (RFa.out _ bb0)).mono ?_
  rintro e w1 ⟨rfl, b1⟩
  rw [leftI_of (by omega)]
  have bb1 := Below.next bb0 b1
  replace ka := ka.below b1
  have hn : decide (((1048576 : Int) - szS a : Int) < 0) = false := decide_eq_false (by omega)
  have HKa := Lib.hid (ka.lt (w.heap.size) (by simp))
  have ka_c0 := ka.here.cell 0 _ rfl
  have ka_c1 := ka.here.cell 1 _ rfl
  go_wp2_with fail
  clear ka_c0 ka_c1
  refine (toSigned_at _ a _ hla (RFa.out _ bb1)).mono ?_
  rintro e w2 ⟨t, rfl, ot, b2⟩
  have bb2 := Below.next bb1 b2
  replace ka := ka.below b2
  go_wp2_with fail
  refine (HS.out _ _ ⟨_, rfl, own_zero ot⟩).mono ?_
  rintro e w3 ⟨rfl, b3⟩
  clear ot
  have bb3 := Below.next bb2 b3
  replace ka := ka.below b3
  have ka_c0 := ka.here.cell 0 _ rfl
  have ka_c1 := ka.here.cell 1 _ rfl
  go_upto_region 6 with fail
  go_cut [5] (fun s wx => NewLoc a w3 s wx)
  case first =>
    go_wp2_with fail
    refine (toSigned_at _ a _ hla (RFa.out _ bb3)).mono ?_
    rintro e wt ⟨ut, rfl, ot, bt⟩
    obtain ⟨At_, ct, rfl⟩ := own_len ot
    go_wp2_with fail
    go_meet
    exact newLoc_last ot (Nat.le_refl _) bt
  rename World => w4
  clear ka_c0 ka_c1
  obtain ⟨gxa, uxa, rfl, oxa, lxa, b4⟩ := hcut
  obtain ⟨Axa, cxa, exa⟩ := own_len oxa.here.2
  subst exa
  have bb4 := Below.next bb3 b4
  replace ka := ka.below b4
  have oxa_c0 := oxa.here.1.cell 0 _ rfl
  have oxa_c1 := oxa.here.1.cell 1 _ rfl
  go_wp2_with fail
  clear oxa_c0 oxa_c1
  refine (HI.out _ _ ⟨_, rfl, oxa.here.2⟩).mono ?_
  rintro e w5 ⟨rfl, b5⟩
  have bb5 := Below.next bb4 b5
  replace ka := ka.below b5
  replace oxa := oxa.below b5
  have ka_c0 := ka.here.cell 0 _ rfl
  have ka_c1 := ka.here.cell 1 _ rfl
  have oxa_c0 := oxa.here.1.cell 0 _ rfl
  have oxa_c1 := oxa.here.1.cell 1 _ rfl
  go_wp2_with fail
  have HB0 := Lib.hid (show Below w5.heap.size w5 w5.drew from (Below.refl _ _).drew)
  have KL := Lib.hid (show ∀ W, Below w5.heap.size w5 W → W.cell? ⟨w.heap.size, 0, none⟩ = some (.bool a.1) ∧ W.cell? ⟨w.heap.size, 1, none⟩ = some (.slice Aa a.2.length ca) ∧ W.cell? ⟨gxa, 0, none⟩ = some (.bool a.1) ∧ W.cell? ⟨gxa, 1, none⟩ = some (.slice Axa a.2.length cxa) ∧ Hid (Below w5.heap.size w5 W) from
    fun W hb => ⟨(ka.below hb).here.cell 0 _ rfl, (ka.below hb).here.cell 1 _ rfl, (oxa.below hb).here.1.cell 0 _ rfl, (oxa.below hb).here.1.cell 1 _ rfl, Lib.hid hb⟩)
  have BBF := Lib.hid (show ∀ W, Below w5.heap.size w5 W → Below w.heap.size w W from fun W hb => Below.next bb5 hb)
  have OXF := Lib.hid (show ∀ W, Below w5.heap.size w5 W → OwnI _ a.2 W from fun W hb => (oxa.below hb).here.2)
  clear ka_c0 ka_c1 oxa_c0 oxa_c1
  go_region_held3 (fun W => W.cell? ⟨w.heap.size, 0, none⟩ = some (.bool a.1) ∧ W.cell? ⟨w.heap.size, 1, none⟩ = some (.slice Aa a.2.length ca) ∧ W.cell? ⟨gxa, 0, none⟩ = some (.bool a.1) ∧ W.cell? ⟨gxa, 1, none⟩ = some (.slice Axa a.2.length cxa) ∧ Hid (Below w5.heap.size w5 W))
    ((refine KL.out _ ?_; (first | exact HBe.out | exact HBt.out | exact HB0.out | fail)))
    (first
      | (go_at_call 16; (have hBB := (‹_ ∧ _ ∧ _ ∧ _ ∧ Hid (Below w5.heap.size w5 _)›).2.2.2.2); (with_reducible refine (toSigned_at _ a _ hla (RFa.out _ (BBF.out _ hBB.out))).mono ?_); rintro e wt ⟨t, rfl, ot, bt⟩; have HBt := Lib.hid (Below.next hBB.out bt); clear hBB)
      | (go_at_call 18; (have hBB := (‹_ ∧ _ ∧ _ ∧ _ ∧ Hid (Below w5.heap.size w5 _)›).2.2.2.2); (with_reducible refine (eqSigned_at _ _ a a _ (by omega) (OwnS.rd (OwnS.mk (x := a) (OXF.out _ hBB.out))) (OwnS.rd (OwnS.mk (x := a) (ownI_of ot)))).mono ?_); rintro e w6 ⟨rfl, be⟩; rw [decide_refl]; have HBe := Lib.hid (Below.next hBB.out be); clear hBB))
  have b6 := HBe.out
  have bb6 := Below.next bb5 b6
  replace ka := ka.below b6
  replace oxa := oxa.below b6
  clear HB0 KL BBF OXF HBt HBe ot
  go_wp2
  go_ret
  exact ⟨rfl, bb6⟩

end Go.Proofs.Ytecaghbakjalgaa
