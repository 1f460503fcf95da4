/-
  The laws of IntStr and StrInt, walked over the contracts of both packages; the number tables of the library are at hand.
-/
import Derived.Test.YtecaghbakjalgaaDoorSignText
import Derived.Deep.RegionHeld3
import Derived.Deep.DeepCutAuto
namespace Go.Proofs.YtecaghbakjalgaaDoor
open Go.RowKit

def Posts (R0 : ByteArray) (w : World) (e : Ending) (w' : World) : Prop := e = .returned (.string R0) ∧ Below w.heap.size w w'
set_option maxHeartbeats 4000000 in
set_option maxRecDepth 100000 in
theorem lawIntStr_walk (va : Value) (a : SI) (R0 : ByteArray) (w : World)
    (hS : ∀ (ua : Value) (W : World), OwnS ua a W → Calls Tryd.prog 21 #[ua] W (Posts R0 W))
    (hI : ∀ (ua : Value) (W : World), OwnS ua a W → Tab W → Calls Tryd.prog 8 #[ua] W (Posts R0 W))
    (ht : Tab w) (hl : szS a ≤ 1048576) (ra : RdS w va a) :
    Calls Tryd.prog 4 #[va] w fun e w' => e = .returned (.bool true) ∧ Below w.heap.size w w' := by
  have HS := Lib.hid hS
  have HI := Lib.hid hI
  clear hS hI
  have hsa : 0 ≤ szS a := by unfold szS szI; omega
  obtain ⟨ua, rfl, qa⟩ := ra
  obtain ⟨Aa, ca, rfl⟩ := row_form qa
  rw [intsV_length] at qa
  have hla : a.2.length ≤ 1048576 := by unfold szS szI at hl; omega
  rw [intsV_length]
  have bb0 : Below w.heap.size w (w.alloc (.cells #[.bool a.1, .slice Aa a.2.length ca] 42)) := below_al (Below.refl _ _) _
  have ka := box_new w #[.bool a.1, .slice Aa a.2.length ca] 42
  have RFa : Hid (∀ W, Below w.heap.size w W → RdS W (.agg #[.bool a.1, .slice Aa a.2.length ca]) a) := Lib.hid fun W hb => rdS_below qa hb
  go_enter Tryd.func4, Tryd.ntmps4
  have ka_c0 := ka.here.cell 0 _ rfl
  have ka_c1 := ka.here.cell 1 _ rfl
  go_wp2_with fail
  clear ka_c0 ka_c1
  refine (szSigned_at _ a (1048576) _ (by omega) (by omega) (by omega) (RFa.out _ bb0)).mono ?_
  rintro e w1 ⟨rfl, b1⟩
  rw [leftI_of (by omega)]
  have bb1 := Below.next bb0 b1
  replace ka := ka.below b1
  have hn : decide (((1048576 : Int) - szS a : Int) < 0) = false := decide_eq_false (by omega)
  have HKa := Lib.hid (ka.lt (w.heap.size) (by simp))
  have ka_c0 := ka.here.cell 0 _ rfl
  have ka_c1 := ka.here.cell 1 _ rfl
  go_wp2_with fail
  clear ka_c0 ka_c1
  refine (toSigned_at _ a _ hla (RFa.out _ bb1)).mono ?_
  rintro e w2 ⟨t, rfl, ot, b2⟩
  have bb2 := Below.next bb1 b2
  replace ka := ka.below b2
  go_wp2_with fail
  refine (HS.out _ _ ⟨_, rfl, own_zero ot⟩).mono ?_
  rintro e w3 ⟨rfl, b3⟩
  clear ot
  have bb3 := Below.next bb2 b3
  replace ka := ka.below b3
  have ka_c0 := ka.here.cell 0 _ rfl
  have ka_c1 := ka.here.cell 1 _ rfl
  go_upto_region 6 with fail
  go_cut [5] (fun s wx => NewLoc a w3 s wx)
  case first =>
    go_wp2_with fail
    refine (toSigned_at _ a _ hla (RFa.out _ bb3)).mono ?_
    rintro e wt ⟨ut, rfl, ot, bt⟩
    obtain ⟨At_, ct, rfl⟩ := own_len ot
    go_wp2_with fail
    go_meet
    exact newLoc_last ot (Nat.le_refl _) bt
  rename World => w4
  clear ka_c0 ka_c1
  obtain ⟨gxa, uxa, rfl, oxa, lxa, b4⟩ := hcut
  obtain ⟨Axa, cxa, exa⟩ := own_len oxa.here.2
  subst exa
  have bb4 := Below.next bb3 b4
  replace ka := ka.below b4
  have oxa_c0 := oxa.here.1.cell 0 _ rfl
  have oxa_c1 := oxa.here.1.cell 1 _ rfl
  go_wp2_with fail
  clear oxa_c0 oxa_c1
  refine (HI.out _ _ ⟨_, rfl, oxa.here.2⟩ (ht.below bb4)).mono ?_
  rintro e w5 ⟨rfl, b5⟩
  have bb5 := Below.next bb4 b5
  replace ka := ka.below b5
  replace oxa := oxa.below b5
  have ka_c0 := ka.here.cell 0 _ rfl
  have ka_c1 := ka.here.cell 1 _ rfl
  have oxa_c0 := oxa.here.1.cell 0 _ rfl
  have oxa_c1 := oxa.here.1.cell 1 _ rfl
  go_wp2_with fail
  have HB0 := Lib.hid (show Below w5.heap.size w5 w5.drew from (Below.refl _ _).drew)
  have KL := Lib.hid (show ∀ W, Below w5.heap.size w5 W → W.cell? ⟨w.heap.size, 0, none⟩ = some (.bool a.1) ∧ W.cell? ⟨w.heap.size, 1, none⟩ = some (.slice Aa a.2.length ca) ∧ W.cell? ⟨gxa, 0, none⟩ = some (.bool a.1) ∧ W.cell? ⟨gxa, 1, none⟩ = some (.slice Axa a.2.length cxa) ∧ Hid (Below w5.heap.size w5 W) from
    fun W hb => ⟨(ka.below hb).here.cell 0 _ rfl, (ka.below hb).here.cell 1 _ rfl, (oxa.below hb).here.1.cell 0 _ rfl, (oxa.below hb).here.1.cell 1 _ rfl, Lib.hid hb⟩)
  have BBF := Lib.hid (show ∀ W, Below w5.heap.size w5 W → Below w.heap.size w W from fun W hb => Below.next bb5 hb)
  have OXF := Lib.hid (show ∀ W, Below w5.heap.size w5 W → OwnI _ a.2 W from fun W hb => (oxa.below hb).here.2)
  clear ka_c0 ka_c1 oxa_c0 oxa_c1
  go_region_held3 (fun W => W.cell? ⟨w.heap.size, 0, none⟩ = some (.bool a.1) ∧ W.cell? ⟨w.heap.size, 1, none⟩ = some (.slice Aa a.2.length ca) ∧ W.cell? ⟨gxa, 0, none⟩ = some (.bool a.1) ∧ W.cell? ⟨gxa, 1, none⟩ = some (.slice Axa a.2.length cxa) ∧ Hid (Below w5.heap.size w5 W))
    ((refine KL.out _ ?_; (first | exact HBe.out | exact HBt.out | exact HB0.out | fail)))
    (first
      | (go_at_call 22; (have hBB := (‹_ ∧ _ ∧ _ ∧ _ ∧ Hid (Below w5.heap.size w5 _)›).2.2.2.2); (with_reducible refine (toSigned_at _ a _ hla (RFa.out _ (BBF.out _ hBB.out))).mono ?_); rintro e wt ⟨t, rfl, ot, bt⟩; have HBt := Lib.hid (Below.next hBB.out bt); clear hBB)
      | (go_at_call 23; (have hBB := (‹_ ∧ _ ∧ _ ∧ _ ∧ Hid (Below w5.heap.size w5 _)›).2.2.2.2); (with_reducible refine (eqSigned_at _ _ a a _ (by omega) (OwnS.rd (OwnS.mk (x := a) (OXF.out _ hBB.out))) (OwnS.rd (OwnS.mk (x := a) (ownI_of ot)))).mono ?_); rintro e w6 ⟨rfl, be⟩; rw [decide_refl]; have HBe := Lib.hid (Below.next hBB.out be); clear hBB))
  have b6 := HBe.out
  have bb6 := Below.next bb5 b6
  replace ka := ka.below b6
  replace oxa := oxa.below b6
  clear HB0 KL BBF OXF HBt HBe ot
  go_wp2
  go_ret
  exact ⟨rfl, bb6⟩

theorem lawIntStr (va : Value) (a : SI) (w : World)
    (hI : a.2.length ≤ 1048576 → ∀ (ua : Value) (W : World), OwnS ua a W → Tab W → Calls Tryd.prog 8 #[ua] W (Posts (intStrB a) W))
    (hma : a.2.length ≤ 9223372036854775807) (ra : RdS w va a) (ht : Tab w) :
    Calls Tryd.prog 4 #[va] w fun e w' => e = .returned (.bool true) ∧ Below w.heap.size w w' := by
  by_cases hl : szS a ≤ 1048576
  · have hla : a.2.length ≤ 1048576 := by unfold szS szI at hl; omega
    exact lawIntStr_walk va a (intStrB a) w (fun ua W ha => specIntStr_any ua a W hla ha.rd) (hI hla) ht hl  ra
  · obtain ⟨ua, rfl, qa⟩ := ra
    obtain ⟨Aa, ca, rfl⟩ := row_form qa
    rw [intsV_length] at qa
    have hsa : 0 ≤ szS a := by unfold szS szI; omega
    rw [intsV_length]
    have bb0 : Below w.heap.size w (w.alloc (.cells #[.bool a.1, .slice Aa a.2.length ca] 42)) := below_al (Below.refl _ _) _
    go_enter Tryd.func4, Tryd.ntmps4
    go_wp2_with fail
    refine (szSigned_at _ a 1048576 _ hma (by omega) (by omega) (rdS_below qa bb0)).mono ?_
    rintro e w1 ⟨rfl, b1⟩
    rw [show leftI 1048576 (szS a) = -1 by unfold leftI; rw [if_pos (by omega)]]
    have bb1 := Below.next bb0 b1
    go_wp2
    go_ret
    exact ⟨rfl, bb1⟩

theorem siR_len (s : ByteArray) : (siR s).2.length ≤ 450 := by
  unfold siR
  split
  · exact tnR_len _
  · exact Nat.zero_le _
set_option maxHeartbeats 4000000 in
set_option maxRecDepth 100000 in
theorem lawStrInt_small (s : ByteArray) (w : World) (hI : ∀ W : World, Tab W → Calls Tryd.prog 7 #[.string s] W (NewSb (siR s) (siB s) W)) (h1 : s.size ≤ 1048576) (ht : Tab w) :
    Calls Tryd.prog 5 #[.string s] w fun e w' => e = .returned (.bool true) ∧ Below w.heap.size w w' := by
  have hlR := siR_len s
  have HS := Lib.hid (fun W : World => specStrInt_any s W h1)
  have HI := Lib.hid hI
  clear hI
  generalize siR s = R0 at *
  generalize siB s = ok at *
  have hsR0 : 0 ≤ szS R0 := by unfold szS szI; omega
  have hlR0 : szS R0 ≤ 1048576 := by unfold szS szI; omega
  go_enter Tryd.func5, Tryd.ntmps5
  go_upto_region 3 with fail
  go_cut [3, 4] (fun s t wx => NewLoc R0 w s wx ∧ t = .bool ok)
  case first =>
    go_wp2_with fail
    refine (HS.out _).mono ?_
    rintro e wf ⟨uf, rfl, of, bf⟩
    obtain ⟨Af, cf, rfl⟩ := own_len of
    go_wp2_with fail
    go_meet
    exact ⟨newLoc_last of (Nat.le_refl _) bf, rfl⟩
  rename World => w1
  obtain ⟨⟨gw0, uw0, rfl, ow0, lw0, b1⟩, rfl⟩ := hcut
  obtain ⟨Aw0, cw0, ew0⟩ := own_len ow0.here.2
  subst ew0
  go_upto_region 4 with fail
  go_cut [5, 6] (fun s t wx => NewLoc R0 w1 s wx ∧ t = .bool ok)
  case first =>
    go_wp2_with fail
    refine (HI.out _ (ht.below b1)).mono ?_
    rintro e wf ⟨uf, rfl, of, bf⟩
    obtain ⟨Af, cf, rfl⟩ := own_len of
    go_wp2_with fail
    go_meet
    exact ⟨newLoc_last of (Nat.le_refl _) bf, rfl⟩
  rename World => w2
  obtain ⟨⟨gg0, ug0, rfl, og0, lg0, b2⟩, rfl⟩ := hcut
  obtain ⟨Ag0, cg0, eg0⟩ := own_len og0.here.2
  subst eg0
  have bb2 := Below.next b1 b2
  replace ow0 := ow0.below b2
  have og0_c0 := og0.here.1.cell 0 _ rfl
  have og0_c1 := og0.here.1.cell 1 _ rfl
  have ow0_c0 := ow0.here.1.cell 0 _ rfl
  have ow0_c1 := ow0.here.1.cell 1 _ rfl
  go_wp2_with fail
  clear og0_c0 og0_c1 ow0_c0 ow0_c1
  refine (eqSigned_at _ _ R0 R0 _ (by omega) (OwnS.rd ⟨_, rfl, og0.here.2⟩) (OwnS.rd ⟨_, rfl, ow0.here.2⟩)).mono ?_
  rintro e w3 ⟨rfl, b3⟩
  rw [decide_refl]
  have bb3 := Below.next bb2 b3
  replace ow0 := ow0.below b3
  replace og0 := og0.below b3
  have AP_w0_g0 := Lib.hid (Within.apart lw0 lg0 (.inl (Nat.le_refl _)))
  have F_g0 := Lib.hid (Within.from (B := w.heap.size) lg0 b1.size)
  have kg0 := box_at og0.here.1
  have mg0 := own_at' og0.here.2
  have Ng0 := Lib.hid (Lib.ownBlock_ne og0.here.2 og0.here.1 (by decide))
  clear og0
  have kg0_c0 := kg0.here.cell 0 _ rfl
  have kg0_c1 := kg0.here.cell 1 _ rfl
  go_wp2_with fail
  clear kg0_c0 kg0_c1
  refine (markSigned_at _ R0 _ (1) _ (by omega) (by omega) (mg0.imp fun _ h => OwnS.mk (x := R0) h)).mono ?_
  rintro e w9 ⟨rfl, mmg0, c9⟩
  clear mg0
  have bb9 := below_chg bb3 c9 bb3.size (fun i hi => F_g0.out i (by unfold locB; exact List.mem_cons_of_mem _ hi))
  replace ow0 := ow0.chg c9 (fun i hi hm => AP_w0_g0.out i hi (by unfold locB; exact List.mem_cons_of_mem _ hm))
  replace kg0 := kg0.chg c9 (fun i hi hm => by simp at hi; subst hi; exact Ng0.out (by simpa using hm))
  have mkg0 := mmg0
  clear mmg0
  have kg0_c0 := kg0.here.cell 0 _ rfl
  have kg0_c1 := kg0.here.cell 1 _ rfl
  go_wp2_with fail
  clear kg0_c0 kg0_c1
  refine (heldSigned_at _ R0 (1) _ (by omega) (by omega) mkg0.here).mono ?_
  rintro e w10 ⟨rfl, b10⟩
  have bb10 := Below.next bb9 b10
  replace ow0 := ow0.below b10
  replace kg0 := kg0.below b10
  replace mkg0 := mkg0.below b10
  have hq10 : decide ((1 : Int) + szS R0 < 0) = false := decide_eq_false (by omega)
  go_upto_region 15 with fail
  go_cut [9, 10] (fun s t wx => NewLoc R0 w10 s wx ∧ t = .bool ok)
  case first =>
    go_wp2_with fail
    refine (HI.out _ (ht.below bb10)).mono ?_
    rintro e wf ⟨uf, rfl, of, bf⟩
    obtain ⟨Af, cf, rfl⟩ := own_len of
    go_wp2_with fail
    go_meet
    exact ⟨newLoc_last of (Nat.le_refl _) bf, rfl⟩
  rename World => w11
  obtain ⟨⟨gh0, uh0, rfl, oh0, lh0, b11⟩, rfl⟩ := hcut
  obtain ⟨Ah0, ch0, eh0⟩ := own_len oh0.here.2
  subst eh0
  have bb11 := Below.next bb10 b11
  replace ow0 := ow0.below b11
  replace kg0 := kg0.below b11
  replace mkg0 := mkg0.below b11
  have oh0_c0 := oh0.here.1.cell 0 _ rfl
  have oh0_c1 := oh0.here.1.cell 1 _ rfl
  have ow0_c0 := ow0.here.1.cell 0 _ rfl
  have ow0_c1 := ow0.here.1.cell 1 _ rfl
  go_wp2_with fail
  clear oh0_c0 oh0_c1 ow0_c0 ow0_c1
  refine (eqSigned_at _ _ R0 R0 _ (by omega) (OwnS.rd ⟨_, rfl, oh0.here.2⟩) (OwnS.rd ⟨_, rfl, ow0.here.2⟩)).mono ?_
  rintro e w12 ⟨rfl, b12⟩
  rw [decide_refl]
  have bb12 := Below.next bb11 b12
  replace kg0 := kg0.below b12
  replace mkg0 := mkg0.below b12
  have kg0_c0 := kg0.here.cell 0 _ rfl
  have kg0_c1 := kg0.here.cell 1 _ rfl
  go_wp2_with fail
  clear kg0_c0 kg0_c1
  refine (heldSigned_at _ R0 (1) _ (by omega) (by omega) mkg0.here).mono ?_
  rintro e w13 ⟨rfl, b13⟩
  have bb13 := Below.next bb12 b13
  have hq13 : decide ((1 : Int) + szS R0 < 0) = false := decide_eq_false (by omega)
  go_wp2
  go_ret
  exact ⟨rfl, bb13⟩
theorem lawStrInt (s : ByteArray) (w : World) (hm : s.size ≤ 9223372036854775807) (ht : Tab w) :
    Calls Tryd.prog 5 #[.string s] w fun e w' => e = .returned (.bool true) ∧ Below w.heap.size w w' := by
  by_cases hl : s.size ≤ 1048576
  · exact lawStrInt_small s w (fun W h => implStrInt_any s W hm h) hl ht
  · go_enter Tryd.func5, Tryd.ntmps5
    go_wp2
    go_ret
    exact ⟨rfl, Below.refl _ _⟩
end Go.Proofs.YtecaghbakjalgaaDoor
