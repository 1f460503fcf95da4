/-
  The law FnExactRateHow of chapter 11, walked: it returns true wherever both packages answer alike.
-/
import Derived.Deep.RegionHeld3
import Derived.Deep.DeepCutAuto
import Derived.Test.YtbpfabicampdkaaGreatDoorJB7
namespace Go.Proofs.YtbpfabicampdkaaGreatDoor
open Go.RowKit

set_option maxHeartbeats 4000000 in
set_option maxRecDepth 100000 in
theorem lawRateHow_walk (va : Value) (a : TI) (p : ByteArray) (q : ByteArray) (R0 : Int) (w : World)
    (hS : ∀ (ua : Value) (W : World), OwnT ua a W → Calls Tryz.prog 27 #[ua, .string p, .string q] W (Postn R0 W))
    (hI : ∀ (ua : Value) (W : World), OwnT ua a W → CurTab W → Sen W → Calls Tryz.prog 11 #[ua, .string p, .string q] W (Postn R0 W))
    (ht0 : CurTab w) (ht1 : Sen w) (hl : szT a ≤ 1048576) (hlp : p.size ≤ 1048576) (hlq : q.size ≤ 1048576) (ra : RdT w va a) :
    Calls Tryz.prog 5 #[va, .string p, .string q] w fun e w' => e = .returned (.bool true) ∧ Below w.heap.size w w' := by
  have HS := Lib.hid hS
  have HI := Lib.hid hI
  clear hS hI
  have HT0 := Lib.hid ht0
  clear ht0
  have HT1 := Lib.hid ht1
  clear ht1
  have hsa := szT_nonneg a
  have hma := mkT_range a
  have hza : szT a ≤ 1048576 := by omega
  obtain ⟨Aa, ca, rfl⟩ := rdT_form ra
  have bb0 : Below w.heap.size w (w.alloc (.cells #[.string a.1, .slice Aa a.2.length ca] 60)) := below_al (Below.refl _ _) _
  have ka := (box_new w #[.string a.1, .slice Aa a.2.length ca] 60)
  have RFa : Hid (∀ W, Below w.heap.size w W → RdT W (.agg #[.string a.1, .slice Aa a.2.length ca]) a) := Lib.hid fun W hb => ra.below hb
  go_enter Tryz.func5, Tryz.ntmps5
  have ka_c0 := ka.here.cell 0 _ rfl
  have ka_c1 := ka.here.cell 1 _ rfl
  go_wp2_with fail
  clear ka_c0 ka_c1
  refine (szT_cal _ a (1048576) _ (capT_of hza) (by omega) (by omega) (RFa.out _ bb0)).mono ?_
  rintro e w1 ⟨rfl, b1⟩
  rw [leftI_of (by omega)]
  have bb1 := Below.next bb0 b1
  replace ka := ka.below b1
  have hn : decide (((1048576 : Int) - szT a : Int) < 0) = false := decide_eq_false (by omega)
  have HKa := Lib.hid (ka.lt (w.heap.size) (by simp))
  have ka_c0 := ka.here.cell 0 _ rfl
  have ka_c1 := ka.here.cell 1 _ rfl
  go_wp2_with fail
  clear ka_c0 ka_c1
  refine (toT_new _ a _ hza (RFa.out _ bb1)).mono ?_
  rintro e w2 ⟨t, St, rfl, ot, lt, b2⟩
  have bb2 := Below.next bb1 b2
  replace ka := ka.below b2
  go_wp2_with fail
  refine (HS.out _ _ ot.here).mono ?_
  rintro e w3 ⟨rfl, b3⟩
  clear ot lt
  have bb3 := Below.next bb2 b3
  replace ka := ka.below b3
  have ka_c0 := ka.here.cell 0 _ rfl
  have ka_c1 := ka.here.cell 1 _ rfl
  go_upto_region 10 with fail
  go_cut [9] (fun s wx => NewLocV 25 (fun v => OwnT v a) w3 s wx)
  case first =>
    go_wp2_with fail
    refine (toT_new _ a _ hza (RFa.out _ bb3)).mono ?_
    rintro e wt ⟨ut, St, rfl, ot, lt, bt⟩
    obtain ⟨At, ct, rfl⟩ := ownT_form ot.here
    go_wp2_with fail
    go_meet
    exact newLocV_last ot lt (Nat.le_refl _) bt
  rename World => w4
  clear ka_c0 ka_c1
  obtain ⟨gxa, csxa, Sxa, rfl, kxa, oxa, nxa, lxa, b4⟩ := hcut
  obtain ⟨Axa, cxa, exa⟩ := ownT_form oxa.here
  injection exa with exa
  subst exa
  have bb4 := Below.next bb3 b4
  replace ka := ka.below b4
  have kxa_c0 := kxa.here.cell 0 _ rfl
  have kxa_c1 := kxa.here.cell 1 _ rfl
  go_wp2_with fail
  clear kxa_c0 kxa_c1
  refine (HI.out _ _ oxa.here (HT0.out.below bb4) (HT1.out.below bb4)).mono ?_
  rintro e w5 ⟨rfl, b5⟩
  have bb5 := Below.next bb4 b5
  replace ka := ka.below b5
  replace kxa := kxa.below b5
  replace oxa := oxa.below b5
  have ka_c0 := ka.here.cell 0 _ rfl
  have ka_c1 := ka.here.cell 1 _ rfl
  have kxa_c0 := kxa.here.cell 0 _ rfl
  have kxa_c1 := kxa.here.cell 1 _ rfl
  go_wp2_with fail
  have HB0 := Lib.hid (show Below w5.heap.size w5 w5.drew from (Below.refl _ _).drew)
  have KL := Lib.hid (show ∀ W, Below w5.heap.size w5 W → W.cell? ⟨w.heap.size, 0, none⟩ = some (.string a.1) ∧ W.cell? ⟨w.heap.size, 1, none⟩ = some (.slice Aa a.2.length ca) ∧ W.cell? ⟨gxa, 0, none⟩ = some (.string a.1) ∧ W.cell? ⟨gxa, 1, none⟩ = some (.slice Axa a.2.length cxa) ∧ Hid (Below w5.heap.size w5 W) from
    fun W hb => ⟨(ka.below hb).here.cell 0 _ rfl, (ka.below hb).here.cell 1 _ rfl, (kxa.below hb).here.cell 0 _ rfl, (kxa.below hb).here.cell 1 _ rfl, Lib.hid hb⟩)
  have BBF := Lib.hid (show ∀ W, Below w5.heap.size w5 W → Below w.heap.size w W from fun W hb => Below.next bb5 hb)
  have OXF := Lib.hid (show ∀ W, Below w5.heap.size w5 W → OwnT (.agg #[.string a.1, .slice Axa a.2.length cxa]) a W from fun W hb => (oxa.below hb).here)
  clear ka_c0 ka_c1 kxa_c0 kxa_c1
  go_region_held3 (fun W => W.cell? ⟨w.heap.size, 0, none⟩ = some (.string a.1) ∧ W.cell? ⟨w.heap.size, 1, none⟩ = some (.slice Aa a.2.length ca) ∧ W.cell? ⟨gxa, 0, none⟩ = some (.string a.1) ∧ W.cell? ⟨gxa, 1, none⟩ = some (.slice Axa a.2.length cxa) ∧ Hid (Below w5.heap.size w5 W))
    ((refine KL.out _ ?_; (first | exact HBe.out | exact HBt.out | exact HB0.out | fail)))
    (first
      | (go_at_call 28; (have hBB := (‹_ ∧ _ ∧ _ ∧ _ ∧ Hid (Below w5.heap.size w5 _)›).2.2.2.2); (with_reducible refine (toT_new _ a _ hza (RFa.out _ (BBF.out _ hBB.out))).mono ?_); rintro e wt ⟨t, St, rfl, ot, lt, bt⟩; have HBt := Lib.hid (Below.next hBB.out bt); clear hBB)
      | (go_at_call 29; (have hBB := (‹_ ∧ _ ∧ _ ∧ _ ∧ Hid (Below w5.heap.size w5 _)›).2.2.2.2); (with_reducible refine (eqT_cal _ _ a a _ (capTS_of hza) (OwnT.rd (OXF.out _ hBB.out)) (OwnT.rd ot.here)).mono ?_); rintro e w6 ⟨rfl, be⟩; rw [decide_refl]; have HBe := Lib.hid (Below.next hBB.out be); clear hBB))
  have b6 := HBe.out
  have bb6 := Below.next bb5 b6
  replace ka := ka.below b6
  replace kxa := kxa.below b6
  replace oxa := oxa.below b6
  clear HB0 KL BBF OXF HBt HBe ot lt
  go_wp2
  go_ret
  exact ⟨rfl, bb6⟩
end Go.Proofs.YtbpfabicampdkaaGreatDoor
