/-
  The law FnExactRatePath of chapter 11, walked: it returns true wherever both packages answer alike.
-/
import Derived.Test.YtbpfabicampdkaaGreatDoorRatePathW
import Derived.Deep.RegionHeld3
import Derived.Deep.DeepCutAuto
import Derived.Test.YtbpfabicampdkaaGreatDoorJB10
namespace Go.Proofs.YtbpfabicampdkaaGreatDoor
open Go.RowKit

set_option maxHeartbeats 4000000 in
set_option maxRecDepth 100000 in
theorem lawRatePath_walk (va : Value) (a : TI) (p : ByteArray) (q : ByteArray) (P : List ByteArray) (w : World)
    (hS : ∀ (ua : Value) (W : World), OwnT ua a W → Calls Tryz.prog 35 #[ua, .string p, .string q] W (NewStr P W))
    (hI : ∀ (ua : Value) (W : World), OwnT ua a W → CurTab W → Sen W → Calls Tryz.prog 12 #[ua, .string p, .string q] W (NewStr P W))
    (ht0 : CurTab w) (ht1 : Sen w) (hl : szT a ≤ 1048576) (hlp : p.size ≤ 1048576) (hlq : q.size ≤ 1048576) (hlP : P.length ≤ 3) (ra : RdT w va a) :
    Calls Tryz.prog 7 #[va, .string p, .string q] w fun e w' => e = .returned (.bool true) ∧ Below w.heap.size w w' := by
  have HS := Lib.hid hS
  have HI := Lib.hid hI
  clear hS hI
  have HT0 := Lib.hid ht0
  clear ht0
  have HT1 := Lib.hid ht1
  clear ht1
  have hsa := szT_nonneg a
  have hma := mkT_range a
  have hza : szT a ≤ 1048576 := by omega
  obtain ⟨Aa, ca, rfl⟩ := rdT_form ra
  have bb0 : Below w.heap.size w (w.alloc (.cells #[.string a.1, .slice Aa a.2.length ca] 60)) := below_al (Below.refl _ _) _
  have ka := (box_new w #[.string a.1, .slice Aa a.2.length ca] 60)
  have RFa : Hid (∀ W, Below w.heap.size w W → RdT W (.agg #[.string a.1, .slice Aa a.2.length ca]) a) := Lib.hid fun W hb => ra.below hb
  go_enter Tryz.func7, Tryz.ntmps7
  have ka_c0 := ka.here.cell 0 _ rfl
  have ka_c1 := ka.here.cell 1 _ rfl
  go_wp2_with fail
  clear ka_c0 ka_c1
  refine (szT_cal _ a (1048576) _ (capT_of hza) (by omega) (by omega) (RFa.out _ bb0)).mono ?_
  rintro e w1 ⟨rfl, b1⟩
  rw [leftI_of (by omega)]
  have bb1 := Below.next bb0 b1
  replace ka := ka.below b1
  have hn : decide (((1048576 : Int) - szT a : Int) < 0) = false := decide_eq_false (by omega)
  have HKa := Lib.hid (ka.lt (w.heap.size) (by simp))
  have ka_c0 := ka.here.cell 0 _ rfl
  have ka_c1 := ka.here.cell 1 _ rfl
  go_wp2_with fail
  clear ka_c0 ka_c1
  refine (toT_new _ a _ hza (RFa.out _ bb1)).mono ?_
  rintro e w2 ⟨t, St, rfl, ot, lt, b2⟩
  have bb2 := Below.next bb1 b2
  replace ka := ka.below b2
  go_wp2_with fail
  refine (HS.out _ _ ot.here).mono ?_
  rintro e w3 ⟨v0, rfl, o0, b3⟩
  clear ot lt
  have l0 := own_within o0
  replace o0 := own_at o0
  have bb3 := Below.next bb2 b3
  replace ka := ka.below b3
  have ka_c0 := ka.here.cell 0 _ rfl
  have ka_c1 := ka.here.cell 1 _ rfl
  go_upto_region 10 with fail
  go_cut [9] (fun s wx => NewLocV 25 (fun v => OwnT v a) w3 s wx)
  case first =>
    go_wp2_with fail
    refine (toT_new _ a _ hza (RFa.out _ bb3)).mono ?_
    rintro e wt ⟨ut, St, rfl, ot, lt, bt⟩
    obtain ⟨At, ct, rfl⟩ := ownT_form ot.here
    go_wp2_with fail
    go_meet
    exact newLocV_last ot lt (Nat.le_refl _) bt
  rename World => w4
  clear ka_c0 ka_c1
  obtain ⟨gxa, csxa, Sxa, rfl, kxa, oxa, nxa, lxa, b4⟩ := hcut
  obtain ⟨Axa, cxa, exa⟩ := ownT_form oxa.here
  injection exa with exa
  subst exa
  have bb4 := Below.next bb3 b4
  replace ka := ka.below b4
  replace o0 := o0.below b4
  have kxa_c0 := kxa.here.cell 0 _ rfl
  have kxa_c1 := kxa.here.cell 1 _ rfl
  go_wp2_with fail
  clear kxa_c0 kxa_c1
  refine (HI.out _ _ oxa.here (HT0.out.below bb4) (HT1.out.below bb4)).mono ?_
  rintro e w5 ⟨v1, rfl, o1, b5⟩
  have l1 := own_within o1
  replace o1 := own_at o1
  have bb5 := Below.next bb4 b5
  replace ka := ka.below b5
  replace kxa := kxa.below b5
  replace oxa := oxa.below b5
  replace o0 := o0.below b5
  go_wp2_with fail
  refine (eqStringS_at v1 v0 P P _ (by omega) o1.here o0.here).mono ?_
  rintro e w6 ⟨rfl, b6⟩
  rw [decide_refl]
  have bb6 := Below.next bb5 b6
  replace ka := ka.below b6
  replace kxa := kxa.below b6
  replace oxa := oxa.below b6
  replace o0 := o0.below b6
  replace o1 := o1.below b6
  have ka_c0 := ka.here.cell 0 _ rfl
  have ka_c1 := ka.here.cell 1 _ rfl
  have kxa_c0 := kxa.here.cell 0 _ rfl
  have kxa_c1 := kxa.here.cell 1 _ rfl
  go_wp2_with fail
  have HB0 := Lib.hid (show Below w6.heap.size w6 w6.drew from (Below.refl _ _).drew)
  have KL := Lib.hid (show ∀ W, Below w6.heap.size w6 W → W.cell? ⟨w.heap.size, 0, none⟩ = some (.string a.1) ∧ W.cell? ⟨w.heap.size, 1, none⟩ = some (.slice Aa a.2.length ca) ∧ W.cell? ⟨gxa, 0, none⟩ = some (.string a.1) ∧ W.cell? ⟨gxa, 1, none⟩ = some (.slice Axa a.2.length cxa) ∧ Hid (Below w6.heap.size w6 W) from
    fun W hb => ⟨(ka.below hb).here.cell 0 _ rfl, (ka.below hb).here.cell 1 _ rfl, (kxa.below hb).here.cell 0 _ rfl, (kxa.below hb).here.cell 1 _ rfl, Lib.hid hb⟩)
  have BBF := Lib.hid (show ∀ W, Below w6.heap.size w6 W → Below w.heap.size w W from fun W hb => Below.next bb6 hb)
  have OXF := Lib.hid (show ∀ W, Below w6.heap.size w6 W → OwnT (.agg #[.string a.1, .slice Axa a.2.length cxa]) a W from fun W hb => (oxa.below hb).here)
  clear ka_c0 ka_c1 kxa_c0 kxa_c1
  go_region_held3 (fun W => W.cell? ⟨w.heap.size, 0, none⟩ = some (.string a.1) ∧ W.cell? ⟨w.heap.size, 1, none⟩ = some (.slice Aa a.2.length ca) ∧ W.cell? ⟨gxa, 0, none⟩ = some (.string a.1) ∧ W.cell? ⟨gxa, 1, none⟩ = some (.slice Axa a.2.length cxa) ∧ Hid (Below w6.heap.size w6 W))
    ((refine KL.out _ ?_; (first | exact HBe.out | exact HBt.out | exact HB0.out | fail)))
    (first
      | (go_at_call 28; (have hBB := (‹_ ∧ _ ∧ _ ∧ _ ∧ Hid (Below w6.heap.size w6 _)›).2.2.2.2); (with_reducible refine (toT_new _ a _ hza (RFa.out _ (BBF.out _ hBB.out))).mono ?_); rintro e wt ⟨t, St, rfl, ot, lt, bt⟩; have HBt := Lib.hid (Below.next hBB.out bt); clear hBB)
      | (go_at_call 29; (have hBB := (‹_ ∧ _ ∧ _ ∧ _ ∧ Hid (Below w6.heap.size w6 _)›).2.2.2.2); (with_reducible refine (eqT_cal _ _ a a _ (capTS_of hza) (OwnT.rd (OXF.out _ hBB.out)) (OwnT.rd ot.here)).mono ?_); rintro e w7 ⟨rfl, be⟩; rw [decide_refl]; have HBe := Lib.hid (Below.next hBB.out be); clear hBB))
  have b7 := HBe.out
  have bb7 := Below.next bb6 b7
  replace ka := ka.below b7
  replace kxa := kxa.below b7
  replace oxa := oxa.below b7
  replace o0 := o0.below b7
  replace o1 := o1.below b7
  clear HB0 KL BBF OXF HBt HBe ot lt
  have z1 := b1.size
  have z2 := b2.size
  have z3 := b3.size
  have z4 := b4.size
  have z5 := b5.size
  have z0 := bb0.size
  have hka := HKa.out
  have A0x := Lib.hid (show ∀ i ∈ v0.ownBlock.toList, i ∉ Sxa from fun i hi hm => by have := l0 i hi; have := lxa i (List.mem_cons_of_mem _ hm); omega)
  have A1x := Lib.hid (show ∀ i ∈ v1.ownBlock.toList, i ∉ Sxa from fun i hi hm => by have := l1 i hi; have := lxa i (List.mem_cons_of_mem _ hm); omega)
  have A01 := Lib.hid (show ∀ i ∈ v0.ownBlock.toList, i ∉ v1.ownBlock.toList from fun i hi hm => by have := l0 i hi; have := l1 i hm; omega)
  have AKx := Lib.hid (show ∀ i ∈ [w.heap.size], i ∉ Sxa from fun i hi hm => by have := lxa i (List.mem_cons_of_mem _ hm); simp at hi; omega)
  have AK1 := Lib.hid (show ∀ i ∈ [w.heap.size], i ∉ v1.ownBlock.toList from fun i hi hm => by have := l1 i hm; simp at hi; omega)
  have FX := Lib.hid (show ∀ i ∈ Sxa, w.heap.size ≤ i from fun i hi => by have := lxa i (List.mem_cons_of_mem _ hi); omega)
  have F1 := Lib.hid (show ∀ i ∈ v1.ownBlock.toList, w.heap.size ≤ i from fun i hi => by have := l1 i hi; omega)
  clear z0 z1 z2 z3 z4 z5 l0 l1 lxa hka
  have kxa_c0 := kxa.here.cell 0 _ rfl
  have kxa_c1 := kxa.here.cell 1 _ rfl
  go_wp2_with fail
  clear kxa_c0 kxa_c1
  refine (markT_cal _ a _ 1 _ (by omega) (by omega) oxa).mono ?_
  rintro e w8 ⟨rfl, mkxa, c8⟩
  clear mkxa oxa kxa
  have bb8 := below_chg bb7 c8 bb7.size FX.out
  replace ka := ka.chg c8 AKx.out
  replace o0 := o0.chg c8 A0x.out
  replace o1 := o1.chg c8 A1x.out
  have hk : decide ((1 + mkT a : Int) < 0) = false := decide_eq_false (by omega)
  go_wp2_with fail
  refine (eqStringS_at v1 v0 P P _ (by omega) o1.here o0.here).mono ?_
  rintro e w9 ⟨rfl, b9⟩
  rw [decide_refl]
  clear hk
  have bb9 := Below.next bb8 b9
  replace ka := ka.below b9
  replace o0 := o0.below b9
  replace o1 := o1.below b9
  go_wp2_with fail
  refine (markStringS_any v1 P.length _ 0 1 _ (by omega) (by omega) o1.here).mono ?_
  rintro e w10 ⟨rfl, m1, g10⟩
  have c10 := Chg.of_grown g10
  have bb10 := below_chg bb9 c10 bb9.size F1.out
  replace ka := ka.chg c10 AK1.out
  replace o0 := o0.chg c10 A01.out
  replace o1 := own_at m1
  clear m1 g10
  go_wp2_with fail
  refine (heldStringS_any v1 P.length _ _ 1 _ (by omega) (by omega) (Nat.le_refl _) (Row.of_own o1.here)).mono ?_
  rintro e w11 ⟨rfl, b11⟩
  have bb11 := Below.next bb10 b11
  replace ka := ka.below b11
  replace o0 := o0.below b11
  replace o1 := o1.below b11
  have hq : decide ((1 + (P.length : Int) : Int) < 0) = false := decide_eq_false (by omega)
  have ka_c0 := ka.here.cell 0 _ rfl
  have ka_c1 := ka.here.cell 1 _ rfl
  go_wp2_with fail
  clear ka_c0 ka_c1
  refine (toT_new _ a _ hza (RFa.out _ bb11)).mono ?_
  rintro e w12 ⟨t, St, rfl, ot, lt, b12⟩
  have bb12 := Below.next bb11 b12
  replace o0 := o0.below b12
  replace o1 := o1.below b12
  go_wp2_with fail
  refine (HI.out _ _ ot.here (HT0.out.below bb12) (HT1.out.below bb12)).mono ?_
  rintro e w13 ⟨v2, rfl, o2, b13⟩
  clear ot lt
  have bb13 := Below.next bb12 b13
  replace o0 := o0.below b13
  replace o1 := o1.below b13
  replace o2 := own_at o2
  go_wp2_with fail
  refine (eqStringS_at v2 v0 P P _ (by omega) o2.here o0.here).mono ?_
  rintro e w14 ⟨rfl, b14⟩
  rw [decide_refl]
  have bb14 := Below.next bb13 b14
  replace o1 := o1.below b14
  go_wp2_with fail
  refine (heldStringS_any v1 P.length _ _ 1 _ (by omega) (by omega) (Nat.le_refl _) (Row.of_own o1.here)).mono ?_
  rintro e w15 ⟨rfl, b15⟩
  have bb15 := Below.next bb14 b15
  go_wp2
  go_ret
  exact ⟨rfl, bb15⟩
end Go.Proofs.YtbpfabicampdkaaGreatDoor
