/-
  MoneyLawTaxOn, TaxB, DecQ, CurSpec, CurFindS, MoneySpec
-/
import Derived.Deep.RegionHeld3
import Derived.Deep.DeepCutAuto
import Derived.Deep.MidRow
import Derived.Test.YtofehcpapdlcnaaGreatDoorJQ3
namespace Go.Proofs.YtofehcpapdlcnaaGreatDoor
open Go.RowKit

set_option maxHeartbeats 8000000 in
set_option maxRecDepth 100000 in
theorem lawTaxOn_walk (vm : Value) (va : Value) (m : MI) (a : DI) (k : Int) (R0 : MI) (R1 : QI) (R2 : Bool) (w : World)
    (hS : ∀ (um : Value) (ua : Value) (W : World), OwnM um m W → OwnD ua a W → Calls Tryz.prog 9 #[um, ua, .int .i64 k] W (PostMQb R0 R1 R2 W))
    (hI : ∀ (um : Value) (ua : Value) (W : World), OwnM um m W → OwnD ua a W → CurTab W → Sen W → Calls Tryz.prog 12 #[um, ua, .int .i64 k] W (PostMQb R0 R1 R2 W))
    (ht0 : CurTab w) (ht1 : Sen w) (hl : szM m + szD a ≤ 1048576) (hlR0 : szM R0 ≤ 1048576) (hlR1 : szQ R1 ≤ 1048576) (rm : RdM w vm m) (ra : RdD w va a) :
    Calls Tryz.prog 3 #[vm, va, .int .i64 k] w fun e w' => e = .returned (.bool true) ∧ Below w.heap.size w w' := by
  have HS := Lib.hid hS
  have HI := Lib.hid hI
  clear hS hI
  have HT0 := Lib.hid ht0
  clear ht0
  have HT1 := Lib.hid ht1
  clear ht1
  have hsm := szM_nonneg m
  have hsa := szD_nonneg a
  have hsR0 := szM_nonneg R0
  have hsR1 := szQ_nonneg R1
  have hmm := mkM_range m
  have hmR0 := mkM_range R0
  have hzm : szM m ≤ 1048576 := by omega
  obtain ⟨Am, cm, rfl⟩ := rdM_form rm
  have hza : szD a ≤ 1048576 := by omega
  obtain ⟨Aa, ca, rfl⟩ := rdD_form ra
  have bb0 : Below w.heap.size w ((w.alloc (.cells #[.string m.1, .bool m.2.1, .slice Am m.2.2.length cm] 26)).alloc (.cells #[.bool a.1.1, .slice Aa a.1.2.length ca, .int .i64 a.2] 28)) := below_al (below_al (Below.refl _ _) _) _
  have km := (box_new w #[.string m.1, .bool m.2.1, .slice Am m.2.2.length cm] 26).below (below_al (Below.refl _ _) (.cells #[.bool a.1.1, .slice Aa a.1.2.length ca, .int .i64 a.2] 28))
  have ka := (box_new (w.alloc (.cells #[.string m.1, .bool m.2.1, .slice Am m.2.2.length cm] 26)) #[.bool a.1.1, .slice Aa a.1.2.length ca, .int .i64 a.2] 28)
  rw [show (w.alloc (.cells #[.string m.1, .bool m.2.1, .slice Am m.2.2.length cm] 26)).heap.size = w.heap.size + 1 by simp] at ka
  have RFm : Hid (∀ W, Below w.heap.size w W → RdM W (.agg #[.string m.1, .bool m.2.1, .slice Am m.2.2.length cm]) m) := Lib.hid fun W hb => rm.below hb
  have RFa : Hid (∀ W, Below w.heap.size w W → RdD W (.agg #[.bool a.1.1, .slice Aa a.1.2.length ca, .int .i64 a.2]) a) := Lib.hid fun W hb => ra.below hb
  go_enter Tryz.func3, Tryz.ntmps3
  have km_c0 := km.here.cell 0 _ rfl
  have km_c1 := km.here.cell 1 _ rfl
  have km_c2 := km.here.cell 2 _ rfl
  go_wp2_with fail
  clear km_c0 km_c1 km_c2
  refine (szM_cal _ m (1048576) _ (capM_of hzm) (by omega) (by omega) (RFm.out _ bb0)).mono ?_
  rintro e w1 ⟨rfl, b1⟩
  rw [leftI_of (by omega)]
  have bb1 := Below.next bb0 b1
  replace km := km.below b1
  replace ka := ka.below b1
  have hn : decide (((1048576 : Int) - szM m : Int) < 0) = false := decide_eq_false (by omega)
  have ka_c0 := ka.here.cell 0 _ rfl
  have ka_c1 := ka.here.cell 1 _ rfl
  have ka_c2 := ka.here.cell 2 _ rfl
  go_wp2_with fail
  clear ka_c0 ka_c1 ka_c2
  refine (szD_cal _ a (1048576 - szM m) _ (capD_of hza) (by omega) (by omega) (RFa.out _ bb1)).mono ?_
  rintro e w2 ⟨rfl, b2⟩
  rw [leftI_of (by omega)]
  have bb2 := Below.next bb1 b2
  replace km := km.below b2
  replace ka := ka.below b2
  clear hn
  have hn : decide (((1048576 : Int) - szM m - szD a : Int) < 0) = false := decide_eq_false (by omega)
  have HKm := Lib.hid (km.lt (w.heap.size) (by simp))
  have HKa := Lib.hid (ka.lt (w.heap.size + 1) (by simp))
  have km_c0 := km.here.cell 0 _ rfl
  have km_c1 := km.here.cell 1 _ rfl
  have km_c2 := km.here.cell 2 _ rfl
  have ka_c0 := ka.here.cell 0 _ rfl
  have ka_c1 := ka.here.cell 1 _ rfl
  have ka_c2 := ka.here.cell 2 _ rfl
  go_upto_region 8 with fail
  go_cut [8, 9, 10] (fun s t c2 wx => NewLocP 33 35 (fun v => OwnM v R0) (fun v => OwnQ v R1) w2 s t wx ∧ c2 = .bool R2)
  case first =>
    have KL := Lib.hid (show ∀ W, Below w2.heap.size w2 W → W.cell? ⟨w.heap.size, 0, none⟩ = some (.string m.1) ∧ W.cell? ⟨w.heap.size, 1, none⟩ = some (.bool m.2.1) ∧ W.cell? ⟨w.heap.size, 2, none⟩ = some (.slice Am m.2.2.length cm) ∧ W.cell? ⟨w.heap.size + 1, 0, none⟩ = some (.bool a.1.1) ∧ W.cell? ⟨w.heap.size + 1, 1, none⟩ = some (.slice Aa a.1.2.length ca) ∧ W.cell? ⟨w.heap.size + 1, 2, none⟩ = some (.int .i64 a.2) ∧ Hid (Below w2.heap.size w2 W) from
      fun W hb => ⟨(km.below hb).here.cell 0 _ rfl, (km.below hb).here.cell 1 _ rfl, (km.below hb).here.cell 2 _ rfl, (ka.below hb).here.cell 0 _ rfl, (ka.below hb).here.cell 1 _ rfl, (ka.below hb).here.cell 2 _ rfl, Lib.hid hb⟩)
    have BBF := Lib.hid (show ∀ W, Below w2.heap.size w2 W → Below w.heap.size w W from fun W hb => Below.next bb2 hb)
    have HZm := Lib.hid hzm
    have HZa := Lib.hid hza
    have X0 := Lib.hid (show BxP [] w2 w2.drew from BxP.nil_ (Below.refl _ _).drew)
    try clear km_c0; try clear km_c1; try clear km_c2; try clear ka_c0; try clear ka_c1; try clear ka_c2
    try clear hn; try clear hk; try clear hsm; try clear hsa; try clear hsR0; try clear hsR1
    try clear hmm; try clear hma; try clear hmR0; try clear hmR1; try clear hzm; try clear hza
    try clear hl; try clear hlm; try clear hla; try clear hlk; try clear hlR0; try clear hlR1
    try clear rm; try clear ra; try clear bb0; try clear bb1; try clear bb2; try clear b1
    try clear b2; try clear c1; try clear c2; try clear hq1; try clear hq2; try clear km
    try clear ka; try clear HKm; try clear HKa
    refine wp_region_held_drew (S := fun W => W.cell? ⟨w.heap.size, 0, none⟩ = some (.string m.1) ∧ W.cell? ⟨w.heap.size, 1, none⟩ = some (.bool m.2.1) ∧ W.cell? ⟨w.heap.size, 2, none⟩ = some (.slice Am m.2.2.length cm) ∧ W.cell? ⟨w.heap.size + 1, 0, none⟩ = some (.bool a.1.1) ∧ W.cell? ⟨w.heap.size + 1, 1, none⟩ = some (.slice Aa a.1.2.length ca) ∧ W.cell? ⟨w.heap.size + 1, 2, none⟩ = some (.int .i64 a.2) ∧ Hid (Below w2.heap.size w2 W)) (by kernel_rfl) ?_ (fun hHeld => ?_)
    · exact KL.out _ X0.out.2.2
    refine wpAnyH_take (i := 0) (v := ?_) rfl (by kernel_rfl) (by kernel_rfl) (by kernel_rfl) (fun _ _ _ h => h) (Or.inl ⟨by kernel_rfl, ?_⟩) (by assumption) ?_
    rotate_left
    · (intro w hSw; (try dsimp only at hSw); go_simp; (try with_reducible rfl))
    (try simp only [Act.put, List.getElem_toArray, List.getElem_cons_zero, List.setIfInBounds_toArray, List.set_cons_zero, List.set_cons_succ])
    refine wpAnyH_take (i := 2) (v := ?_) rfl (by kernel_rfl) (by kernel_rfl) (by kernel_rfl) (fun _ _ _ h => h) (Or.inl ⟨by kernel_rfl, ?_⟩) (by assumption) ?_
    rotate_left
    · (intro w hSw; (try dsimp only at hSw); go_simp; (try with_reducible rfl))
    (try simp only [Act.put, List.getElem_toArray, List.getElem_cons_zero, List.getElem_cons_succ, List.setIfInBounds_toArray, List.set_cons_zero, List.set_cons_succ])
    refine wpAnyH_take (i := 4) (v := ?_) rfl (by kernel_rfl) (by kernel_rfl) (by kernel_rfl) (fun _ _ _ h => h) (Or.inl ⟨by kernel_rfl, ?_⟩) (by assumption) ?_
    rotate_left
    · (intro w hSw; (try dsimp only at hSw); go_simp; (try with_reducible rfl))
    (try simp only [Act.put, List.getElem_toArray, List.getElem_cons_zero, List.getElem_cons_succ, List.setIfInBounds_toArray, List.set_cons_zero, List.set_cons_succ])
    have X := X0.out
    clear X0 hHeld
    generalize w2.drew = W at X ⊢
    revert X
    revert W
    apply memoG
    intro key311
    apply memoG
    intro key310
    apply memoG
    intro key301
    apply memoG
    intro key300
    apply memoG
    intro key211
    apply memoG
    intro key210
    apply memoG
    intro key201
    apply memoG
    intro key200
    apply memoG
    intro key111
    apply memoG
    intro key110
    apply memoG
    intro key101
    apply memoG
    intro key100
    apply memoG
    intro key011
    apply memoG
    intro key010
    apply memoG
    intro key001
    · intro W X
      have hHeld := KL.out _ X.2.2
      refine wpAnyH_ready (rs := [1, 10, 11]) (by kernel_rfl) (by simp) ?_
      refine AllReadyH.cons rfl (fun K hK => ?_) ?_
      · go_simp
        go_at_call 10
        refine (toM_new _ m _ HZm.out (RFm.out _ (BBF.out _ X.2.2))).mono ?_
        rintro e W2 ⟨tm, Stm, rfl, otm, ltm, btm⟩
        refine hK.out _ _ ?_ (fun hHeld2 => ?_)
        · exact KL.out _ (Below.next X.2.2 btm)
        clear hK K hHeld
        (try simp only [Act.put, List.getElem_toArray, List.getElem_cons_zero, List.getElem_cons_succ, List.setIfInBounds_toArray, List.set_cons_zero, List.set_cons_succ])
        have X2 := BxP.call X btm
        clear hHeld2 ltm btm X
        clear W
        rename World => W
        have X := X2
        clear X2
        revert otm
        revert X
        revert Stm
        revert tm
        revert W
        exact key100
      refine AllReadyH.cons rfl (fun K hK => ?_) ?_
      · go_simp
        refine hK.out _ _ ?_ (fun hHeld2 => ?_)
        · exact KL.out _ (below_al X.2.2 _)
        clear hK K hHeld hHeld2
        (try simp only [Act.put, List.getElem_toArray, List.getElem_cons_zero, List.getElem_cons_succ, List.setIfInBounds_toArray, List.set_cons_zero, List.set_cons_succ])
        have X2 := BxP.al X #[.string ⟨#[]⟩, .bool false, .slice none 0 0] 33
        clear X
        generalize W.alloc (.cells #[.string ⟨#[]⟩, .bool false, .slice none 0 0] 33) = W2 at *
        generalize W.heap.size = gA at *
        clear W
        rename World => W
        have X := X2
        clear X2
        revert X
        revert W
        revert gA
        exact key010
      refine AllReadyH.cons rfl (fun K hK => ?_) ?_
      · go_simp
        refine hK.out _ _ ?_ (fun hHeld2 => ?_)
        · exact KL.out _ (below_al X.2.2 _)
        clear hK K hHeld hHeld2
        (try simp only [Act.put, List.getElem_toArray, List.getElem_cons_zero, List.getElem_cons_succ, List.setIfInBounds_toArray, List.set_cons_zero, List.set_cons_succ])
        have X2 := BxP.al X #[.bool false, .slice none 0 0, .slice none 0 0] 35
        clear X
        generalize W.alloc (.cells #[.bool false, .slice none 0 0, .slice none 0 0] 35) = W2 at *
        generalize W.heap.size = gB at *
        clear W
        rename World => W
        have X := X2
        clear X2
        revert X
        revert W
        revert gB
        exact key001
      exact AllReadyH.nil
    · intro gB W X
      have hHeld := KL.out _ X.2.2
      refine wpAnyH_ready (rs := [1, 10]) (by kernel_rfl) (by simp) ?_
      refine AllReadyH.cons rfl (fun K hK => ?_) ?_
      · go_simp
        go_at_call 10
        refine (toM_new _ m _ HZm.out (RFm.out _ (BBF.out _ X.2.2))).mono ?_
        rintro e W2 ⟨tm, Stm, rfl, otm, ltm, btm⟩
        refine hK.out _ _ ?_ (fun hHeld2 => ?_)
        · exact KL.out _ (Below.next X.2.2 btm)
        clear hK K hHeld
        (try simp only [Act.put, List.getElem_toArray, List.getElem_cons_zero, List.getElem_cons_succ, List.setIfInBounds_toArray, List.set_cons_zero, List.set_cons_succ])
        have X2 := BxP.call X btm
        clear hHeld2 ltm btm X
        clear W
        rename World => W
        have X := X2
        clear X2
        revert otm
        revert X
        revert Stm
        revert tm
        revert W
        revert gB
        exact key101
      refine AllReadyH.cons rfl (fun K hK => ?_) ?_
      · go_simp
        refine hK.out _ _ ?_ (fun hHeld2 => ?_)
        · exact KL.out _ (below_al X.2.2 _)
        clear hK K hHeld hHeld2
        (try simp only [Act.put, List.getElem_toArray, List.getElem_cons_zero, List.getElem_cons_succ, List.setIfInBounds_toArray, List.set_cons_zero, List.set_cons_succ])
        have X2 := BxP.al X #[.string ⟨#[]⟩, .bool false, .slice none 0 0] 33
        clear X
        generalize W.alloc (.cells #[.string ⟨#[]⟩, .bool false, .slice none 0 0] 33) = W2 at *
        generalize W.heap.size = gA at *
        clear W
        rename World => W
        have X := X2
        clear X2
        revert X
        revert W
        revert gB
        revert gA
        exact key011
      exact AllReadyH.nil
    · intro gA W X
      have hHeld := KL.out _ X.2.2
      refine wpAnyH_ready (rs := [1, 11]) (by kernel_rfl) (by simp) ?_
      refine AllReadyH.cons rfl (fun K hK => ?_) ?_
      · go_simp
        go_at_call 10
        refine (toM_new _ m _ HZm.out (RFm.out _ (BBF.out _ X.2.2))).mono ?_
        rintro e W2 ⟨tm, Stm, rfl, otm, ltm, btm⟩
        refine hK.out _ _ ?_ (fun hHeld2 => ?_)
        · exact KL.out _ (Below.next X.2.2 btm)
        clear hK K hHeld
        (try simp only [Act.put, List.getElem_toArray, List.getElem_cons_zero, List.getElem_cons_succ, List.setIfInBounds_toArray, List.set_cons_zero, List.set_cons_succ])
        have X2 := BxP.call X btm
        clear hHeld2 ltm btm X
        clear W
        rename World => W
        have X := X2
        clear X2
        revert otm
        revert X
        revert Stm
        revert tm
        revert W
        revert gA
        exact key110
      refine AllReadyH.cons rfl (fun K hK => ?_) ?_
      · go_simp
        refine hK.out _ _ ?_ (fun hHeld2 => ?_)
        · exact KL.out _ (below_al X.2.2 _)
        clear hK K hHeld hHeld2
        (try simp only [Act.put, List.getElem_toArray, List.getElem_cons_zero, List.getElem_cons_succ, List.setIfInBounds_toArray, List.set_cons_zero, List.set_cons_succ])
        have X2 := BxP.al X #[.bool false, .slice none 0 0, .slice none 0 0] 35
        clear X
        generalize W.alloc (.cells #[.bool false, .slice none 0 0, .slice none 0 0] 35) = W2 at *
        generalize W.heap.size = gB at *
        clear W
        rename World => W
        have X := BxP.symm X2
        clear X2
        revert X
        revert W
        revert gB
        revert gA
        exact key011
      exact AllReadyH.nil
    · intro gA gB W X
      have hHeld := KL.out _ X.2.2
      refine wpAnyH_ready (rs := [1]) (by kernel_rfl) (by simp) ?_
      refine AllReadyH.cons rfl (fun K hK => ?_) ?_
      · go_simp
        go_at_call 10
        refine (toM_new _ m _ HZm.out (RFm.out _ (BBF.out _ X.2.2))).mono ?_
        rintro e W2 ⟨tm, Stm, rfl, otm, ltm, btm⟩
        refine hK.out _ _ ?_ (fun hHeld2 => ?_)
        · exact KL.out _ (Below.next X.2.2 btm)
        clear hK K hHeld
        (try simp only [Act.put, List.getElem_toArray, List.getElem_cons_zero, List.getElem_cons_succ, List.setIfInBounds_toArray, List.set_cons_zero, List.set_cons_succ])
        have X2 := BxP.call X btm
        clear hHeld2 ltm btm X
        clear W
        rename World => W
        have X := X2
        clear X2
        revert otm
        revert X
        revert Stm
        revert tm
        revert W
        revert gB
        revert gA
        exact key111
      exact AllReadyH.nil
    · intro W tm Stm X otm
      have hHeld := KL.out _ X.2.2
      refine wpAnyH_ready (rs := [3, 10, 11]) (by kernel_rfl) (by simp) ?_
      refine AllReadyH.cons rfl (fun K hK => ?_) ?_
      · go_simp
        go_at_call 11
        refine (toD_new _ a _ HZa.out (RFa.out _ (BBF.out _ X.2.2))).mono ?_
        rintro e W2 ⟨ta, Sta, rfl, ota, lta, bta⟩
        refine hK.out _ _ ?_ (fun hHeld2 => ?_)
        · exact KL.out _ (Below.next X.2.2 bta)
        clear hK K hHeld
        (try simp only [Act.put, List.getElem_toArray, List.getElem_cons_zero, List.getElem_cons_succ, List.setIfInBounds_toArray, List.set_cons_zero, List.set_cons_succ])
        have X2 := BxP.call X bta
        have otm2 := At.below otm bta
        clear hHeld2 lta bta X otm
        clear W
        rename World => W
        have X := X2
        clear X2
        have otm := otm2
        clear otm2
        revert ota
        revert otm
        revert X
        revert Sta
        revert ta
        revert Stm
        revert tm
        revert W
        exact key200
      refine AllReadyH.cons rfl (fun K hK => ?_) ?_
      · go_simp
        refine hK.out _ _ ?_ (fun hHeld2 => ?_)
        · exact KL.out _ (below_al X.2.2 _)
        clear hK K hHeld hHeld2
        (try simp only [Act.put, List.getElem_toArray, List.getElem_cons_zero, List.getElem_cons_succ, List.setIfInBounds_toArray, List.set_cons_zero, List.set_cons_succ])
        have X2 := BxP.al X #[.string ⟨#[]⟩, .bool false, .slice none 0 0] 33
        have otm2 := At.below otm (below_al (Below.refl _ _) (.cells #[.string ⟨#[]⟩, .bool false, .slice none 0 0] 33))
        clear X otm
        generalize W.alloc (.cells #[.string ⟨#[]⟩, .bool false, .slice none 0 0] 33) = W2 at *
        generalize W.heap.size = gA at *
        clear W
        rename World => W
        have X := X2
        clear X2
        have otm := otm2
        clear otm2
        revert otm
        revert X
        revert Stm
        revert tm
        revert W
        revert gA
        exact key110
      refine AllReadyH.cons rfl (fun K hK => ?_) ?_
      · go_simp
        refine hK.out _ _ ?_ (fun hHeld2 => ?_)
        · exact KL.out _ (below_al X.2.2 _)
        clear hK K hHeld hHeld2
        (try simp only [Act.put, List.getElem_toArray, List.getElem_cons_zero, List.getElem_cons_succ, List.setIfInBounds_toArray, List.set_cons_zero, List.set_cons_succ])
        have X2 := BxP.al X #[.bool false, .slice none 0 0, .slice none 0 0] 35
        have otm2 := At.below otm (below_al (Below.refl _ _) (.cells #[.bool false, .slice none 0 0, .slice none 0 0] 35))
        clear X otm
        generalize W.alloc (.cells #[.bool false, .slice none 0 0, .slice none 0 0] 35) = W2 at *
        generalize W.heap.size = gB at *
        clear W
        rename World => W
        have X := X2
        clear X2
        have otm := otm2
        clear otm2
        revert otm
        revert X
        revert Stm
        revert tm
        revert W
        revert gB
        exact key101
      exact AllReadyH.nil
    · intro gB W tm Stm X otm
      have hHeld := KL.out _ X.2.2
      refine wpAnyH_ready (rs := [3, 10]) (by kernel_rfl) (by simp) ?_
      refine AllReadyH.cons rfl (fun K hK => ?_) ?_
      · go_simp
        go_at_call 11
        refine (toD_new _ a _ HZa.out (RFa.out _ (BBF.out _ X.2.2))).mono ?_
        rintro e W2 ⟨ta, Sta, rfl, ota, lta, bta⟩
        refine hK.out _ _ ?_ (fun hHeld2 => ?_)
        · exact KL.out _ (Below.next X.2.2 bta)
        clear hK K hHeld
        (try simp only [Act.put, List.getElem_toArray, List.getElem_cons_zero, List.getElem_cons_succ, List.setIfInBounds_toArray, List.set_cons_zero, List.set_cons_succ])
        have X2 := BxP.call X bta
        have otm2 := At.below otm bta
        clear hHeld2 lta bta X otm
        clear W
        rename World => W
        have X := X2
        clear X2
        have otm := otm2
        clear otm2
        revert ota
        revert otm
        revert X
        revert Sta
        revert ta
        revert Stm
        revert tm
        revert W
        revert gB
        exact key201
      refine AllReadyH.cons rfl (fun K hK => ?_) ?_
      · go_simp
        refine hK.out _ _ ?_ (fun hHeld2 => ?_)
        · exact KL.out _ (below_al X.2.2 _)
        clear hK K hHeld hHeld2
        (try simp only [Act.put, List.getElem_toArray, List.getElem_cons_zero, List.getElem_cons_succ, List.setIfInBounds_toArray, List.set_cons_zero, List.set_cons_succ])
        have X2 := BxP.al X #[.string ⟨#[]⟩, .bool false, .slice none 0 0] 33
        have otm2 := At.below otm (below_al (Below.refl _ _) (.cells #[.string ⟨#[]⟩, .bool false, .slice none 0 0] 33))
        clear X otm
        generalize W.alloc (.cells #[.string ⟨#[]⟩, .bool false, .slice none 0 0] 33) = W2 at *
        generalize W.heap.size = gA at *
        clear W
        rename World => W
        have X := X2
        clear X2
        have otm := otm2
        clear otm2
        revert otm
        revert X
        revert Stm
        revert tm
        revert W
        revert gB
        revert gA
        exact key111
      exact AllReadyH.nil
    · intro gA W tm Stm X otm
      have hHeld := KL.out _ X.2.2
      refine wpAnyH_ready (rs := [3, 11]) (by kernel_rfl) (by simp) ?_
      refine AllReadyH.cons rfl (fun K hK => ?_) ?_
      · go_simp
        go_at_call 11
        refine (toD_new _ a _ HZa.out (RFa.out _ (BBF.out _ X.2.2))).mono ?_
        rintro e W2 ⟨ta, Sta, rfl, ota, lta, bta⟩
        refine hK.out _ _ ?_ (fun hHeld2 => ?_)
        · exact KL.out _ (Below.next X.2.2 bta)
        clear hK K hHeld
        (try simp only [Act.put, List.getElem_toArray, List.getElem_cons_zero, List.getElem_cons_succ, List.setIfInBounds_toArray, List.set_cons_zero, List.set_cons_succ])
        have X2 := BxP.call X bta
        have otm2 := At.below otm bta
        clear hHeld2 lta bta X otm
        clear W
        rename World => W
        have X := X2
        clear X2
        have otm := otm2
        clear otm2
        revert ota
        revert otm
        revert X
        revert Sta
        revert ta
        revert Stm
        revert tm
        revert W
        revert gA
        exact key210
      refine AllReadyH.cons rfl (fun K hK => ?_) ?_
      · go_simp
        refine hK.out _ _ ?_ (fun hHeld2 => ?_)
        · exact KL.out _ (below_al X.2.2 _)
        clear hK K hHeld hHeld2
        (try simp only [Act.put, List.getElem_toArray, List.getElem_cons_zero, List.getElem_cons_succ, List.setIfInBounds_toArray, List.set_cons_zero, List.set_cons_succ])
        have X2 := BxP.al X #[.bool false, .slice none 0 0, .slice none 0 0] 35
        have otm2 := At.below otm (below_al (Below.refl _ _) (.cells #[.bool false, .slice none 0 0, .slice none 0 0] 35))
        clear X otm
        generalize W.alloc (.cells #[.bool false, .slice none 0 0, .slice none 0 0] 35) = W2 at *
        generalize W.heap.size = gB at *
        clear W
        rename World => W
        have X := BxP.symm X2
        clear X2
        have otm := otm2
        clear otm2
        revert otm
        revert X
        revert Stm
        revert tm
        revert W
        revert gB
        revert gA
        exact key111
      exact AllReadyH.nil
    · intro gA gB W tm Stm X otm
      have hHeld := KL.out _ X.2.2
      refine wpAnyH_ready (rs := [3]) (by kernel_rfl) (by simp) ?_
      refine AllReadyH.cons rfl (fun K hK => ?_) ?_
      · go_simp
        go_at_call 11
        refine (toD_new _ a _ HZa.out (RFa.out _ (BBF.out _ X.2.2))).mono ?_
        rintro e W2 ⟨ta, Sta, rfl, ota, lta, bta⟩
        refine hK.out _ _ ?_ (fun hHeld2 => ?_)
        · exact KL.out _ (Below.next X.2.2 bta)
        clear hK K hHeld
        (try simp only [Act.put, List.getElem_toArray, List.getElem_cons_zero, List.getElem_cons_succ, List.setIfInBounds_toArray, List.set_cons_zero, List.set_cons_succ])
        have X2 := BxP.call X bta
        have otm2 := At.below otm bta
        clear hHeld2 lta bta X otm
        clear W
        rename World => W
        have X := X2
        clear X2
        have otm := otm2
        clear otm2
        revert ota
        revert otm
        revert X
        revert Sta
        revert ta
        revert Stm
        revert tm
        revert W
        revert gB
        revert gA
        exact key211
      exact AllReadyH.nil
    · intro W tm Stm ta Sta X otm ota
      have hHeld := KL.out _ X.2.2
      refine wpAnyH_ready (rs := [5, 10, 11]) (by kernel_rfl) (by simp) ?_
      refine AllReadyH.cons rfl (fun K hK => ?_) ?_
      · go_simp
        go_at_call 9
        refine (HS.out _ _ _ otm.here ota.here).mono ?_
        rintro e W2 ⟨uf, vf, Sf, Df, rfl, of, pf, hapf, lf, kf, bf⟩
        obtain ⟨Af, cf, rfl⟩ := ownM_form of.here
        obtain ⟨Ah, ch, Bh, dh, rfl⟩ := ownQ_form pf.here
        refine hK.out _ _ ?_ (fun hHeld2 => ?_)
        · exact KL.out _ (Below.next X.2.2 bf)
        clear hK K hHeld
        (try simp only [Act.put, List.getElem_toArray, List.getElem_cons_zero, List.getElem_cons_succ, List.setIfInBounds_toArray, List.set_cons_zero, List.set_cons_succ])
        refine wpAnyH_take (i := 6) (v := ?_) rfl (by kernel_rfl) (by kernel_rfl) (by kernel_rfl) (fun _ _ _ h => h) (Or.inl ⟨by kernel_rfl, ?_⟩) (by assumption) ?_
        rotate_left
        · (intro w hSw; (try dsimp only at hSw); go_simp; (try with_reducible rfl))
        (try simp only [Act.put, List.getElem_toArray, List.getElem_cons_zero, List.getElem_cons_succ, List.setIfInBounds_toArray, List.set_cons_zero, List.set_cons_succ])
        refine wpAnyH_take (i := 7) (v := ?_) rfl (by kernel_rfl) (by kernel_rfl) (by kernel_rfl) (fun _ _ _ h => h) (Or.inl ⟨by kernel_rfl, ?_⟩) (by assumption) ?_
        rotate_left
        · (intro w hSw; (try dsimp only at hSw); go_simp; (try with_reducible rfl))
        (try simp only [Act.put, List.getElem_toArray, List.getElem_cons_zero, List.getElem_cons_succ, List.setIfInBounds_toArray, List.set_cons_zero, List.set_cons_succ])
        refine wpAnyH_take (i := 8) (v := ?_) rfl (by kernel_rfl) (by kernel_rfl) (by kernel_rfl) (fun _ _ _ h => h) (Or.inl ⟨by kernel_rfl, ?_⟩) (by assumption) ?_
        rotate_left
        · (intro w hSw; (try dsimp only at hSw); go_simp; (try with_reducible rfl))
        (try simp only [Act.put, List.getElem_toArray, List.getElem_cons_zero, List.getElem_cons_succ, List.setIfInBounds_toArray, List.set_cons_zero, List.set_cons_succ])
        refine wpAnyH_take (i := 9) (v := ?_) rfl (by kernel_rfl) (by kernel_rfl) (by kernel_rfl) (fun _ _ _ h => h) (Or.inl ⟨by kernel_rfl, ?_⟩) (by assumption) ?_
        rotate_left
        · (intro w hSw; (try dsimp only at hSw); go_simp; (try with_reducible rfl))
        (try simp only [Act.put, List.getElem_toArray, List.getElem_cons_zero, List.getElem_cons_succ, List.setIfInBounds_toArray, List.set_cons_zero, List.set_cons_succ])
        have RY := ReadyP.of X bf of pf hapf lf kf
        clear hHeld2 of pf hapf lf kf bf Sf Df X otm ota
        clear Stm Sta W
        rename World => W
        revert RY
        revert dh
        revert Bh
        revert ch
        revert Ah
        revert cf
        revert Af
        revert ta
        revert tm
        revert W
        exact key300
      refine AllReadyH.cons rfl (fun K hK => ?_) ?_
      · go_simp
        refine hK.out _ _ ?_ (fun hHeld2 => ?_)
        · exact KL.out _ (below_al X.2.2 _)
        clear hK K hHeld hHeld2
        (try simp only [Act.put, List.getElem_toArray, List.getElem_cons_zero, List.getElem_cons_succ, List.setIfInBounds_toArray, List.set_cons_zero, List.set_cons_succ])
        have X2 := BxP.al X #[.string ⟨#[]⟩, .bool false, .slice none 0 0] 33
        have otm2 := At.below otm (below_al (Below.refl _ _) (.cells #[.string ⟨#[]⟩, .bool false, .slice none 0 0] 33))
        have ota2 := At.below ota (below_al (Below.refl _ _) (.cells #[.string ⟨#[]⟩, .bool false, .slice none 0 0] 33))
        clear X otm ota
        generalize W.alloc (.cells #[.string ⟨#[]⟩, .bool false, .slice none 0 0] 33) = W2 at *
        generalize W.heap.size = gA at *
        clear W
        rename World => W
        have X := X2
        clear X2
        have otm := otm2
        clear otm2
        have ota := ota2
        clear ota2
        revert ota
        revert otm
        revert X
        revert Sta
        revert ta
        revert Stm
        revert tm
        revert W
        revert gA
        exact key210
      refine AllReadyH.cons rfl (fun K hK => ?_) ?_
      · go_simp
        refine hK.out _ _ ?_ (fun hHeld2 => ?_)
        · exact KL.out _ (below_al X.2.2 _)
        clear hK K hHeld hHeld2
        (try simp only [Act.put, List.getElem_toArray, List.getElem_cons_zero, List.getElem_cons_succ, List.setIfInBounds_toArray, List.set_cons_zero, List.set_cons_succ])
        have X2 := BxP.al X #[.bool false, .slice none 0 0, .slice none 0 0] 35
        have otm2 := At.below otm (below_al (Below.refl _ _) (.cells #[.bool false, .slice none 0 0, .slice none 0 0] 35))
        have ota2 := At.below ota (below_al (Below.refl _ _) (.cells #[.bool false, .slice none 0 0, .slice none 0 0] 35))
        clear X otm ota
        generalize W.alloc (.cells #[.bool false, .slice none 0 0, .slice none 0 0] 35) = W2 at *
        generalize W.heap.size = gB at *
        clear W
        rename World => W
        have X := X2
        clear X2
        have otm := otm2
        clear otm2
        have ota := ota2
        clear ota2
        revert ota
        revert otm
        revert X
        revert Sta
        revert ta
        revert Stm
        revert tm
        revert W
        revert gB
        exact key201
      exact AllReadyH.nil
    · intro gB W tm Stm ta Sta X otm ota
      have hHeld := KL.out _ X.2.2
      refine wpAnyH_ready (rs := [5, 10]) (by kernel_rfl) (by simp) ?_
      refine AllReadyH.cons rfl (fun K hK => ?_) ?_
      · go_simp
        go_at_call 9
        refine (HS.out _ _ _ otm.here ota.here).mono ?_
        rintro e W2 ⟨uf, vf, Sf, Df, rfl, of, pf, hapf, lf, kf, bf⟩
        obtain ⟨Af, cf, rfl⟩ := ownM_form of.here
        obtain ⟨Ah, ch, Bh, dh, rfl⟩ := ownQ_form pf.here
        refine hK.out _ _ ?_ (fun hHeld2 => ?_)
        · exact KL.out _ (Below.next X.2.2 bf)
        clear hK K hHeld
        (try simp only [Act.put, List.getElem_toArray, List.getElem_cons_zero, List.getElem_cons_succ, List.setIfInBounds_toArray, List.set_cons_zero, List.set_cons_succ])
        refine wpAnyH_take (i := 6) (v := ?_) rfl (by kernel_rfl) (by kernel_rfl) (by kernel_rfl) (fun _ _ _ h => h) (Or.inl ⟨by kernel_rfl, ?_⟩) (by assumption) ?_
        rotate_left
        · (intro w hSw; (try dsimp only at hSw); go_simp; (try with_reducible rfl))
        (try simp only [Act.put, List.getElem_toArray, List.getElem_cons_zero, List.getElem_cons_succ, List.setIfInBounds_toArray, List.set_cons_zero, List.set_cons_succ])
        refine wpAnyH_take (i := 7) (v := ?_) rfl (by kernel_rfl) (by kernel_rfl) (by kernel_rfl) (fun _ _ _ h => h) (Or.inl ⟨by kernel_rfl, ?_⟩) (by assumption) ?_
        rotate_left
        · (intro w hSw; (try dsimp only at hSw); go_simp; (try with_reducible rfl))
        (try simp only [Act.put, List.getElem_toArray, List.getElem_cons_zero, List.getElem_cons_succ, List.setIfInBounds_toArray, List.set_cons_zero, List.set_cons_succ])
        refine wpAnyH_take (i := 8) (v := ?_) rfl (by kernel_rfl) (by kernel_rfl) (by kernel_rfl) (fun _ _ _ h => h) (Or.inl ⟨by kernel_rfl, ?_⟩) (by assumption) ?_
        rotate_left
        · (intro w hSw; (try dsimp only at hSw); go_simp; (try with_reducible rfl))
        (try simp only [Act.put, List.getElem_toArray, List.getElem_cons_zero, List.getElem_cons_succ, List.setIfInBounds_toArray, List.set_cons_zero, List.set_cons_succ])
        refine wpAnyH_take (i := 9) (v := ?_) rfl (by kernel_rfl) (by kernel_rfl) (by kernel_rfl) (fun _ _ _ h => h) (Or.inl ⟨by kernel_rfl, ?_⟩) (by assumption) ?_
        rotate_left
        · (intro w hSw; (try dsimp only at hSw); go_simp; (try with_reducible rfl))
        (try simp only [Act.put, List.getElem_toArray, List.getElem_cons_zero, List.getElem_cons_succ, List.setIfInBounds_toArray, List.set_cons_zero, List.set_cons_succ])
        have RY := ReadyP.of X bf of pf hapf lf kf
        clear hHeld2 of pf hapf lf kf bf Sf Df X otm ota
        clear Stm Sta W
        rename World => W
        revert RY
        revert dh
        revert Bh
        revert ch
        revert Ah
        revert cf
        revert Af
        revert ta
        revert tm
        revert W
        revert gB
        exact key301
      refine AllReadyH.cons rfl (fun K hK => ?_) ?_
      · go_simp
        refine hK.out _ _ ?_ (fun hHeld2 => ?_)
        · exact KL.out _ (below_al X.2.2 _)
        clear hK K hHeld hHeld2
        (try simp only [Act.put, List.getElem_toArray, List.getElem_cons_zero, List.getElem_cons_succ, List.setIfInBounds_toArray, List.set_cons_zero, List.set_cons_succ])
        have X2 := BxP.al X #[.string ⟨#[]⟩, .bool false, .slice none 0 0] 33
        have otm2 := At.below otm (below_al (Below.refl _ _) (.cells #[.string ⟨#[]⟩, .bool false, .slice none 0 0] 33))
        have ota2 := At.below ota (below_al (Below.refl _ _) (.cells #[.string ⟨#[]⟩, .bool false, .slice none 0 0] 33))
        clear X otm ota
        generalize W.alloc (.cells #[.string ⟨#[]⟩, .bool false, .slice none 0 0] 33) = W2 at *
        generalize W.heap.size = gA at *
        clear W
        rename World => W
        have X := X2
        clear X2
        have otm := otm2
        clear otm2
        have ota := ota2
        clear ota2
        revert ota
        revert otm
        revert X
        revert Sta
        revert ta
        revert Stm
        revert tm
        revert W
        revert gB
        revert gA
        exact key211
      exact AllReadyH.nil
    · intro gA W tm Stm ta Sta X otm ota
      have hHeld := KL.out _ X.2.2
      refine wpAnyH_ready (rs := [5, 11]) (by kernel_rfl) (by simp) ?_
      refine AllReadyH.cons rfl (fun K hK => ?_) ?_
      · go_simp
        go_at_call 9
        refine (HS.out _ _ _ otm.here ota.here).mono ?_
        rintro e W2 ⟨uf, vf, Sf, Df, rfl, of, pf, hapf, lf, kf, bf⟩
        obtain ⟨Af, cf, rfl⟩ := ownM_form of.here
        obtain ⟨Ah, ch, Bh, dh, rfl⟩ := ownQ_form pf.here
        refine hK.out _ _ ?_ (fun hHeld2 => ?_)
        · exact KL.out _ (Below.next X.2.2 bf)
        clear hK K hHeld
        (try simp only [Act.put, List.getElem_toArray, List.getElem_cons_zero, List.getElem_cons_succ, List.setIfInBounds_toArray, List.set_cons_zero, List.set_cons_succ])
        refine wpAnyH_take (i := 6) (v := ?_) rfl (by kernel_rfl) (by kernel_rfl) (by kernel_rfl) (fun _ _ _ h => h) (Or.inl ⟨by kernel_rfl, ?_⟩) (by assumption) ?_
        rotate_left
        · (intro w hSw; (try dsimp only at hSw); go_simp; (try with_reducible rfl))
        (try simp only [Act.put, List.getElem_toArray, List.getElem_cons_zero, List.getElem_cons_succ, List.setIfInBounds_toArray, List.set_cons_zero, List.set_cons_succ])
        refine wpAnyH_take (i := 7) (v := ?_) rfl (by kernel_rfl) (by kernel_rfl) (by kernel_rfl) (fun _ _ _ h => h) (Or.inl ⟨by kernel_rfl, ?_⟩) (by assumption) ?_
        rotate_left
        · (intro w hSw; (try dsimp only at hSw); go_simp; (try with_reducible rfl))
        (try simp only [Act.put, List.getElem_toArray, List.getElem_cons_zero, List.getElem_cons_succ, List.setIfInBounds_toArray, List.set_cons_zero, List.set_cons_succ])
        refine wpAnyH_take (i := 8) (v := ?_) rfl (by kernel_rfl) (by kernel_rfl) (by kernel_rfl) (fun _ _ _ h => h) (Or.inl ⟨by kernel_rfl, ?_⟩) (by assumption) ?_
        rotate_left
        · (intro w hSw; (try dsimp only at hSw); go_simp; (try with_reducible rfl))
        (try simp only [Act.put, List.getElem_toArray, List.getElem_cons_zero, List.getElem_cons_succ, List.setIfInBounds_toArray, List.set_cons_zero, List.set_cons_succ])
        refine wpAnyH_take (i := 9) (v := ?_) rfl (by kernel_rfl) (by kernel_rfl) (by kernel_rfl) (fun _ _ _ h => h) (Or.inl ⟨by kernel_rfl, ?_⟩) (by assumption) ?_
        rotate_left
        · (intro w hSw; (try dsimp only at hSw); go_simp; (try with_reducible rfl))
        (try simp only [Act.put, List.getElem_toArray, List.getElem_cons_zero, List.getElem_cons_succ, List.setIfInBounds_toArray, List.set_cons_zero, List.set_cons_succ])
        have RY := ReadyP.of X bf of pf hapf lf kf
        clear hHeld2 of pf hapf lf kf bf Sf Df X otm ota
        clear Stm Sta W
        rename World => W
        revert RY
        revert dh
        revert Bh
        revert ch
        revert Ah
        revert cf
        revert Af
        revert ta
        revert tm
        revert W
        revert gA
        exact key310
      refine AllReadyH.cons rfl (fun K hK => ?_) ?_
      · go_simp
        refine hK.out _ _ ?_ (fun hHeld2 => ?_)
        · exact KL.out _ (below_al X.2.2 _)
        clear hK K hHeld hHeld2
        (try simp only [Act.put, List.getElem_toArray, List.getElem_cons_zero, List.getElem_cons_succ, List.setIfInBounds_toArray, List.set_cons_zero, List.set_cons_succ])
        have X2 := BxP.al X #[.bool false, .slice none 0 0, .slice none 0 0] 35
        have otm2 := At.below otm (below_al (Below.refl _ _) (.cells #[.bool false, .slice none 0 0, .slice none 0 0] 35))
        have ota2 := At.below ota (below_al (Below.refl _ _) (.cells #[.bool false, .slice none 0 0, .slice none 0 0] 35))
        clear X otm ota
        generalize W.alloc (.cells #[.bool false, .slice none 0 0, .slice none 0 0] 35) = W2 at *
        generalize W.heap.size = gB at *
        clear W
        rename World => W
        have X := BxP.symm X2
        clear X2
        have otm := otm2
        clear otm2
        have ota := ota2
        clear ota2
        revert ota
        revert otm
        revert X
        revert Sta
        revert ta
        revert Stm
        revert tm
        revert W
        revert gB
        revert gA
        exact key211
      exact AllReadyH.nil
    · intro gA gB W tm Stm ta Sta X otm ota
      have hHeld := KL.out _ X.2.2
      refine wpAnyH_ready (rs := [5]) (by kernel_rfl) (by simp) ?_
      refine AllReadyH.cons rfl (fun K hK => ?_) ?_
      · go_simp
        go_at_call 9
        refine (HS.out _ _ _ otm.here ota.here).mono ?_
        rintro e W2 ⟨uf, vf, Sf, Df, rfl, of, pf, hapf, lf, kf, bf⟩
        obtain ⟨Af, cf, rfl⟩ := ownM_form of.here
        obtain ⟨Ah, ch, Bh, dh, rfl⟩ := ownQ_form pf.here
        refine hK.out _ _ ?_ (fun hHeld2 => ?_)
        · exact KL.out _ (Below.next X.2.2 bf)
        clear hK K hHeld
        (try simp only [Act.put, List.getElem_toArray, List.getElem_cons_zero, List.getElem_cons_succ, List.setIfInBounds_toArray, List.set_cons_zero, List.set_cons_succ])
        refine wpAnyH_take (i := 6) (v := ?_) rfl (by kernel_rfl) (by kernel_rfl) (by kernel_rfl) (fun _ _ _ h => h) (Or.inl ⟨by kernel_rfl, ?_⟩) (by assumption) ?_
        rotate_left
        · (intro w hSw; (try dsimp only at hSw); go_simp; (try with_reducible rfl))
        (try simp only [Act.put, List.getElem_toArray, List.getElem_cons_zero, List.getElem_cons_succ, List.setIfInBounds_toArray, List.set_cons_zero, List.set_cons_succ])
        refine wpAnyH_take (i := 7) (v := ?_) rfl (by kernel_rfl) (by kernel_rfl) (by kernel_rfl) (fun _ _ _ h => h) (Or.inl ⟨by kernel_rfl, ?_⟩) (by assumption) ?_
        rotate_left
        · (intro w hSw; (try dsimp only at hSw); go_simp; (try with_reducible rfl))
        (try simp only [Act.put, List.getElem_toArray, List.getElem_cons_zero, List.getElem_cons_succ, List.setIfInBounds_toArray, List.set_cons_zero, List.set_cons_succ])
        refine wpAnyH_take (i := 8) (v := ?_) rfl (by kernel_rfl) (by kernel_rfl) (by kernel_rfl) (fun _ _ _ h => h) (Or.inl ⟨by kernel_rfl, ?_⟩) (by assumption) ?_
        rotate_left
        · (intro w hSw; (try dsimp only at hSw); go_simp; (try with_reducible rfl))
        (try simp only [Act.put, List.getElem_toArray, List.getElem_cons_zero, List.getElem_cons_succ, List.setIfInBounds_toArray, List.set_cons_zero, List.set_cons_succ])
        refine wpAnyH_take (i := 9) (v := ?_) rfl (by kernel_rfl) (by kernel_rfl) (by kernel_rfl) (fun _ _ _ h => h) (Or.inl ⟨by kernel_rfl, ?_⟩) (by assumption) ?_
        rotate_left
        · (intro w hSw; (try dsimp only at hSw); go_simp; (try with_reducible rfl))
        (try simp only [Act.put, List.getElem_toArray, List.getElem_cons_zero, List.getElem_cons_succ, List.setIfInBounds_toArray, List.set_cons_zero, List.set_cons_succ])
        have RY := ReadyP.of X bf of pf hapf lf kf
        clear hHeld2 of pf hapf lf kf bf Sf Df X otm ota
        clear Stm Sta W
        rename World => W
        revert RY
        revert dh
        revert Bh
        revert ch
        revert Ah
        revert cf
        revert Af
        revert ta
        revert tm
        revert W
        revert gB
        revert gA
        exact key311
      exact AllReadyH.nil
    · intro W tm ta Af cf Ah ch Bh dh RY
      have hHeld := KL.out _ RY.1.2.2
      refine wpAnyH_ready (rs := [10, 11]) (by kernel_rfl) (by simp) ?_
      refine AllReadyH.cons rfl (fun K hK => ?_) ?_
      · go_simp
        refine hK.out _ _ ?_ (fun hHeld2 => ?_)
        · exact KL.out _ (below_al RY.1.2.2 _)
        clear hK K hHeld hHeld2
        (try simp only [Act.put, List.getElem_toArray, List.getElem_cons_zero, List.getElem_cons_succ, List.setIfInBounds_toArray, List.set_cons_zero, List.set_cons_succ])
        have RY2 := ReadyP.al RY #[.string ⟨#[]⟩, .bool false, .slice none 0 0] 33
        clear RY
        generalize W.alloc (.cells #[.string ⟨#[]⟩, .bool false, .slice none 0 0] 33) = W2 at *
        generalize W.heap.size = gA at *
        clear W
        rename World => W
        have RY := RY2
        clear RY2
        revert RY
        revert dh
        revert Bh
        revert ch
        revert Ah
        revert cf
        revert Af
        revert ta
        revert tm
        revert W
        revert gA
        exact key310
      refine AllReadyH.cons rfl (fun K hK => ?_) ?_
      · go_simp
        refine hK.out _ _ ?_ (fun hHeld2 => ?_)
        · exact KL.out _ (below_al RY.1.2.2 _)
        clear hK K hHeld hHeld2
        (try simp only [Act.put, List.getElem_toArray, List.getElem_cons_zero, List.getElem_cons_succ, List.setIfInBounds_toArray, List.set_cons_zero, List.set_cons_succ])
        have RY2 := ReadyP.al RY #[.bool false, .slice none 0 0, .slice none 0 0] 35
        clear RY
        generalize W.alloc (.cells #[.bool false, .slice none 0 0, .slice none 0 0] 35) = W2 at *
        generalize W.heap.size = gB at *
        clear W
        rename World => W
        have RY := RY2
        clear RY2
        revert RY
        revert dh
        revert Bh
        revert ch
        revert Ah
        revert cf
        revert Af
        revert ta
        revert tm
        revert W
        revert gB
        exact key301
      exact AllReadyH.nil
    · intro gB W tm ta Af cf Ah ch Bh dh RY
      have hHeld := KL.out _ RY.1.2.2
      refine wpAnyH_ready (rs := [10]) (by kernel_rfl) (by simp) ?_
      refine AllReadyH.cons rfl (fun K hK => ?_) ?_
      · go_simp
        refine hK.out _ _ ?_ (fun hHeld2 => ?_)
        · exact KL.out _ (below_al RY.1.2.2 _)
        clear hK K hHeld hHeld2
        (try simp only [Act.put, List.getElem_toArray, List.getElem_cons_zero, List.getElem_cons_succ, List.setIfInBounds_toArray, List.set_cons_zero, List.set_cons_succ])
        have RY2 := ReadyP.al RY #[.string ⟨#[]⟩, .bool false, .slice none 0 0] 33
        clear RY
        generalize W.alloc (.cells #[.string ⟨#[]⟩, .bool false, .slice none 0 0] 33) = W2 at *
        generalize W.heap.size = gA at *
        clear W
        rename World => W
        have RY := RY2
        clear RY2
        revert RY
        revert dh
        revert Bh
        revert ch
        revert Ah
        revert cf
        revert Af
        revert ta
        revert tm
        revert W
        revert gB
        revert gA
        exact key311
      exact AllReadyH.nil
    · intro gA W tm ta Af cf Ah ch Bh dh RY
      have hHeld := KL.out _ RY.1.2.2
      refine wpAnyH_ready (rs := [11]) (by kernel_rfl) (by simp) ?_
      refine AllReadyH.cons rfl (fun K hK => ?_) ?_
      · go_simp
        refine hK.out _ _ ?_ (fun hHeld2 => ?_)
        · exact KL.out _ (below_al RY.1.2.2 _)
        clear hK K hHeld hHeld2
        (try simp only [Act.put, List.getElem_toArray, List.getElem_cons_zero, List.getElem_cons_succ, List.setIfInBounds_toArray, List.set_cons_zero, List.set_cons_succ])
        have RY2 := ReadyP.al RY #[.bool false, .slice none 0 0, .slice none 0 0] 35
        clear RY
        generalize W.alloc (.cells #[.bool false, .slice none 0 0, .slice none 0 0] 35) = W2 at *
        generalize W.heap.size = gB at *
        clear W
        rename World => W
        have RY := ReadyP.symm RY2
        clear RY2
        revert RY
        revert dh
        revert Bh
        revert ch
        revert Ah
        revert cf
        revert Af
        revert ta
        revert tm
        revert W
        revert gB
        revert gA
        exact key311
      exact AllReadyH.nil
    · intro gA gB W tm ta Af cf Ah ch Bh dh RY
      have hHeld := KL.out _ RY.1.2.2
      have RY2 := ReadyP.two RY
      obtain ⟨⟨c1, c2, c3⟩, ⟨f1, f2, f3⟩, ⟨c4, c5, c6⟩, ⟨f4, f5, f6⟩, e1, e2⟩ := RY2
      have hg := (RY.1.2.1 (gA, #[.string ⟨#[]⟩, .bool false, .slice none 0 0], 33) (by simp)).1
      have hm := (RY.1.2.1 (gB, #[.bool false, .slice none 0 0, .slice none 0 0], 35) (by simp)).1
      dsimp only at hg hm
      refine wpAnyH_ready (rs := [12]) (by kernel_rfl) (by simp) ?_
      refine AllReadyH.cons rfl (fun K hK => ?_) ?_
      · go_simp
        refine hK.out _ _ ?_ (fun hHeld2 => ?_)
        · refine KL.out _ ?_
          (repeat (first | with_reducible refine below_setP ?_ (by first | assumption | exact RY.1.2.2.size | exact Nat.le_succ_of_le RY.1.2.2.size) | with_reducible refine below_al ?_ _))
          exact RY.1.2.2
        clear hK K hHeld
        have hHeld := hHeld2
        clear hHeld2
        (try simp only [Act.put, List.getElem_toArray, List.getElem_cons_zero, List.getElem_cons_succ, List.setIfInBounds_toArray, List.set_cons_zero, List.set_cons_succ])
        refine wpAnyH_ready (rs := [13]) (by kernel_rfl) (by simp) ?_
        refine AllReadyH.cons rfl (fun K hK => ?_) ?_
        · go_simp
          refine hK.out _ _ ?_ (fun hHeld2 => ?_)
          · refine KL.out _ ?_
            (repeat (first | with_reducible refine below_setP ?_ (by first | assumption | exact RY.1.2.2.size | exact Nat.le_succ_of_le RY.1.2.2.size) | with_reducible refine below_al ?_ _))
            exact RY.1.2.2
          clear hK K hHeld
          have hHeld := hHeld2
          clear hHeld2
          (try simp only [Act.put, List.getElem_toArray, List.getElem_cons_zero, List.getElem_cons_succ, List.setIfInBounds_toArray, List.set_cons_zero, List.set_cons_succ])
          refine wpAnyH_take (i := 14) (v := ?_) rfl (by kernel_rfl) (by kernel_rfl) (by kernel_rfl) (fun _ _ _ h => h) (Or.inl ⟨by kernel_rfl, ?_⟩) (by assumption) ?_
          rotate_left
          · (intro w hSw; (try dsimp only at hSw); go_simp; (try with_reducible rfl))
          (try simp only [Act.put, List.getElem_toArray, List.getElem_cons_zero, List.getElem_cons_succ, List.setIfInBounds_toArray, List.set_cons_zero, List.set_cons_succ])
          refine wpAnyH_done (by kernel_rfl) ?_ _
          go_wp2_with fail
          go_meet
          first | with_reducible exact ⟨locP_both RY, rfl⟩ | with_reducible exact ⟨locP_both2 RY, rfl⟩ | with_reducible exact ⟨locP_both (ReadyP.symm RY), rfl⟩ | with_reducible exact ⟨locP_both2 (ReadyP.symm RY), rfl⟩
        exact AllReadyH.nil
      exact AllReadyH.nil
  rename World => w3
  obtain ⟨⟨gw0, gw1, csw0, csw1, Sw0, Sw1, rfl, rfl, kw0, kw1, ow0, ow1, apw, nw0, nw1, lw0, lw1, b3⟩, rfl⟩ := hcut
  obtain ⟨Aw0, cw0, ew0⟩ := ownM_form ow0.here
  injection ew0 with ew0
  subst ew0
  obtain ⟨Aw1, cw1, Bw1, dw1, ew1⟩ := ownQ_form ow1.here
  injection ew1 with ew1
  subst ew1
  have HAPw := Lib.hid apw
  clear apw
  have bb3 := Below.next bb2 b3
  replace km := km.below b3
  replace ka := ka.below b3
  have km_c0 := km.here.cell 0 _ rfl
  have km_c1 := km.here.cell 1 _ rfl
  have km_c2 := km.here.cell 2 _ rfl
  go_upto_region 9 with fail
  go_cut [11] (fun s wx => NewLocV 33 (fun v => OwnM v m) w3 s wx)
  case first =>
    go_wp2_with fail
    refine (toM_new _ m _ hzm (RFm.out _ bb3)).mono ?_
    rintro e wt ⟨ut, St, rfl, ot, lt, bt⟩
    obtain ⟨At, ct, rfl⟩ := ownM_form ot.here
    go_wp2_with fail
    go_meet
    exact newLocV_last ot lt (Nat.le_refl _) bt
  rename World => w4
  clear km_c0 km_c1 km_c2
  obtain ⟨gxm, csxm, Sxm, rfl, kxm, oxm, nxm, lxm, b4⟩ := hcut
  obtain ⟨Axm, cxm, exm⟩ := ownM_form oxm.here
  injection exm with exm
  subst exm
  have bb4 := Below.next bb3 b4
  replace km := km.below b4
  replace ka := ka.below b4
  replace kw0 := kw0.below b4
  replace ow0 := ow0.below b4
  replace kw1 := kw1.below b4
  replace ow1 := ow1.below b4
  have ka_c0 := ka.here.cell 0 _ rfl
  have ka_c1 := ka.here.cell 1 _ rfl
  have ka_c2 := ka.here.cell 2 _ rfl
  go_upto_region 10 with fail
  go_cut [12] (fun s wx => NewLocV 40 (fun v => OwnD v a) w4 s wx)
  case first =>
    go_wp2_with fail
    refine (toD_new _ a _ hza (RFa.out _ bb4)).mono ?_
    rintro e wt ⟨ut, St, rfl, ot, lt, bt⟩
    obtain ⟨At, ct, rfl⟩ := ownD_form ot.here
    go_wp2_with fail
    go_meet
    exact newLocV_last ot lt (Nat.le_refl _) bt
  rename World => w5
  clear ka_c0 ka_c1 ka_c2
  obtain ⟨gxa, csxa, Sxa, rfl, kxa, oxa, nxa, lxa, b5⟩ := hcut
  obtain ⟨Axa, cxa, exa⟩ := ownD_form oxa.here
  injection exa with exa
  subst exa
  have bb5 := Below.next bb4 b5
  replace km := km.below b5
  replace ka := ka.below b5
  replace kw0 := kw0.below b5
  replace ow0 := ow0.below b5
  replace kw1 := kw1.below b5
  replace ow1 := ow1.below b5
  replace kxm := kxm.below b5
  replace oxm := oxm.below b5
  have kxm_c0 := kxm.here.cell 0 _ rfl
  have kxm_c1 := kxm.here.cell 1 _ rfl
  have kxm_c2 := kxm.here.cell 2 _ rfl
  have kxa_c0 := kxa.here.cell 0 _ rfl
  have kxa_c1 := kxa.here.cell 1 _ rfl
  have kxa_c2 := kxa.here.cell 2 _ rfl
  go_upto_region 11 with fail
  go_cut [13, 14, 15] (fun s t c2 wx => NewLocP 33 35 (fun v => OwnM v R0) (fun v => OwnQ v R1) w5 s t wx ∧ c2 = .bool R2)
  case first =>
    go_wp2_with fail
    refine (HI.out _ _ _ oxm.here oxa.here (HT0.out.below bb5) (HT1.out.below bb5)).mono ?_
    rintro e wf ⟨uf, vf, Sf, Df, rfl, of, pf, hapf, lf, kf, bf⟩
    obtain ⟨Af, cf, rfl⟩ := ownM_form of.here
    obtain ⟨Ah, ch, Bh, dh, rfl⟩ := ownQ_form pf.here
    have RY := ReadyP.of (BxP.nil_ (Below.refl w5.heap.size w5)) bf of pf hapf lf kf
    go_wp2_with fail
    go_meet
    first | exact ⟨locP_late RY, rfl⟩ | exact ⟨locP_late2 RY, rfl⟩
  rename World => w6
  clear kxm_c0 kxm_c1 kxm_c2 kxa_c0 kxa_c1 kxa_c2
  obtain ⟨⟨gg0, gg1, csg0, csg1, Sg0, Sg1, rfl, rfl, kg0, kg1, og0, og1, apg, ng0, ng1, lg0, lg1, b6⟩, rfl⟩ := hcut
  obtain ⟨Ag0, cg0, eg0⟩ := ownM_form og0.here
  injection eg0 with eg0
  subst eg0
  obtain ⟨Ag1, cg1, Bg1, dg1, eg1⟩ := ownQ_form og1.here
  injection eg1 with eg1
  subst eg1
  have HAPg := Lib.hid apg
  clear apg
  have bb6 := Below.next bb5 b6
  replace km := km.below b6
  replace ka := ka.below b6
  replace kw0 := kw0.below b6
  replace ow0 := ow0.below b6
  replace kw1 := kw1.below b6
  replace ow1 := ow1.below b6
  replace kxm := kxm.below b6
  replace oxm := oxm.below b6
  replace kxa := kxa.below b6
  replace oxa := oxa.below b6
  have kg0_c0 := kg0.here.cell 0 _ rfl
  have kg0_c1 := kg0.here.cell 1 _ rfl
  have kg0_c2 := kg0.here.cell 2 _ rfl
  have kw0_c0 := kw0.here.cell 0 _ rfl
  have kw0_c1 := kw0.here.cell 1 _ rfl
  have kw0_c2 := kw0.here.cell 2 _ rfl
  go_wp2_with fail
  clear kg0_c0 kg0_c1 kg0_c2 kw0_c0 kw0_c1 kw0_c2
  refine (eqM_cal _ _ R0 R0 _ (capM_of (by omega)) (OwnM.rd og0.here) (OwnM.rd ow0.here)).mono ?_
  rintro e w7 ⟨rfl, b7⟩
  rw [decide_refl]
  have bb7 := Below.next bb6 b7
  replace km := km.below b7
  replace ka := ka.below b7
  replace kw0 := kw0.below b7
  replace ow0 := ow0.below b7
  replace kw1 := kw1.below b7
  replace ow1 := ow1.below b7
  replace kxm := kxm.below b7
  replace oxm := oxm.below b7
  replace kxa := kxa.below b7
  replace oxa := oxa.below b7
  replace kg0 := kg0.below b7
  replace og0 := og0.below b7
  replace kg1 := kg1.below b7
  replace og1 := og1.below b7
  have kg1_c0 := kg1.here.cell 0 _ rfl
  have kg1_c1 := kg1.here.cell 1 _ rfl
  have kg1_c2 := kg1.here.cell 2 _ rfl
  have kw1_c0 := kw1.here.cell 0 _ rfl
  have kw1_c1 := kw1.here.cell 1 _ rfl
  have kw1_c2 := kw1.here.cell 2 _ rfl
  go_wp2_with fail
  clear kg1_c0 kg1_c1 kg1_c2 kw1_c0 kw1_c1 kw1_c2
  refine (eqQ_cal _ _ R1 R1 _ (capQ_of (by omega)) (OwnQ.rd og1.here) (OwnQ.rd ow1.here)).mono ?_
  rintro e w8 ⟨rfl, b8⟩
  rw [decide_refl]
  have bb8 := Below.next bb7 b8
  replace km := km.below b8
  replace ka := ka.below b8
  replace kw0 := kw0.below b8
  replace ow0 := ow0.below b8
  replace kw1 := kw1.below b8
  replace ow1 := ow1.below b8
  replace kxm := kxm.below b8
  replace oxm := oxm.below b8
  replace kxa := kxa.below b8
  replace oxa := oxa.below b8
  replace kg0 := kg0.below b8
  replace og0 := og0.below b8
  replace kg1 := kg1.below b8
  replace og1 := og1.below b8
  have km_c0 := km.here.cell 0 _ rfl
  have km_c1 := km.here.cell 1 _ rfl
  have km_c2 := km.here.cell 2 _ rfl
  have kxm_c0 := kxm.here.cell 0 _ rfl
  have kxm_c1 := kxm.here.cell 1 _ rfl
  have kxm_c2 := kxm.here.cell 2 _ rfl
  go_wp2_with fail
  have HB0 := Lib.hid (show Below w8.heap.size w8 w8.drew from (Below.refl _ _).drew)
  have KL := Lib.hid (show ∀ W, Below w8.heap.size w8 W → W.cell? ⟨w.heap.size, 0, none⟩ = some (.string m.1) ∧ W.cell? ⟨w.heap.size, 1, none⟩ = some (.bool m.2.1) ∧ W.cell? ⟨w.heap.size, 2, none⟩ = some (.slice Am m.2.2.length cm) ∧ W.cell? ⟨gxm, 0, none⟩ = some (.string m.1) ∧ W.cell? ⟨gxm, 1, none⟩ = some (.bool m.2.1) ∧ W.cell? ⟨gxm, 2, none⟩ = some (.slice Axm m.2.2.length cxm) ∧ Hid (Below w8.heap.size w8 W) from
    fun W hb => ⟨(km.below hb).here.cell 0 _ rfl, (km.below hb).here.cell 1 _ rfl, (km.below hb).here.cell 2 _ rfl, (kxm.below hb).here.cell 0 _ rfl, (kxm.below hb).here.cell 1 _ rfl, (kxm.below hb).here.cell 2 _ rfl, Lib.hid hb⟩)
  have BBF := Lib.hid (show ∀ W, Below w8.heap.size w8 W → Below w.heap.size w W from fun W hb => Below.next bb8 hb)
  have OXF := Lib.hid (show ∀ W, Below w8.heap.size w8 W → OwnM (.agg #[.string m.1, .bool m.2.1, .slice Axm m.2.2.length cxm]) m W from fun W hb => (oxm.below hb).here)
  clear km_c0 km_c1 km_c2 kxm_c0 kxm_c1 kxm_c2
  go_region_held3 (fun W => W.cell? ⟨w.heap.size, 0, none⟩ = some (.string m.1) ∧ W.cell? ⟨w.heap.size, 1, none⟩ = some (.bool m.2.1) ∧ W.cell? ⟨w.heap.size, 2, none⟩ = some (.slice Am m.2.2.length cm) ∧ W.cell? ⟨gxm, 0, none⟩ = some (.string m.1) ∧ W.cell? ⟨gxm, 1, none⟩ = some (.bool m.2.1) ∧ W.cell? ⟨gxm, 2, none⟩ = some (.slice Axm m.2.2.length cxm) ∧ Hid (Below w8.heap.size w8 W))
    ((refine KL.out _ ?_; (first | exact HBe.out | exact HBt.out | exact HB0.out | fail)))
    (first
      | (go_at_call 10; (have hBB := (‹_ ∧ _ ∧ _ ∧ _ ∧ _ ∧ _ ∧ Hid (Below w8.heap.size w8 _)›).2.2.2.2.2.2); (with_reducible refine (toM_new _ m _ hzm (RFm.out _ (BBF.out _ hBB.out))).mono ?_); rintro e wt ⟨t, St, rfl, ot, lt, bt⟩; have HBt := Lib.hid (Below.next hBB.out bt); clear hBB)
      | (go_at_call 13; (have hBB := (‹_ ∧ _ ∧ _ ∧ _ ∧ _ ∧ _ ∧ Hid (Below w8.heap.size w8 _)›).2.2.2.2.2.2); (with_reducible refine (eqM_cal _ _ m m _ (capM_of hzm) (OwnM.rd (OXF.out _ hBB.out)) (OwnM.rd ot.here)).mono ?_); rintro e w9 ⟨rfl, be⟩; rw [decide_refl]; have HBe := Lib.hid (Below.next hBB.out be); clear hBB))
  have b9 := HBe.out
  have bb9 := Below.next bb8 b9
  replace km := km.below b9
  replace ka := ka.below b9
  replace kw0 := kw0.below b9
  replace ow0 := ow0.below b9
  replace kw1 := kw1.below b9
  replace ow1 := ow1.below b9
  replace kxm := kxm.below b9
  replace oxm := oxm.below b9
  replace kxa := kxa.below b9
  replace oxa := oxa.below b9
  replace kg0 := kg0.below b9
  replace og0 := og0.below b9
  replace kg1 := kg1.below b9
  replace og1 := og1.below b9
  clear HB0 KL BBF OXF HBt HBe ot lt
  have ka_c0 := ka.here.cell 0 _ rfl
  have ka_c1 := ka.here.cell 1 _ rfl
  have ka_c2 := ka.here.cell 2 _ rfl
  have kxa_c0 := kxa.here.cell 0 _ rfl
  have kxa_c1 := kxa.here.cell 1 _ rfl
  have kxa_c2 := kxa.here.cell 2 _ rfl
  go_wp2_with fail
  have HB0 := Lib.hid (show Below w9.heap.size w9 w9.drew from (Below.refl _ _).drew)
  have KL := Lib.hid (show ∀ W, Below w9.heap.size w9 W → W.cell? ⟨w.heap.size + 1, 0, none⟩ = some (.bool a.1.1) ∧ W.cell? ⟨w.heap.size + 1, 1, none⟩ = some (.slice Aa a.1.2.length ca) ∧ W.cell? ⟨w.heap.size + 1, 2, none⟩ = some (.int .i64 a.2) ∧ W.cell? ⟨gxa, 0, none⟩ = some (.bool a.1.1) ∧ W.cell? ⟨gxa, 1, none⟩ = some (.slice Axa a.1.2.length cxa) ∧ W.cell? ⟨gxa, 2, none⟩ = some (.int .i64 a.2) ∧ Hid (Below w9.heap.size w9 W) from
    fun W hb => ⟨(ka.below hb).here.cell 0 _ rfl, (ka.below hb).here.cell 1 _ rfl, (ka.below hb).here.cell 2 _ rfl, (kxa.below hb).here.cell 0 _ rfl, (kxa.below hb).here.cell 1 _ rfl, (kxa.below hb).here.cell 2 _ rfl, Lib.hid hb⟩)
  have BBF := Lib.hid (show ∀ W, Below w9.heap.size w9 W → Below w.heap.size w W from fun W hb => Below.next bb9 hb)
  have OXF := Lib.hid (show ∀ W, Below w9.heap.size w9 W → OwnD (.agg #[.bool a.1.1, .slice Axa a.1.2.length cxa, .int .i64 a.2]) a W from fun W hb => (oxa.below hb).here)
  clear ka_c0 ka_c1 ka_c2 kxa_c0 kxa_c1 kxa_c2
  go_region_held3 (fun W => W.cell? ⟨w.heap.size + 1, 0, none⟩ = some (.bool a.1.1) ∧ W.cell? ⟨w.heap.size + 1, 1, none⟩ = some (.slice Aa a.1.2.length ca) ∧ W.cell? ⟨w.heap.size + 1, 2, none⟩ = some (.int .i64 a.2) ∧ W.cell? ⟨gxa, 0, none⟩ = some (.bool a.1.1) ∧ W.cell? ⟨gxa, 1, none⟩ = some (.slice Axa a.1.2.length cxa) ∧ W.cell? ⟨gxa, 2, none⟩ = some (.int .i64 a.2) ∧ Hid (Below w9.heap.size w9 W))
    ((refine KL.out _ ?_; (first | exact HBe.out | exact HBt.out | exact HB0.out | fail)))
    (first
      | (go_at_call 11; (have hBB := (‹_ ∧ _ ∧ _ ∧ _ ∧ _ ∧ _ ∧ Hid (Below w9.heap.size w9 _)›).2.2.2.2.2.2); (with_reducible refine (toD_new _ a _ hza (RFa.out _ (BBF.out _ hBB.out))).mono ?_); rintro e wt ⟨t, St, rfl, ot, lt, bt⟩; have HBt := Lib.hid (Below.next hBB.out bt); clear hBB)
      | (go_at_call 15; (have hBB := (‹_ ∧ _ ∧ _ ∧ _ ∧ _ ∧ _ ∧ Hid (Below w9.heap.size w9 _)›).2.2.2.2.2.2); (with_reducible refine (eqD_cal _ _ a a _ (capD_of hza) (OwnD.rd (OXF.out _ hBB.out)) (OwnD.rd ot.here)).mono ?_); rintro e w10 ⟨rfl, be⟩; rw [decide_refl]; have HBe := Lib.hid (Below.next hBB.out be); clear hBB))
  have b10 := HBe.out
  have bb10 := Below.next bb9 b10
  replace km := km.below b10
  replace ka := ka.below b10
  replace kw0 := kw0.below b10
  replace ow0 := ow0.below b10
  replace kw1 := kw1.below b10
  replace ow1 := ow1.below b10
  replace kxm := kxm.below b10
  replace oxm := oxm.below b10
  replace kxa := kxa.below b10
  replace oxa := oxa.below b10
  replace kg0 := kg0.below b10
  replace og0 := og0.below b10
  replace kg1 := kg1.below b10
  replace og1 := og1.below b10
  clear HB0 KL BBF OXF HBt HBe ot lt
  have z1 := b1.size
  have z2 := b2.size
  have z3 := b3.size
  have z4 := b4.size
  have z5 := b5.size
  have z6 := b6.size
  have z7 := b7.size
  have z8 := b8.size
  have z9 := b9.size
  have z10 := b10.size
  have AP_xm_xa := Lib.hid (Within.apart lxm lxa (.inl (by omega)))
  have AP_xm_g0 := Lib.hid (Within.apart lxm lg0 (.inl (by omega)))
  have AP_xm_g1 := Lib.hid (Within.apart lxm lg1 (.inl (by omega)))
  have AP_xa_g0 := Lib.hid (Within.apart lxa lg0 (.inl (by omega)))
  have AP_xa_g1 := Lib.hid (Within.apart lxa lg1 (.inl (by omega)))
  have AP_w0_xm := Lib.hid (Within.apart lw0 lxm (.inl (by omega)))
  have AP_w0_xa := Lib.hid (Within.apart lw0 lxa (.inl (by omega)))
  have AP_w0_g0 := Lib.hid (Within.apart lw0 lg0 (.inl (by omega)))
  have AP_w0_g1 := Lib.hid (Within.apart lw0 lg1 (.inl (by omega)))
  have AP_w1_xm := Lib.hid (Within.apart lw1 lxm (.inl (by omega)))
  have AP_w1_xa := Lib.hid (Within.apart lw1 lxa (.inl (by omega)))
  have AP_w1_g0 := Lib.hid (Within.apart lw1 lg0 (.inl (by omega)))
  have AP_w1_g1 := Lib.hid (Within.apart lw1 lg1 (.inl (by omega)))
  have AP_g0_g1 := HAPg
  have F_xm := Lib.hid (Within.from (B := w.heap.size) lxm (by have := bb2.size; omega))
  have N_xm := Lib.hid nxm
  have KX_m_xm := Lib.hid (show ∀ i ∈ [w.heap.size], i ∉ gxm :: Sxm from fun i hi hm => by have h1 := (lxm i hm).1; have h2 := HKm.out; simp at hi; omega)
  have KX_a_xm := Lib.hid (show ∀ i ∈ [w.heap.size + 1], i ∉ gxm :: Sxm from fun i hi hm => by have h1 := (lxm i hm).1; have h2 := HKa.out; simp at hi; omega)
  have F_xa := Lib.hid (Within.from (B := w.heap.size) lxa (by have := bb2.size; omega))
  have N_xa := Lib.hid nxa
  have KX_m_xa := Lib.hid (show ∀ i ∈ [w.heap.size], i ∉ gxa :: Sxa from fun i hi hm => by have h1 := (lxa i hm).1; have h2 := HKm.out; simp at hi; omega)
  have KX_a_xa := Lib.hid (show ∀ i ∈ [w.heap.size + 1], i ∉ gxa :: Sxa from fun i hi hm => by have h1 := (lxa i hm).1; have h2 := HKa.out; simp at hi; omega)
  have F_g0 := Lib.hid (Within.from (B := w.heap.size) lg0 (by have := bb2.size; omega))
  have N_g0 := Lib.hid ng0
  have KX_m_g0 := Lib.hid (show ∀ i ∈ [w.heap.size], i ∉ gg0 :: Sg0 from fun i hi hm => by have h1 := (lg0 i hm).1; have h2 := HKm.out; simp at hi; omega)
  have KX_a_g0 := Lib.hid (show ∀ i ∈ [w.heap.size + 1], i ∉ gg0 :: Sg0 from fun i hi hm => by have h1 := (lg0 i hm).1; have h2 := HKa.out; simp at hi; omega)
  have F_g1 := Lib.hid (Within.from (B := w.heap.size) lg1 (by have := bb2.size; omega))
  have N_g1 := Lib.hid ng1
  have KX_m_g1 := Lib.hid (show ∀ i ∈ [w.heap.size], i ∉ gg1 :: Sg1 from fun i hi hm => by have h1 := (lg1 i hm).1; have h2 := HKm.out; simp at hi; omega)
  have KX_a_g1 := Lib.hid (show ∀ i ∈ [w.heap.size + 1], i ∉ gg1 :: Sg1 from fun i hi hm => by have h1 := (lg1 i hm).1; have h2 := HKa.out; simp at hi; omega)
  clear z1 z2 z3 z4 z5 z6 z7 z8 z9 z10
  have kxm_c0 := kxm.here.cell 0 _ rfl
  have kxm_c1 := kxm.here.cell 1 _ rfl
  have kxm_c2 := kxm.here.cell 2 _ rfl
  go_wp2_with fail
  clear kxm_c0 kxm_c1 kxm_c2
  refine (markM_cal _ m _ (1) _ (by omega) (by omega) oxm).mono ?_
  rintro e w11 ⟨rfl, mkxm, c11⟩
  clear oxm
  have bb11 := below_chg bb10 c11 bb10.size (fun i hi => F_xm.out i (List.mem_cons_of_mem _ hi))
  replace km := km.chg c11 (fun i hi hm => KX_m_xm.out i hi (List.mem_cons_of_mem _ hm))
  replace ka := ka.chg c11 (fun i hi hm => KX_a_xm.out i hi (List.mem_cons_of_mem _ hm))
  replace kw0 := kw0.chg c11 (fun i hi hm => AP_w0_xm.out i (by simp at hi; subst hi; exact List.mem_cons_self ..) (List.mem_cons_of_mem _ hm))
  replace ow0 := ow0.chg c11 (fun i hi hm => AP_w0_xm.out i (List.mem_cons_of_mem _ hi) (List.mem_cons_of_mem _ hm))
  replace kw1 := kw1.chg c11 (fun i hi hm => AP_w1_xm.out i (by simp at hi; subst hi; exact List.mem_cons_self ..) (List.mem_cons_of_mem _ hm))
  replace ow1 := ow1.chg c11 (fun i hi hm => AP_w1_xm.out i (List.mem_cons_of_mem _ hi) (List.mem_cons_of_mem _ hm))
  replace kxm := kxm.chg c11 (fun i hi hm => by simp at hi; subst hi; exact N_xm.out hm)
  replace kxa := kxa.chg c11 (fun i hi hm => (apart_symm AP_xm_xa.out) i (by simp at hi; subst hi; exact List.mem_cons_self ..) (List.mem_cons_of_mem _ hm))
  replace oxa := oxa.chg c11 (fun i hi hm => (apart_symm AP_xm_xa.out) i (List.mem_cons_of_mem _ hi) (List.mem_cons_of_mem _ hm))
  replace kg0 := kg0.chg c11 (fun i hi hm => (apart_symm AP_xm_g0.out) i (by simp at hi; subst hi; exact List.mem_cons_self ..) (List.mem_cons_of_mem _ hm))
  replace og0 := og0.chg c11 (fun i hi hm => (apart_symm AP_xm_g0.out) i (List.mem_cons_of_mem _ hi) (List.mem_cons_of_mem _ hm))
  replace kg1 := kg1.chg c11 (fun i hi hm => (apart_symm AP_xm_g1.out) i (by simp at hi; subst hi; exact List.mem_cons_self ..) (List.mem_cons_of_mem _ hm))
  replace og1 := og1.chg c11 (fun i hi hm => (apart_symm AP_xm_g1.out) i (List.mem_cons_of_mem _ hi) (List.mem_cons_of_mem _ hm))
  have kxa_c0 := kxa.here.cell 0 _ rfl
  have kxa_c1 := kxa.here.cell 1 _ rfl
  have kxa_c2 := kxa.here.cell 2 _ rfl
  go_wp2_with fail
  clear kxa_c0 kxa_c1 kxa_c2
  refine (markD_cal _ a _ (1 + mkM m) _ (by omega) (by omega) oxa).mono ?_
  rintro e w12 ⟨rfl, mkxa, c12⟩
  clear oxa
  have bb12 := below_chg bb11 c12 bb11.size (fun i hi => F_xa.out i (List.mem_cons_of_mem _ hi))
  replace km := km.chg c12 (fun i hi hm => KX_m_xa.out i hi (List.mem_cons_of_mem _ hm))
  replace ka := ka.chg c12 (fun i hi hm => KX_a_xa.out i hi (List.mem_cons_of_mem _ hm))
  replace kw0 := kw0.chg c12 (fun i hi hm => AP_w0_xa.out i (by simp at hi; subst hi; exact List.mem_cons_self ..) (List.mem_cons_of_mem _ hm))
  replace ow0 := ow0.chg c12 (fun i hi hm => AP_w0_xa.out i (List.mem_cons_of_mem _ hi) (List.mem_cons_of_mem _ hm))
  replace kw1 := kw1.chg c12 (fun i hi hm => AP_w1_xa.out i (by simp at hi; subst hi; exact List.mem_cons_self ..) (List.mem_cons_of_mem _ hm))
  replace ow1 := ow1.chg c12 (fun i hi hm => AP_w1_xa.out i (List.mem_cons_of_mem _ hi) (List.mem_cons_of_mem _ hm))
  replace kxm := kxm.chg c12 (fun i hi hm => AP_xm_xa.out i (by simp at hi; subst hi; exact List.mem_cons_self ..) (List.mem_cons_of_mem _ hm))
  replace kxa := kxa.chg c12 (fun i hi hm => by simp at hi; subst hi; exact N_xa.out hm)
  replace kg0 := kg0.chg c12 (fun i hi hm => (apart_symm AP_xa_g0.out) i (by simp at hi; subst hi; exact List.mem_cons_self ..) (List.mem_cons_of_mem _ hm))
  replace og0 := og0.chg c12 (fun i hi hm => (apart_symm AP_xa_g0.out) i (List.mem_cons_of_mem _ hi) (List.mem_cons_of_mem _ hm))
  replace kg1 := kg1.chg c12 (fun i hi hm => (apart_symm AP_xa_g1.out) i (by simp at hi; subst hi; exact List.mem_cons_self ..) (List.mem_cons_of_mem _ hm))
  replace og1 := og1.chg c12 (fun i hi hm => (apart_symm AP_xa_g1.out) i (List.mem_cons_of_mem _ hi) (List.mem_cons_of_mem _ hm))
  replace mkxm := mkxm.chg c12 (fun i hi hm => AP_xm_xa.out i (List.mem_cons_of_mem _ hi) (List.mem_cons_of_mem _ hm))
  have hk : decide (((1 + mkM m + szD a) : Int) < 0) = false := decide_eq_false (by omega)
  have kg0_c0 := kg0.here.cell 0 _ rfl
  have kg0_c1 := kg0.here.cell 1 _ rfl
  have kg0_c2 := kg0.here.cell 2 _ rfl
  have kw0_c0 := kw0.here.cell 0 _ rfl
  have kw0_c1 := kw0.here.cell 1 _ rfl
  have kw0_c2 := kw0.here.cell 2 _ rfl
  go_wp2_with fail
  clear kg0_c0 kg0_c1 kg0_c2 kw0_c0 kw0_c1 kw0_c2
  refine (eqM_cal _ _ R0 R0 _ (capM_of (by omega)) (OwnM.rd og0.here) (OwnM.rd ow0.here)).mono ?_
  rintro e w13 ⟨rfl, b13⟩
  rw [decide_refl]
  have bb13 := Below.next bb12 b13
  replace km := km.below b13
  replace ka := ka.below b13
  replace kw0 := kw0.below b13
  replace ow0 := ow0.below b13
  replace kw1 := kw1.below b13
  replace ow1 := ow1.below b13
  replace kxm := kxm.below b13
  replace kxa := kxa.below b13
  replace kg0 := kg0.below b13
  replace og0 := og0.below b13
  replace kg1 := kg1.below b13
  replace og1 := og1.below b13
  replace mkxm := mkxm.below b13
  replace mkxa := mkxa.below b13
  have kg1_c0 := kg1.here.cell 0 _ rfl
  have kg1_c1 := kg1.here.cell 1 _ rfl
  have kg1_c2 := kg1.here.cell 2 _ rfl
  have kw1_c0 := kw1.here.cell 0 _ rfl
  have kw1_c1 := kw1.here.cell 1 _ rfl
  have kw1_c2 := kw1.here.cell 2 _ rfl
  go_wp2_with fail
  clear kg1_c0 kg1_c1 kg1_c2 kw1_c0 kw1_c1 kw1_c2
  refine (eqQ_cal _ _ R1 R1 _ (capQ_of (by omega)) (OwnQ.rd og1.here) (OwnQ.rd ow1.here)).mono ?_
  rintro e w14 ⟨rfl, b14⟩
  rw [decide_refl]
  have bb14 := Below.next bb13 b14
  replace km := km.below b14
  replace ka := ka.below b14
  replace kw0 := kw0.below b14
  replace ow0 := ow0.below b14
  replace kw1 := kw1.below b14
  replace ow1 := ow1.below b14
  replace kxm := kxm.below b14
  replace kxa := kxa.below b14
  replace kg0 := kg0.below b14
  replace og0 := og0.below b14
  replace kg1 := kg1.below b14
  replace og1 := og1.below b14
  replace mkxm := mkxm.below b14
  replace mkxa := mkxa.below b14
  clear hk
  have kg0_c0 := kg0.here.cell 0 _ rfl
  have kg0_c1 := kg0.here.cell 1 _ rfl
  have kg0_c2 := kg0.here.cell 2 _ rfl
  go_wp2_with fail
  clear kg0_c0 kg0_c1 kg0_c2
  refine (markM_cal _ R0 _ (1) _ (by omega) (by omega) og0).mono ?_
  rintro e w15 ⟨rfl, mkg0, c15⟩
  clear og0
  have bb15 := below_chg bb14 c15 bb14.size (fun i hi => F_g0.out i (List.mem_cons_of_mem _ hi))
  replace km := km.chg c15 (fun i hi hm => KX_m_g0.out i hi (List.mem_cons_of_mem _ hm))
  replace ka := ka.chg c15 (fun i hi hm => KX_a_g0.out i hi (List.mem_cons_of_mem _ hm))
  replace kw0 := kw0.chg c15 (fun i hi hm => AP_w0_g0.out i (by simp at hi; subst hi; exact List.mem_cons_self ..) (List.mem_cons_of_mem _ hm))
  replace ow0 := ow0.chg c15 (fun i hi hm => AP_w0_g0.out i (List.mem_cons_of_mem _ hi) (List.mem_cons_of_mem _ hm))
  replace kw1 := kw1.chg c15 (fun i hi hm => AP_w1_g0.out i (by simp at hi; subst hi; exact List.mem_cons_self ..) (List.mem_cons_of_mem _ hm))
  replace ow1 := ow1.chg c15 (fun i hi hm => AP_w1_g0.out i (List.mem_cons_of_mem _ hi) (List.mem_cons_of_mem _ hm))
  replace kxm := kxm.chg c15 (fun i hi hm => AP_xm_g0.out i (by simp at hi; subst hi; exact List.mem_cons_self ..) (List.mem_cons_of_mem _ hm))
  replace kxa := kxa.chg c15 (fun i hi hm => AP_xa_g0.out i (by simp at hi; subst hi; exact List.mem_cons_self ..) (List.mem_cons_of_mem _ hm))
  replace kg0 := kg0.chg c15 (fun i hi hm => by simp at hi; subst hi; exact N_g0.out hm)
  replace kg1 := kg1.chg c15 (fun i hi hm => (apart_symm AP_g0_g1.out) i (by simp at hi; subst hi; exact List.mem_cons_self ..) (List.mem_cons_of_mem _ hm))
  replace og1 := og1.chg c15 (fun i hi hm => (apart_symm AP_g0_g1.out) i (List.mem_cons_of_mem _ hi) (List.mem_cons_of_mem _ hm))
  replace mkxm := mkxm.chg c15 (fun i hi hm => AP_xm_g0.out i (List.mem_cons_of_mem _ hi) (List.mem_cons_of_mem _ hm))
  replace mkxa := mkxa.chg c15 (fun i hi hm => AP_xa_g0.out i (List.mem_cons_of_mem _ hi) (List.mem_cons_of_mem _ hm))
  have kg1_c0 := kg1.here.cell 0 _ rfl
  have kg1_c1 := kg1.here.cell 1 _ rfl
  have kg1_c2 := kg1.here.cell 2 _ rfl
  go_wp2_with fail
  clear kg1_c0 kg1_c1 kg1_c2
  refine (markQ_cal _ R1 _ (1 + mkM R0) _ (by omega) (by omega) og1).mono ?_
  rintro e w16 ⟨rfl, mkg1, c16⟩
  clear og1
  have bb16 := below_chg bb15 c16 bb15.size (fun i hi => F_g1.out i (List.mem_cons_of_mem _ hi))
  replace km := km.chg c16 (fun i hi hm => KX_m_g1.out i hi (List.mem_cons_of_mem _ hm))
  replace ka := ka.chg c16 (fun i hi hm => KX_a_g1.out i hi (List.mem_cons_of_mem _ hm))
  replace kw0 := kw0.chg c16 (fun i hi hm => AP_w0_g1.out i (by simp at hi; subst hi; exact List.mem_cons_self ..) (List.mem_cons_of_mem _ hm))
  replace ow0 := ow0.chg c16 (fun i hi hm => AP_w0_g1.out i (List.mem_cons_of_mem _ hi) (List.mem_cons_of_mem _ hm))
  replace kw1 := kw1.chg c16 (fun i hi hm => AP_w1_g1.out i (by simp at hi; subst hi; exact List.mem_cons_self ..) (List.mem_cons_of_mem _ hm))
  replace ow1 := ow1.chg c16 (fun i hi hm => AP_w1_g1.out i (List.mem_cons_of_mem _ hi) (List.mem_cons_of_mem _ hm))
  replace kxm := kxm.chg c16 (fun i hi hm => AP_xm_g1.out i (by simp at hi; subst hi; exact List.mem_cons_self ..) (List.mem_cons_of_mem _ hm))
  replace kxa := kxa.chg c16 (fun i hi hm => AP_xa_g1.out i (by simp at hi; subst hi; exact List.mem_cons_self ..) (List.mem_cons_of_mem _ hm))
  replace kg0 := kg0.chg c16 (fun i hi hm => AP_g0_g1.out i (by simp at hi; subst hi; exact List.mem_cons_self ..) (List.mem_cons_of_mem _ hm))
  replace kg1 := kg1.chg c16 (fun i hi hm => by simp at hi; subst hi; exact N_g1.out hm)
  replace mkxm := mkxm.chg c16 (fun i hi hm => AP_xm_g1.out i (List.mem_cons_of_mem _ hi) (List.mem_cons_of_mem _ hm))
  replace mkxa := mkxa.chg c16 (fun i hi hm => AP_xa_g1.out i (List.mem_cons_of_mem _ hi) (List.mem_cons_of_mem _ hm))
  replace mkg0 := mkg0.chg c16 (fun i hi hm => AP_g0_g1.out i (List.mem_cons_of_mem _ hi) (List.mem_cons_of_mem _ hm))
  have kg0_c0 := kg0.here.cell 0 _ rfl
  have kg0_c1 := kg0.here.cell 1 _ rfl
  have kg0_c2 := kg0.here.cell 2 _ rfl
  go_wp2_with fail
  clear kg0_c0 kg0_c1 kg0_c2
  refine (heldM_cal _ R0 (1) _ (by omega) (by omega) mkg0.here).mono ?_
  rintro e w17 ⟨rfl, b17⟩
  have bb17 := Below.next bb16 b17
  replace km := km.below b17
  replace ka := ka.below b17
  replace kw0 := kw0.below b17
  replace ow0 := ow0.below b17
  replace kw1 := kw1.below b17
  replace ow1 := ow1.below b17
  replace kxm := kxm.below b17
  replace kxa := kxa.below b17
  replace kg0 := kg0.below b17
  replace kg1 := kg1.below b17
  replace mkxm := mkxm.below b17
  replace mkxa := mkxa.below b17
  replace mkg0 := mkg0.below b17
  replace mkg1 := mkg1.below b17
  have hq17 : decide ((1 : Int) + mkM R0 < 0) = false := decide_eq_false (by omega)
  have kg1_c0 := kg1.here.cell 0 _ rfl
  have kg1_c1 := kg1.here.cell 1 _ rfl
  have kg1_c2 := kg1.here.cell 2 _ rfl
  go_wp2_with fail
  clear kg1_c0 kg1_c1 kg1_c2
  refine (heldQ_cal _ R1 (1 + mkM R0) _ (by omega) (by omega) mkg1.here).mono ?_
  rintro e w18 ⟨rfl, b18⟩
  have bb18 := Below.next bb17 b18
  replace km := km.below b18
  replace ka := ka.below b18
  replace kw0 := kw0.below b18
  replace ow0 := ow0.below b18
  replace kw1 := kw1.below b18
  replace ow1 := ow1.below b18
  replace kxm := kxm.below b18
  replace kxa := kxa.below b18
  replace kg0 := kg0.below b18
  replace kg1 := kg1.below b18
  replace mkxm := mkxm.below b18
  replace mkxa := mkxa.below b18
  replace mkg0 := mkg0.below b18
  replace mkg1 := mkg1.below b18
  have hq18 : decide ((1 + mkM R0 : Int) + szQ R1 < 0) = false := decide_eq_false (by omega)
  have km_c0 := km.here.cell 0 _ rfl
  have km_c1 := km.here.cell 1 _ rfl
  have km_c2 := km.here.cell 2 _ rfl
  have ka_c0 := ka.here.cell 0 _ rfl
  have ka_c1 := ka.here.cell 1 _ rfl
  have ka_c2 := ka.here.cell 2 _ rfl
  go_upto_region 35 with fail
  go_cut [19, 20, 21] (fun s t c2 wx => NewLocP 33 35 (fun v => OwnM v R0) (fun v => OwnQ v R1) w18 s t wx ∧ c2 = .bool R2)
  case first =>
    have KL := Lib.hid (show ∀ W, Below w18.heap.size w18 W → W.cell? ⟨w.heap.size, 0, none⟩ = some (.string m.1) ∧ W.cell? ⟨w.heap.size, 1, none⟩ = some (.bool m.2.1) ∧ W.cell? ⟨w.heap.size, 2, none⟩ = some (.slice Am m.2.2.length cm) ∧ W.cell? ⟨w.heap.size + 1, 0, none⟩ = some (.bool a.1.1) ∧ W.cell? ⟨w.heap.size + 1, 1, none⟩ = some (.slice Aa a.1.2.length ca) ∧ W.cell? ⟨w.heap.size + 1, 2, none⟩ = some (.int .i64 a.2) ∧ Hid (Below w18.heap.size w18 W) from
      fun W hb => ⟨(km.below hb).here.cell 0 _ rfl, (km.below hb).here.cell 1 _ rfl, (km.below hb).here.cell 2 _ rfl, (ka.below hb).here.cell 0 _ rfl, (ka.below hb).here.cell 1 _ rfl, (ka.below hb).here.cell 2 _ rfl, Lib.hid hb⟩)
    have BBF := Lib.hid (show ∀ W, Below w18.heap.size w18 W → Below w.heap.size w W from fun W hb => Below.next bb18 hb)
    have HZm := Lib.hid hzm
    have HZa := Lib.hid hza
    have X0 := Lib.hid (show BxP [] w18 w18.drew from BxP.nil_ (Below.refl _ _).drew)
    try clear km_c0; try clear km_c1; try clear km_c2; try clear ka_c0; try clear ka_c1; try clear ka_c2
    try clear hn; try clear hk; try clear hsm; try clear hsa; try clear hsR0; try clear hsR1
    try clear hmm; try clear hma; try clear hmR0; try clear hmR1; try clear hzm; try clear hza
    try clear hl; try clear hlm; try clear hla; try clear hlk; try clear hlR0; try clear hlR1
    try clear rm; try clear ra; try clear bb0; try clear bb1; try clear bb2; try clear bb3
    try clear bb4; try clear bb5; try clear bb6; try clear bb7; try clear bb8; try clear bb9
    try clear bb10; try clear bb11; try clear bb12; try clear bb13; try clear bb14; try clear bb15
    try clear bb16; try clear bb17; try clear bb18; try clear b1; try clear b2; try clear b3
    try clear b4; try clear b5; try clear b6; try clear b7; try clear b8; try clear b9
    try clear b10; try clear b11; try clear b12; try clear b13; try clear b14; try clear b15
    try clear b16; try clear b17; try clear b18; try clear c1; try clear c2; try clear c3
    try clear c4; try clear c5; try clear c6; try clear c7; try clear c8; try clear c9
    try clear c10; try clear c11; try clear c12; try clear c13; try clear c14; try clear c15
    try clear c16; try clear c17; try clear c18; try clear hq1; try clear hq2; try clear hq3
    try clear hq4; try clear hq5; try clear hq6; try clear hq7; try clear hq8; try clear hq9
    try clear hq10; try clear hq11; try clear hq12; try clear hq13; try clear hq14; try clear hq15
    try clear hq16; try clear hq17; try clear hq18; try clear km; try clear ka; try clear kw0
    try clear ow0; try clear kw1; try clear ow1; try clear kxm; try clear kxa; try clear kg0
    try clear kg1; try clear mkxm; try clear mkxa; try clear mkg0; try clear mkg1; try clear HKm
    try clear HKa
    refine wp_region_held_drew (S := fun W => W.cell? ⟨w.heap.size, 0, none⟩ = some (.string m.1) ∧ W.cell? ⟨w.heap.size, 1, none⟩ = some (.bool m.2.1) ∧ W.cell? ⟨w.heap.size, 2, none⟩ = some (.slice Am m.2.2.length cm) ∧ W.cell? ⟨w.heap.size + 1, 0, none⟩ = some (.bool a.1.1) ∧ W.cell? ⟨w.heap.size + 1, 1, none⟩ = some (.slice Aa a.1.2.length ca) ∧ W.cell? ⟨w.heap.size + 1, 2, none⟩ = some (.int .i64 a.2) ∧ Hid (Below w18.heap.size w18 W)) (by kernel_rfl) ?_ (fun hHeld => ?_)
    · exact KL.out _ X0.out.2.2
    refine wpAnyH_take (i := 0) (v := ?_) rfl (by kernel_rfl) (by kernel_rfl) (by kernel_rfl) (fun _ _ _ h => h) (Or.inl ⟨by kernel_rfl, ?_⟩) (by assumption) ?_
    rotate_left
    · (intro w hSw; (try dsimp only at hSw); go_simp; (try with_reducible rfl))
    (try simp only [Act.put, List.getElem_toArray, List.getElem_cons_zero, List.setIfInBounds_toArray, List.set_cons_zero, List.set_cons_succ])
    refine wpAnyH_take (i := 2) (v := ?_) rfl (by kernel_rfl) (by kernel_rfl) (by kernel_rfl) (fun _ _ _ h => h) (Or.inl ⟨by kernel_rfl, ?_⟩) (by assumption) ?_
    rotate_left
    · (intro w hSw; (try dsimp only at hSw); go_simp; (try with_reducible rfl))
    (try simp only [Act.put, List.getElem_toArray, List.getElem_cons_zero, List.getElem_cons_succ, List.setIfInBounds_toArray, List.set_cons_zero, List.set_cons_succ])
    refine wpAnyH_take (i := 4) (v := ?_) rfl (by kernel_rfl) (by kernel_rfl) (by kernel_rfl) (fun _ _ _ h => h) (Or.inl ⟨by kernel_rfl, ?_⟩) (by assumption) ?_
    rotate_left
    · (intro w hSw; (try dsimp only at hSw); go_simp; (try with_reducible rfl))
    (try simp only [Act.put, List.getElem_toArray, List.getElem_cons_zero, List.getElem_cons_succ, List.setIfInBounds_toArray, List.set_cons_zero, List.set_cons_succ])
    have X := X0.out
    clear X0 hHeld
    generalize w18.drew = W at X ⊢
    revert X
    revert W
    apply memoG
    intro key311
    apply memoG
    intro key310
    apply memoG
    intro key301
    apply memoG
    intro key300
    apply memoG
    intro key211
    apply memoG
    intro key210
    apply memoG
    intro key201
    apply memoG
    intro key200
    apply memoG
    intro key111
    apply memoG
    intro key110
    apply memoG
    intro key101
    apply memoG
    intro key100
    apply memoG
    intro key011
    apply memoG
    intro key010
    apply memoG
    intro key001
    · intro W X
      have hHeld := KL.out _ X.2.2
      refine wpAnyH_ready (rs := [1, 10, 11]) (by kernel_rfl) (by simp) ?_
      refine AllReadyH.cons rfl (fun K hK => ?_) ?_
      · go_simp
        go_at_call 10
        refine (toM_new _ m _ HZm.out (RFm.out _ (BBF.out _ X.2.2))).mono ?_
        rintro e W2 ⟨tm, Stm, rfl, otm, ltm, btm⟩
        refine hK.out _ _ ?_ (fun hHeld2 => ?_)
        · exact KL.out _ (Below.next X.2.2 btm)
        clear hK K hHeld
        (try simp only [Act.put, List.getElem_toArray, List.getElem_cons_zero, List.getElem_cons_succ, List.setIfInBounds_toArray, List.set_cons_zero, List.set_cons_succ])
        have X2 := BxP.call X btm
        clear hHeld2 ltm btm X
        clear W
        rename World => W
        have X := X2
        clear X2
        revert otm
        revert X
        revert Stm
        revert tm
        revert W
        exact key100
      refine AllReadyH.cons rfl (fun K hK => ?_) ?_
      · go_simp
        refine hK.out _ _ ?_ (fun hHeld2 => ?_)
        · exact KL.out _ (below_al X.2.2 _)
        clear hK K hHeld hHeld2
        (try simp only [Act.put, List.getElem_toArray, List.getElem_cons_zero, List.getElem_cons_succ, List.setIfInBounds_toArray, List.set_cons_zero, List.set_cons_succ])
        have X2 := BxP.al X #[.string ⟨#[]⟩, .bool false, .slice none 0 0] 33
        clear X
        generalize W.alloc (.cells #[.string ⟨#[]⟩, .bool false, .slice none 0 0] 33) = W2 at *
        generalize W.heap.size = gA at *
        clear W
        rename World => W
        have X := X2
        clear X2
        revert X
        revert W
        revert gA
        exact key010
      refine AllReadyH.cons rfl (fun K hK => ?_) ?_
      · go_simp
        refine hK.out _ _ ?_ (fun hHeld2 => ?_)
        · exact KL.out _ (below_al X.2.2 _)
        clear hK K hHeld hHeld2
        (try simp only [Act.put, List.getElem_toArray, List.getElem_cons_zero, List.getElem_cons_succ, List.setIfInBounds_toArray, List.set_cons_zero, List.set_cons_succ])
        have X2 := BxP.al X #[.bool false, .slice none 0 0, .slice none 0 0] 35
        clear X
        generalize W.alloc (.cells #[.bool false, .slice none 0 0, .slice none 0 0] 35) = W2 at *
        generalize W.heap.size = gB at *
        clear W
        rename World => W
        have X := X2
        clear X2
        revert X
        revert W
        revert gB
        exact key001
      exact AllReadyH.nil
    · intro gB W X
      have hHeld := KL.out _ X.2.2
      refine wpAnyH_ready (rs := [1, 10]) (by kernel_rfl) (by simp) ?_
      refine AllReadyH.cons rfl (fun K hK => ?_) ?_
      · go_simp
        go_at_call 10
        refine (toM_new _ m _ HZm.out (RFm.out _ (BBF.out _ X.2.2))).mono ?_
        rintro e W2 ⟨tm, Stm, rfl, otm, ltm, btm⟩
        refine hK.out _ _ ?_ (fun hHeld2 => ?_)
        · exact KL.out _ (Below.next X.2.2 btm)
        clear hK K hHeld
        (try simp only [Act.put, List.getElem_toArray, List.getElem_cons_zero, List.getElem_cons_succ, List.setIfInBounds_toArray, List.set_cons_zero, List.set_cons_succ])
        have X2 := BxP.call X btm
        clear hHeld2 ltm btm X
        clear W
        rename World => W
        have X := X2
        clear X2
        revert otm
        revert X
        revert Stm
        revert tm
        revert W
        revert gB
        exact key101
      refine AllReadyH.cons rfl (fun K hK => ?_) ?_
      · go_simp
        refine hK.out _ _ ?_ (fun hHeld2 => ?_)
        · exact KL.out _ (below_al X.2.2 _)
        clear hK K hHeld hHeld2
        (try simp only [Act.put, List.getElem_toArray, List.getElem_cons_zero, List.getElem_cons_succ, List.setIfInBounds_toArray, List.set_cons_zero, List.set_cons_succ])
        have X2 := BxP.al X #[.string ⟨#[]⟩, .bool false, .slice none 0 0] 33
        clear X
        generalize W.alloc (.cells #[.string ⟨#[]⟩, .bool false, .slice none 0 0] 33) = W2 at *
        generalize W.heap.size = gA at *
        clear W
        rename World => W
        have X := X2
        clear X2
        revert X
        revert W
        revert gB
        revert gA
        exact key011
      exact AllReadyH.nil
    · intro gA W X
      have hHeld := KL.out _ X.2.2
      refine wpAnyH_ready (rs := [1, 11]) (by kernel_rfl) (by simp) ?_
      refine AllReadyH.cons rfl (fun K hK => ?_) ?_
      · go_simp
        go_at_call 10
        refine (toM_new _ m _ HZm.out (RFm.out _ (BBF.out _ X.2.2))).mono ?_
        rintro e W2 ⟨tm, Stm, rfl, otm, ltm, btm⟩
        refine hK.out _ _ ?_ (fun hHeld2 => ?_)
        · exact KL.out _ (Below.next X.2.2 btm)
        clear hK K hHeld
        (try simp only [Act.put, List.getElem_toArray, List.getElem_cons_zero, List.getElem_cons_succ, List.setIfInBounds_toArray, List.set_cons_zero, List.set_cons_succ])
        have X2 := BxP.call X btm
        clear hHeld2 ltm btm X
        clear W
        rename World => W
        have X := X2
        clear X2
        revert otm
        revert X
        revert Stm
        revert tm
        revert W
        revert gA
        exact key110
      refine AllReadyH.cons rfl (fun K hK => ?_) ?_
      · go_simp
        refine hK.out _ _ ?_ (fun hHeld2 => ?_)
        · exact KL.out _ (below_al X.2.2 _)
        clear hK K hHeld hHeld2
        (try simp only [Act.put, List.getElem_toArray, List.getElem_cons_zero, List.getElem_cons_succ, List.setIfInBounds_toArray, List.set_cons_zero, List.set_cons_succ])
        have X2 := BxP.al X #[.bool false, .slice none 0 0, .slice none 0 0] 35
        clear X
        generalize W.alloc (.cells #[.bool false, .slice none 0 0, .slice none 0 0] 35) = W2 at *
        generalize W.heap.size = gB at *
        clear W
        rename World => W
        have X := BxP.symm X2
        clear X2
        revert X
        revert W
        revert gB
        revert gA
        exact key011
      exact AllReadyH.nil
    · intro gA gB W X
      have hHeld := KL.out _ X.2.2
      refine wpAnyH_ready (rs := [1]) (by kernel_rfl) (by simp) ?_
      refine AllReadyH.cons rfl (fun K hK => ?_) ?_
      · go_simp
        go_at_call 10
        refine (toM_new _ m _ HZm.out (RFm.out _ (BBF.out _ X.2.2))).mono ?_
        rintro e W2 ⟨tm, Stm, rfl, otm, ltm, btm⟩
        refine hK.out _ _ ?_ (fun hHeld2 => ?_)
        · exact KL.out _ (Below.next X.2.2 btm)
        clear hK K hHeld
        (try simp only [Act.put, List.getElem_toArray, List.getElem_cons_zero, List.getElem_cons_succ, List.setIfInBounds_toArray, List.set_cons_zero, List.set_cons_succ])
        have X2 := BxP.call X btm
        clear hHeld2 ltm btm X
        clear W
        rename World => W
        have X := X2
        clear X2
        revert otm
        revert X
        revert Stm
        revert tm
        revert W
        revert gB
        revert gA
        exact key111
      exact AllReadyH.nil
    · intro W tm Stm X otm
      have hHeld := KL.out _ X.2.2
      refine wpAnyH_ready (rs := [3, 10, 11]) (by kernel_rfl) (by simp) ?_
      refine AllReadyH.cons rfl (fun K hK => ?_) ?_
      · go_simp
        go_at_call 11
        refine (toD_new _ a _ HZa.out (RFa.out _ (BBF.out _ X.2.2))).mono ?_
        rintro e W2 ⟨ta, Sta, rfl, ota, lta, bta⟩
        refine hK.out _ _ ?_ (fun hHeld2 => ?_)
        · exact KL.out _ (Below.next X.2.2 bta)
        clear hK K hHeld
        (try simp only [Act.put, List.getElem_toArray, List.getElem_cons_zero, List.getElem_cons_succ, List.setIfInBounds_toArray, List.set_cons_zero, List.set_cons_succ])
        have X2 := BxP.call X bta
        have otm2 := At.below otm bta
        clear hHeld2 lta bta X otm
        clear W
        rename World => W
        have X := X2
        clear X2
        have otm := otm2
        clear otm2
        revert ota
        revert otm
        revert X
        revert Sta
        revert ta
        revert Stm
        revert tm
        revert W
        exact key200
      refine AllReadyH.cons rfl (fun K hK => ?_) ?_
      · go_simp
        refine hK.out _ _ ?_ (fun hHeld2 => ?_)
        · exact KL.out _ (below_al X.2.2 _)
        clear hK K hHeld hHeld2
        (try simp only [Act.put, List.getElem_toArray, List.getElem_cons_zero, List.getElem_cons_succ, List.setIfInBounds_toArray, List.set_cons_zero, List.set_cons_succ])
        have X2 := BxP.al X #[.string ⟨#[]⟩, .bool false, .slice none 0 0] 33
        have otm2 := At.below otm (below_al (Below.refl _ _) (.cells #[.string ⟨#[]⟩, .bool false, .slice none 0 0] 33))
        clear X otm
        generalize W.alloc (.cells #[.string ⟨#[]⟩, .bool false, .slice none 0 0] 33) = W2 at *
        generalize W.heap.size = gA at *
        clear W
        rename World => W
        have X := X2
        clear X2
        have otm := otm2
        clear otm2
        revert otm
        revert X
        revert Stm
        revert tm
        revert W
        revert gA
        exact key110
      refine AllReadyH.cons rfl (fun K hK => ?_) ?_
      · go_simp
        refine hK.out _ _ ?_ (fun hHeld2 => ?_)
        · exact KL.out _ (below_al X.2.2 _)
        clear hK K hHeld hHeld2
        (try simp only [Act.put, List.getElem_toArray, List.getElem_cons_zero, List.getElem_cons_succ, List.setIfInBounds_toArray, List.set_cons_zero, List.set_cons_succ])
        have X2 := BxP.al X #[.bool false, .slice none 0 0, .slice none 0 0] 35
        have otm2 := At.below otm (below_al (Below.refl _ _) (.cells #[.bool false, .slice none 0 0, .slice none 0 0] 35))
        clear X otm
        generalize W.alloc (.cells #[.bool false, .slice none 0 0, .slice none 0 0] 35) = W2 at *
        generalize W.heap.size = gB at *
        clear W
        rename World => W
        have X := X2
        clear X2
        have otm := otm2
        clear otm2
        revert otm
        revert X
        revert Stm
        revert tm
        revert W
        revert gB
        exact key101
      exact AllReadyH.nil
    · intro gB W tm Stm X otm
      have hHeld := KL.out _ X.2.2
      refine wpAnyH_ready (rs := [3, 10]) (by kernel_rfl) (by simp) ?_
      refine AllReadyH.cons rfl (fun K hK => ?_) ?_
      · go_simp
        go_at_call 11
        refine (toD_new _ a _ HZa.out (RFa.out _ (BBF.out _ X.2.2))).mono ?_
        rintro e W2 ⟨ta, Sta, rfl, ota, lta, bta⟩
        refine hK.out _ _ ?_ (fun hHeld2 => ?_)
        · exact KL.out _ (Below.next X.2.2 bta)
        clear hK K hHeld
        (try simp only [Act.put, List.getElem_toArray, List.getElem_cons_zero, List.getElem_cons_succ, List.setIfInBounds_toArray, List.set_cons_zero, List.set_cons_succ])
        have X2 := BxP.call X bta
        have otm2 := At.below otm bta
        clear hHeld2 lta bta X otm
        clear W
        rename World => W
        have X := X2
        clear X2
        have otm := otm2
        clear otm2
        revert ota
        revert otm
        revert X
        revert Sta
        revert ta
        revert Stm
        revert tm
        revert W
        revert gB
        exact key201
      refine AllReadyH.cons rfl (fun K hK => ?_) ?_
      · go_simp
        refine hK.out _ _ ?_ (fun hHeld2 => ?_)
        · exact KL.out _ (below_al X.2.2 _)
        clear hK K hHeld hHeld2
        (try simp only [Act.put, List.getElem_toArray, List.getElem_cons_zero, List.getElem_cons_succ, List.setIfInBounds_toArray, List.set_cons_zero, List.set_cons_succ])
        have X2 := BxP.al X #[.string ⟨#[]⟩, .bool false, .slice none 0 0] 33
        have otm2 := At.below otm (below_al (Below.refl _ _) (.cells #[.string ⟨#[]⟩, .bool false, .slice none 0 0] 33))
        clear X otm
        generalize W.alloc (.cells #[.string ⟨#[]⟩, .bool false, .slice none 0 0] 33) = W2 at *
        generalize W.heap.size = gA at *
        clear W
        rename World => W
        have X := X2
        clear X2
        have otm := otm2
        clear otm2
        revert otm
        revert X
        revert Stm
        revert tm
        revert W
        revert gB
        revert gA
        exact key111
      exact AllReadyH.nil
    · intro gA W tm Stm X otm
      have hHeld := KL.out _ X.2.2
      refine wpAnyH_ready (rs := [3, 11]) (by kernel_rfl) (by simp) ?_
      refine AllReadyH.cons rfl (fun K hK => ?_) ?_
      · go_simp
        go_at_call 11
        refine (toD_new _ a _ HZa.out (RFa.out _ (BBF.out _ X.2.2))).mono ?_
        rintro e W2 ⟨ta, Sta, rfl, ota, lta, bta⟩
        refine hK.out _ _ ?_ (fun hHeld2 => ?_)
        · exact KL.out _ (Below.next X.2.2 bta)
        clear hK K hHeld
        (try simp only [Act.put, List.getElem_toArray, List.getElem_cons_zero, List.getElem_cons_succ, List.setIfInBounds_toArray, List.set_cons_zero, List.set_cons_succ])
        have X2 := BxP.call X bta
        have otm2 := At.below otm bta
        clear hHeld2 lta bta X otm
        clear W
        rename World => W
        have X := X2
        clear X2
        have otm := otm2
        clear otm2
        revert ota
        revert otm
        revert X
        revert Sta
        revert ta
        revert Stm
        revert tm
        revert W
        revert gA
        exact key210
      refine AllReadyH.cons rfl (fun K hK => ?_) ?_
      · go_simp
        refine hK.out _ _ ?_ (fun hHeld2 => ?_)
        · exact KL.out _ (below_al X.2.2 _)
        clear hK K hHeld hHeld2
        (try simp only [Act.put, List.getElem_toArray, List.getElem_cons_zero, List.getElem_cons_succ, List.setIfInBounds_toArray, List.set_cons_zero, List.set_cons_succ])
        have X2 := BxP.al X #[.bool false, .slice none 0 0, .slice none 0 0] 35
        have otm2 := At.below otm (below_al (Below.refl _ _) (.cells #[.bool false, .slice none 0 0, .slice none 0 0] 35))
        clear X otm
        generalize W.alloc (.cells #[.bool false, .slice none 0 0, .slice none 0 0] 35) = W2 at *
        generalize W.heap.size = gB at *
        clear W
        rename World => W
        have X := BxP.symm X2
        clear X2
        have otm := otm2
        clear otm2
        revert otm
        revert X
        revert Stm
        revert tm
        revert W
        revert gB
        revert gA
        exact key111
      exact AllReadyH.nil
    · intro gA gB W tm Stm X otm
      have hHeld := KL.out _ X.2.2
      refine wpAnyH_ready (rs := [3]) (by kernel_rfl) (by simp) ?_
      refine AllReadyH.cons rfl (fun K hK => ?_) ?_
      · go_simp
        go_at_call 11
        refine (toD_new _ a _ HZa.out (RFa.out _ (BBF.out _ X.2.2))).mono ?_
        rintro e W2 ⟨ta, Sta, rfl, ota, lta, bta⟩
        refine hK.out _ _ ?_ (fun hHeld2 => ?_)
        · exact KL.out _ (Below.next X.2.2 bta)
        clear hK K hHeld
        (try simp only [Act.put, List.getElem_toArray, List.getElem_cons_zero, List.getElem_cons_succ, List.setIfInBounds_toArray, List.set_cons_zero, List.set_cons_succ])
        have X2 := BxP.call X bta
        have otm2 := At.below otm bta
        clear hHeld2 lta bta X otm
        clear W
        rename World => W
        have X := X2
        clear X2
        have otm := otm2
        clear otm2
        revert ota
        revert otm
        revert X
        revert Sta
        revert ta
        revert Stm
        revert tm
        revert W
        revert gB
        revert gA
        exact key211
      exact AllReadyH.nil
    · intro W tm Stm ta Sta X otm ota
      have hHeld := KL.out _ X.2.2
      refine wpAnyH_ready (rs := [5, 10, 11]) (by kernel_rfl) (by simp) ?_
      refine AllReadyH.cons rfl (fun K hK => ?_) ?_
      · go_simp
        go_at_call 12
        refine (HI.out _ _ _ otm.here ota.here (HT0.out.below (BBF.out _ X.2.2)) (HT1.out.below (BBF.out _ X.2.2))).mono ?_
        rintro e W2 ⟨uf, vf, Sf, Df, rfl, of, pf, hapf, lf, kf, bf⟩
        obtain ⟨Af, cf, rfl⟩ := ownM_form of.here
        obtain ⟨Ah, ch, Bh, dh, rfl⟩ := ownQ_form pf.here
        refine hK.out _ _ ?_ (fun hHeld2 => ?_)
        · exact KL.out _ (Below.next X.2.2 bf)
        clear hK K hHeld
        (try simp only [Act.put, List.getElem_toArray, List.getElem_cons_zero, List.getElem_cons_succ, List.setIfInBounds_toArray, List.set_cons_zero, List.set_cons_succ])
        refine wpAnyH_take (i := 6) (v := ?_) rfl (by kernel_rfl) (by kernel_rfl) (by kernel_rfl) (fun _ _ _ h => h) (Or.inl ⟨by kernel_rfl, ?_⟩) (by assumption) ?_
        rotate_left
        · (intro w hSw; (try dsimp only at hSw); go_simp; (try with_reducible rfl))
        (try simp only [Act.put, List.getElem_toArray, List.getElem_cons_zero, List.getElem_cons_succ, List.setIfInBounds_toArray, List.set_cons_zero, List.set_cons_succ])
        refine wpAnyH_take (i := 7) (v := ?_) rfl (by kernel_rfl) (by kernel_rfl) (by kernel_rfl) (fun _ _ _ h => h) (Or.inl ⟨by kernel_rfl, ?_⟩) (by assumption) ?_
        rotate_left
        · (intro w hSw; (try dsimp only at hSw); go_simp; (try with_reducible rfl))
        (try simp only [Act.put, List.getElem_toArray, List.getElem_cons_zero, List.getElem_cons_succ, List.setIfInBounds_toArray, List.set_cons_zero, List.set_cons_succ])
        refine wpAnyH_take (i := 8) (v := ?_) rfl (by kernel_rfl) (by kernel_rfl) (by kernel_rfl) (fun _ _ _ h => h) (Or.inl ⟨by kernel_rfl, ?_⟩) (by assumption) ?_
        rotate_left
        · (intro w hSw; (try dsimp only at hSw); go_simp; (try with_reducible rfl))
        (try simp only [Act.put, List.getElem_toArray, List.getElem_cons_zero, List.getElem_cons_succ, List.setIfInBounds_toArray, List.set_cons_zero, List.set_cons_succ])
        refine wpAnyH_take (i := 9) (v := ?_) rfl (by kernel_rfl) (by kernel_rfl) (by kernel_rfl) (fun _ _ _ h => h) (Or.inl ⟨by kernel_rfl, ?_⟩) (by assumption) ?_
        rotate_left
        · (intro w hSw; (try dsimp only at hSw); go_simp; (try with_reducible rfl))
        (try simp only [Act.put, List.getElem_toArray, List.getElem_cons_zero, List.getElem_cons_succ, List.setIfInBounds_toArray, List.set_cons_zero, List.set_cons_succ])
        have RY := ReadyP.of X bf of pf hapf lf kf
        clear hHeld2 of pf hapf lf kf bf Sf Df X otm ota
        clear Stm Sta W
        rename World => W
        revert RY
        revert dh
        revert Bh
        revert ch
        revert Ah
        revert cf
        revert Af
        revert ta
        revert tm
        revert W
        exact key300
      refine AllReadyH.cons rfl (fun K hK => ?_) ?_
      · go_simp
        refine hK.out _ _ ?_ (fun hHeld2 => ?_)
        · exact KL.out _ (below_al X.2.2 _)
        clear hK K hHeld hHeld2
        (try simp only [Act.put, List.getElem_toArray, List.getElem_cons_zero, List.getElem_cons_succ, List.setIfInBounds_toArray, List.set_cons_zero, List.set_cons_succ])
        have X2 := BxP.al X #[.string ⟨#[]⟩, .bool false, .slice none 0 0] 33
        have otm2 := At.below otm (below_al (Below.refl _ _) (.cells #[.string ⟨#[]⟩, .bool false, .slice none 0 0] 33))
        have ota2 := At.below ota (below_al (Below.refl _ _) (.cells #[.string ⟨#[]⟩, .bool false, .slice none 0 0] 33))
        clear X otm ota
        generalize W.alloc (.cells #[.string ⟨#[]⟩, .bool false, .slice none 0 0] 33) = W2 at *
        generalize W.heap.size = gA at *
        clear W
        rename World => W
        have X := X2
        clear X2
        have otm := otm2
        clear otm2
        have ota := ota2
        clear ota2
        revert ota
        revert otm
        revert X
        revert Sta
        revert ta
        revert Stm
        revert tm
        revert W
        revert gA
        exact key210
      refine AllReadyH.cons rfl (fun K hK => ?_) ?_
      · go_simp
        refine hK.out _ _ ?_ (fun hHeld2 => ?_)
        · exact KL.out _ (below_al X.2.2 _)
        clear hK K hHeld hHeld2
        (try simp only [Act.put, List.getElem_toArray, List.getElem_cons_zero, List.getElem_cons_succ, List.setIfInBounds_toArray, List.set_cons_zero, List.set_cons_succ])
        have X2 := BxP.al X #[.bool false, .slice none 0 0, .slice none 0 0] 35
        have otm2 := At.below otm (below_al (Below.refl _ _) (.cells #[.bool false, .slice none 0 0, .slice none 0 0] 35))
        have ota2 := At.below ota (below_al (Below.refl _ _) (.cells #[.bool false, .slice none 0 0, .slice none 0 0] 35))
        clear X otm ota
        generalize W.alloc (.cells #[.bool false, .slice none 0 0, .slice none 0 0] 35) = W2 at *
        generalize W.heap.size = gB at *
        clear W
        rename World => W
        have X := X2
        clear X2
        have otm := otm2
        clear otm2
        have ota := ota2
        clear ota2
        revert ota
        revert otm
        revert X
        revert Sta
        revert ta
        revert Stm
        revert tm
        revert W
        revert gB
        exact key201
      exact AllReadyH.nil
    · intro gB W tm Stm ta Sta X otm ota
      have hHeld := KL.out _ X.2.2
      refine wpAnyH_ready (rs := [5, 10]) (by kernel_rfl) (by simp) ?_
      refine AllReadyH.cons rfl (fun K hK => ?_) ?_
      · go_simp
        go_at_call 12
        refine (HI.out _ _ _ otm.here ota.here (HT0.out.below (BBF.out _ X.2.2)) (HT1.out.below (BBF.out _ X.2.2))).mono ?_
        rintro e W2 ⟨uf, vf, Sf, Df, rfl, of, pf, hapf, lf, kf, bf⟩
        obtain ⟨Af, cf, rfl⟩ := ownM_form of.here
        obtain ⟨Ah, ch, Bh, dh, rfl⟩ := ownQ_form pf.here
        refine hK.out _ _ ?_ (fun hHeld2 => ?_)
        · exact KL.out _ (Below.next X.2.2 bf)
        clear hK K hHeld
        (try simp only [Act.put, List.getElem_toArray, List.getElem_cons_zero, List.getElem_cons_succ, List.setIfInBounds_toArray, List.set_cons_zero, List.set_cons_succ])
        refine wpAnyH_take (i := 6) (v := ?_) rfl (by kernel_rfl) (by kernel_rfl) (by kernel_rfl) (fun _ _ _ h => h) (Or.inl ⟨by kernel_rfl, ?_⟩) (by assumption) ?_
        rotate_left
        · (intro w hSw; (try dsimp only at hSw); go_simp; (try with_reducible rfl))
        (try simp only [Act.put, List.getElem_toArray, List.getElem_cons_zero, List.getElem_cons_succ, List.setIfInBounds_toArray, List.set_cons_zero, List.set_cons_succ])
        refine wpAnyH_take (i := 7) (v := ?_) rfl (by kernel_rfl) (by kernel_rfl) (by kernel_rfl) (fun _ _ _ h => h) (Or.inl ⟨by kernel_rfl, ?_⟩) (by assumption) ?_
        rotate_left
        · (intro w hSw; (try dsimp only at hSw); go_simp; (try with_reducible rfl))
        (try simp only [Act.put, List.getElem_toArray, List.getElem_cons_zero, List.getElem_cons_succ, List.setIfInBounds_toArray, List.set_cons_zero, List.set_cons_succ])
        refine wpAnyH_take (i := 8) (v := ?_) rfl (by kernel_rfl) (by kernel_rfl) (by kernel_rfl) (fun _ _ _ h => h) (Or.inl ⟨by kernel_rfl, ?_⟩) (by assumption) ?_
        rotate_left
        · (intro w hSw; (try dsimp only at hSw); go_simp; (try with_reducible rfl))
        (try simp only [Act.put, List.getElem_toArray, List.getElem_cons_zero, List.getElem_cons_succ, List.setIfInBounds_toArray, List.set_cons_zero, List.set_cons_succ])
        refine wpAnyH_take (i := 9) (v := ?_) rfl (by kernel_rfl) (by kernel_rfl) (by kernel_rfl) (fun _ _ _ h => h) (Or.inl ⟨by kernel_rfl, ?_⟩) (by assumption) ?_
        rotate_left
        · (intro w hSw; (try dsimp only at hSw); go_simp; (try with_reducible rfl))
        (try simp only [Act.put, List.getElem_toArray, List.getElem_cons_zero, List.getElem_cons_succ, List.setIfInBounds_toArray, List.set_cons_zero, List.set_cons_succ])
        have RY := ReadyP.of X bf of pf hapf lf kf
        clear hHeld2 of pf hapf lf kf bf Sf Df X otm ota
        clear Stm Sta W
        rename World => W
        revert RY
        revert dh
        revert Bh
        revert ch
        revert Ah
        revert cf
        revert Af
        revert ta
        revert tm
        revert W
        revert gB
        exact key301
      refine AllReadyH.cons rfl (fun K hK => ?_) ?_
      · go_simp
        refine hK.out _ _ ?_ (fun hHeld2 => ?_)
        · exact KL.out _ (below_al X.2.2 _)
        clear hK K hHeld hHeld2
        (try simp only [Act.put, List.getElem_toArray, List.getElem_cons_zero, List.getElem_cons_succ, List.setIfInBounds_toArray, List.set_cons_zero, List.set_cons_succ])
        have X2 := BxP.al X #[.string ⟨#[]⟩, .bool false, .slice none 0 0] 33
        have otm2 := At.below otm (below_al (Below.refl _ _) (.cells #[.string ⟨#[]⟩, .bool false, .slice none 0 0] 33))
        have ota2 := At.below ota (below_al (Below.refl _ _) (.cells #[.string ⟨#[]⟩, .bool false, .slice none 0 0] 33))
        clear X otm ota
        generalize W.alloc (.cells #[.string ⟨#[]⟩, .bool false, .slice none 0 0] 33) = W2 at *
        generalize W.heap.size = gA at *
        clear W
        rename World => W
        have X := X2
        clear X2
        have otm := otm2
        clear otm2
        have ota := ota2
        clear ota2
        revert ota
        revert otm
        revert X
        revert Sta
        revert ta
        revert Stm
        revert tm
        revert W
        revert gB
        revert gA
        exact key211
      exact AllReadyH.nil
    · intro gA W tm Stm ta Sta X otm ota
      have hHeld := KL.out _ X.2.2
      refine wpAnyH_ready (rs := [5, 11]) (by kernel_rfl) (by simp) ?_
      refine AllReadyH.cons rfl (fun K hK => ?_) ?_
      · go_simp
        go_at_call 12
        refine (HI.out _ _ _ otm.here ota.here (HT0.out.below (BBF.out _ X.2.2)) (HT1.out.below (BBF.out _ X.2.2))).mono ?_
        rintro e W2 ⟨uf, vf, Sf, Df, rfl, of, pf, hapf, lf, kf, bf⟩
        obtain ⟨Af, cf, rfl⟩ := ownM_form of.here
        obtain ⟨Ah, ch, Bh, dh, rfl⟩ := ownQ_form pf.here
        refine hK.out _ _ ?_ (fun hHeld2 => ?_)
        · exact KL.out _ (Below.next X.2.2 bf)
        clear hK K hHeld
        (try simp only [Act.put, List.getElem_toArray, List.getElem_cons_zero, List.getElem_cons_succ, List.setIfInBounds_toArray, List.set_cons_zero, List.set_cons_succ])
        refine wpAnyH_take (i := 6) (v := ?_) rfl (by kernel_rfl) (by kernel_rfl) (by kernel_rfl) (fun _ _ _ h => h) (Or.inl ⟨by kernel_rfl, ?_⟩) (by assumption) ?_
        rotate_left
        · (intro w hSw; (try dsimp only at hSw); go_simp; (try with_reducible rfl))
        (try simp only [Act.put, List.getElem_toArray, List.getElem_cons_zero, List.getElem_cons_succ, List.setIfInBounds_toArray, List.set_cons_zero, List.set_cons_succ])
        refine wpAnyH_take (i := 7) (v := ?_) rfl (by kernel_rfl) (by kernel_rfl) (by kernel_rfl) (fun _ _ _ h => h) (Or.inl ⟨by kernel_rfl, ?_⟩) (by assumption) ?_
        rotate_left
        · (intro w hSw; (try dsimp only at hSw); go_simp; (try with_reducible rfl))
        (try simp only [Act.put, List.getElem_toArray, List.getElem_cons_zero, List.getElem_cons_succ, List.setIfInBounds_toArray, List.set_cons_zero, List.set_cons_succ])
        refine wpAnyH_take (i := 8) (v := ?_) rfl (by kernel_rfl) (by kernel_rfl) (by kernel_rfl) (fun _ _ _ h => h) (Or.inl ⟨by kernel_rfl, ?_⟩) (by assumption) ?_
        rotate_left
        · (intro w hSw; (try dsimp only at hSw); go_simp; (try with_reducible rfl))
        (try simp only [Act.put, List.getElem_toArray, List.getElem_cons_zero, List.getElem_cons_succ, List.setIfInBounds_toArray, List.set_cons_zero, List.set_cons_succ])
        refine wpAnyH_take (i := 9) (v := ?_) rfl (by kernel_rfl) (by kernel_rfl) (by kernel_rfl) (fun _ _ _ h => h) (Or.inl ⟨by kernel_rfl, ?_⟩) (by assumption) ?_
        rotate_left
        · (intro w hSw; (try dsimp only at hSw); go_simp; (try with_reducible rfl))
        (try simp only [Act.put, List.getElem_toArray, List.getElem_cons_zero, List.getElem_cons_succ, List.setIfInBounds_toArray, List.set_cons_zero, List.set_cons_succ])
        have RY := ReadyP.of X bf of pf hapf lf kf
        clear hHeld2 of pf hapf lf kf bf Sf Df X otm ota
        clear Stm Sta W
        rename World => W
        revert RY
        revert dh
        revert Bh
        revert ch
        revert Ah
        revert cf
        revert Af
        revert ta
        revert tm
        revert W
        revert gA
        exact key310
      refine AllReadyH.cons rfl (fun K hK => ?_) ?_
      · go_simp
        refine hK.out _ _ ?_ (fun hHeld2 => ?_)
        · exact KL.out _ (below_al X.2.2 _)
        clear hK K hHeld hHeld2
        (try simp only [Act.put, List.getElem_toArray, List.getElem_cons_zero, List.getElem_cons_succ, List.setIfInBounds_toArray, List.set_cons_zero, List.set_cons_succ])
        have X2 := BxP.al X #[.bool false, .slice none 0 0, .slice none 0 0] 35
        have otm2 := At.below otm (below_al (Below.refl _ _) (.cells #[.bool false, .slice none 0 0, .slice none 0 0] 35))
        have ota2 := At.below ota (below_al (Below.refl _ _) (.cells #[.bool false, .slice none 0 0, .slice none 0 0] 35))
        clear X otm ota
        generalize W.alloc (.cells #[.bool false, .slice none 0 0, .slice none 0 0] 35) = W2 at *
        generalize W.heap.size = gB at *
        clear W
        rename World => W
        have X := BxP.symm X2
        clear X2
        have otm := otm2
        clear otm2
        have ota := ota2
        clear ota2
        revert ota
        revert otm
        revert X
        revert Sta
        revert ta
        revert Stm
        revert tm
        revert W
        revert gB
        revert gA
        exact key211
      exact AllReadyH.nil
    · intro gA gB W tm Stm ta Sta X otm ota
      have hHeld := KL.out _ X.2.2
      refine wpAnyH_ready (rs := [5]) (by kernel_rfl) (by simp) ?_
      refine AllReadyH.cons rfl (fun K hK => ?_) ?_
      · go_simp
        go_at_call 12
        refine (HI.out _ _ _ otm.here ota.here (HT0.out.below (BBF.out _ X.2.2)) (HT1.out.below (BBF.out _ X.2.2))).mono ?_
        rintro e W2 ⟨uf, vf, Sf, Df, rfl, of, pf, hapf, lf, kf, bf⟩
        obtain ⟨Af, cf, rfl⟩ := ownM_form of.here
        obtain ⟨Ah, ch, Bh, dh, rfl⟩ := ownQ_form pf.here
        refine hK.out _ _ ?_ (fun hHeld2 => ?_)
        · exact KL.out _ (Below.next X.2.2 bf)
        clear hK K hHeld
        (try simp only [Act.put, List.getElem_toArray, List.getElem_cons_zero, List.getElem_cons_succ, List.setIfInBounds_toArray, List.set_cons_zero, List.set_cons_succ])
        refine wpAnyH_take (i := 6) (v := ?_) rfl (by kernel_rfl) (by kernel_rfl) (by kernel_rfl) (fun _ _ _ h => h) (Or.inl ⟨by kernel_rfl, ?_⟩) (by assumption) ?_
        rotate_left
        · (intro w hSw; (try dsimp only at hSw); go_simp; (try with_reducible rfl))
        (try simp only [Act.put, List.getElem_toArray, List.getElem_cons_zero, List.getElem_cons_succ, List.setIfInBounds_toArray, List.set_cons_zero, List.set_cons_succ])
        refine wpAnyH_take (i := 7) (v := ?_) rfl (by kernel_rfl) (by kernel_rfl) (by kernel_rfl) (fun _ _ _ h => h) (Or.inl ⟨by kernel_rfl, ?_⟩) (by assumption) ?_
        rotate_left
        · (intro w hSw; (try dsimp only at hSw); go_simp; (try with_reducible rfl))
        (try simp only [Act.put, List.getElem_toArray, List.getElem_cons_zero, List.getElem_cons_succ, List.setIfInBounds_toArray, List.set_cons_zero, List.set_cons_succ])
        refine wpAnyH_take (i := 8) (v := ?_) rfl (by kernel_rfl) (by kernel_rfl) (by kernel_rfl) (fun _ _ _ h => h) (Or.inl ⟨by kernel_rfl, ?_⟩) (by assumption) ?_
        rotate_left
        · (intro w hSw; (try dsimp only at hSw); go_simp; (try with_reducible rfl))
        (try simp only [Act.put, List.getElem_toArray, List.getElem_cons_zero, List.getElem_cons_succ, List.setIfInBounds_toArray, List.set_cons_zero, List.set_cons_succ])
        refine wpAnyH_take (i := 9) (v := ?_) rfl (by kernel_rfl) (by kernel_rfl) (by kernel_rfl) (fun _ _ _ h => h) (Or.inl ⟨by kernel_rfl, ?_⟩) (by assumption) ?_
        rotate_left
        · (intro w hSw; (try dsimp only at hSw); go_simp; (try with_reducible rfl))
        (try simp only [Act.put, List.getElem_toArray, List.getElem_cons_zero, List.getElem_cons_succ, List.setIfInBounds_toArray, List.set_cons_zero, List.set_cons_succ])
        have RY := ReadyP.of X bf of pf hapf lf kf
        clear hHeld2 of pf hapf lf kf bf Sf Df X otm ota
        clear Stm Sta W
        rename World => W
        revert RY
        revert dh
        revert Bh
        revert ch
        revert Ah
        revert cf
        revert Af
        revert ta
        revert tm
        revert W
        revert gB
        revert gA
        exact key311
      exact AllReadyH.nil
    · intro W tm ta Af cf Ah ch Bh dh RY
      have hHeld := KL.out _ RY.1.2.2
      refine wpAnyH_ready (rs := [10, 11]) (by kernel_rfl) (by simp) ?_
      refine AllReadyH.cons rfl (fun K hK => ?_) ?_
      · go_simp
        refine hK.out _ _ ?_ (fun hHeld2 => ?_)
        · exact KL.out _ (below_al RY.1.2.2 _)
        clear hK K hHeld hHeld2
        (try simp only [Act.put, List.getElem_toArray, List.getElem_cons_zero, List.getElem_cons_succ, List.setIfInBounds_toArray, List.set_cons_zero, List.set_cons_succ])
        have RY2 := ReadyP.al RY #[.string ⟨#[]⟩, .bool false, .slice none 0 0] 33
        clear RY
        generalize W.alloc (.cells #[.string ⟨#[]⟩, .bool false, .slice none 0 0] 33) = W2 at *
        generalize W.heap.size = gA at *
        clear W
        rename World => W
        have RY := RY2
        clear RY2
        revert RY
        revert dh
        revert Bh
        revert ch
        revert Ah
        revert cf
        revert Af
        revert ta
        revert tm
        revert W
        revert gA
        exact key310
      refine AllReadyH.cons rfl (fun K hK => ?_) ?_
      · go_simp
        refine hK.out _ _ ?_ (fun hHeld2 => ?_)
        · exact KL.out _ (below_al RY.1.2.2 _)
        clear hK K hHeld hHeld2
        (try simp only [Act.put, List.getElem_toArray, List.getElem_cons_zero, List.getElem_cons_succ, List.setIfInBounds_toArray, List.set_cons_zero, List.set_cons_succ])
        have RY2 := ReadyP.al RY #[.bool false, .slice none 0 0, .slice none 0 0] 35
        clear RY
        generalize W.alloc (.cells #[.bool false, .slice none 0 0, .slice none 0 0] 35) = W2 at *
        generalize W.heap.size = gB at *
        clear W
        rename World => W
        have RY := RY2
        clear RY2
        revert RY
        revert dh
        revert Bh
        revert ch
        revert Ah
        revert cf
        revert Af
        revert ta
        revert tm
        revert W
        revert gB
        exact key301
      exact AllReadyH.nil
    · intro gB W tm ta Af cf Ah ch Bh dh RY
      have hHeld := KL.out _ RY.1.2.2
      refine wpAnyH_ready (rs := [10]) (by kernel_rfl) (by simp) ?_
      refine AllReadyH.cons rfl (fun K hK => ?_) ?_
      · go_simp
        refine hK.out _ _ ?_ (fun hHeld2 => ?_)
        · exact KL.out _ (below_al RY.1.2.2 _)
        clear hK K hHeld hHeld2
        (try simp only [Act.put, List.getElem_toArray, List.getElem_cons_zero, List.getElem_cons_succ, List.setIfInBounds_toArray, List.set_cons_zero, List.set_cons_succ])
        have RY2 := ReadyP.al RY #[.string ⟨#[]⟩, .bool false, .slice none 0 0] 33
        clear RY
        generalize W.alloc (.cells #[.string ⟨#[]⟩, .bool false, .slice none 0 0] 33) = W2 at *
        generalize W.heap.size = gA at *
        clear W
        rename World => W
        have RY := RY2
        clear RY2
        revert RY
        revert dh
        revert Bh
        revert ch
        revert Ah
        revert cf
        revert Af
        revert ta
        revert tm
        revert W
        revert gB
        revert gA
        exact key311
      exact AllReadyH.nil
    · intro gA W tm ta Af cf Ah ch Bh dh RY
      have hHeld := KL.out _ RY.1.2.2
      refine wpAnyH_ready (rs := [11]) (by kernel_rfl) (by simp) ?_
      refine AllReadyH.cons rfl (fun K hK => ?_) ?_
      · go_simp
        refine hK.out _ _ ?_ (fun hHeld2 => ?_)
        · exact KL.out _ (below_al RY.1.2.2 _)
        clear hK K hHeld hHeld2
        (try simp only [Act.put, List.getElem_toArray, List.getElem_cons_zero, List.getElem_cons_succ, List.setIfInBounds_toArray, List.set_cons_zero, List.set_cons_succ])
        have RY2 := ReadyP.al RY #[.bool false, .slice none 0 0, .slice none 0 0] 35
        clear RY
        generalize W.alloc (.cells #[.bool false, .slice none 0 0, .slice none 0 0] 35) = W2 at *
        generalize W.heap.size = gB at *
        clear W
        rename World => W
        have RY := ReadyP.symm RY2
        clear RY2
        revert RY
        revert dh
        revert Bh
        revert ch
        revert Ah
        revert cf
        revert Af
        revert ta
        revert tm
        revert W
        revert gB
        revert gA
        exact key311
      exact AllReadyH.nil
    · intro gA gB W tm ta Af cf Ah ch Bh dh RY
      have hHeld := KL.out _ RY.1.2.2
      have RY2 := ReadyP.two RY
      obtain ⟨⟨c1, c2, c3⟩, ⟨f1, f2, f3⟩, ⟨c4, c5, c6⟩, ⟨f4, f5, f6⟩, e1, e2⟩ := RY2
      have hg := (RY.1.2.1 (gA, #[.string ⟨#[]⟩, .bool false, .slice none 0 0], 33) (by simp)).1
      have hm := (RY.1.2.1 (gB, #[.bool false, .slice none 0 0, .slice none 0 0], 35) (by simp)).1
      dsimp only at hg hm
      refine wpAnyH_ready (rs := [12]) (by kernel_rfl) (by simp) ?_
      refine AllReadyH.cons rfl (fun K hK => ?_) ?_
      · go_simp
        refine hK.out _ _ ?_ (fun hHeld2 => ?_)
        · refine KL.out _ ?_
          (repeat (first | with_reducible refine below_setP ?_ (by first | assumption | exact RY.1.2.2.size | exact Nat.le_succ_of_le RY.1.2.2.size) | with_reducible refine below_al ?_ _))
          exact RY.1.2.2
        clear hK K hHeld
        have hHeld := hHeld2
        clear hHeld2
        (try simp only [Act.put, List.getElem_toArray, List.getElem_cons_zero, List.getElem_cons_succ, List.setIfInBounds_toArray, List.set_cons_zero, List.set_cons_succ])
        refine wpAnyH_ready (rs := [13]) (by kernel_rfl) (by simp) ?_
        refine AllReadyH.cons rfl (fun K hK => ?_) ?_
        · go_simp
          refine hK.out _ _ ?_ (fun hHeld2 => ?_)
          · refine KL.out _ ?_
            (repeat (first | with_reducible refine below_setP ?_ (by first | assumption | exact RY.1.2.2.size | exact Nat.le_succ_of_le RY.1.2.2.size) | with_reducible refine below_al ?_ _))
            exact RY.1.2.2
          clear hK K hHeld
          have hHeld := hHeld2
          clear hHeld2
          (try simp only [Act.put, List.getElem_toArray, List.getElem_cons_zero, List.getElem_cons_succ, List.setIfInBounds_toArray, List.set_cons_zero, List.set_cons_succ])
          refine wpAnyH_take (i := 14) (v := ?_) rfl (by kernel_rfl) (by kernel_rfl) (by kernel_rfl) (fun _ _ _ h => h) (Or.inl ⟨by kernel_rfl, ?_⟩) (by assumption) ?_
          rotate_left
          · (intro w hSw; (try dsimp only at hSw); go_simp; (try with_reducible rfl))
          (try simp only [Act.put, List.getElem_toArray, List.getElem_cons_zero, List.getElem_cons_succ, List.setIfInBounds_toArray, List.set_cons_zero, List.set_cons_succ])
          refine wpAnyH_done (by kernel_rfl) ?_ _
          go_wp2_with fail
          go_meet
          first | with_reducible exact ⟨locP_both RY, rfl⟩ | with_reducible exact ⟨locP_both2 RY, rfl⟩ | with_reducible exact ⟨locP_both (ReadyP.symm RY), rfl⟩ | with_reducible exact ⟨locP_both2 (ReadyP.symm RY), rfl⟩
        exact AllReadyH.nil
      exact AllReadyH.nil
  rename World => w19
  obtain ⟨⟨gh0, gh1, csh0, csh1, Sh0, Sh1, rfl, rfl, kh0, kh1, oh0, oh1, aph, nh0, nh1, lh0, lh1, b19⟩, rfl⟩ := hcut
  obtain ⟨Ah0, ch0, eh0⟩ := ownM_form oh0.here
  injection eh0 with eh0
  subst eh0
  obtain ⟨Ah1, ch1, Bh1, dh1, eh1⟩ := ownQ_form oh1.here
  injection eh1 with eh1
  subst eh1
  have HAPh := Lib.hid aph
  clear aph
  have bb19 := Below.next bb18 b19
  replace km := km.below b19
  replace ka := ka.below b19
  replace kw0 := kw0.below b19
  replace ow0 := ow0.below b19
  replace kw1 := kw1.below b19
  replace ow1 := ow1.below b19
  replace kxm := kxm.below b19
  replace kxa := kxa.below b19
  replace kg0 := kg0.below b19
  replace kg1 := kg1.below b19
  replace mkxm := mkxm.below b19
  replace mkxa := mkxa.below b19
  replace mkg0 := mkg0.below b19
  replace mkg1 := mkg1.below b19
  have kh0_c0 := kh0.here.cell 0 _ rfl
  have kh0_c1 := kh0.here.cell 1 _ rfl
  have kh0_c2 := kh0.here.cell 2 _ rfl
  have kw0_c0 := kw0.here.cell 0 _ rfl
  have kw0_c1 := kw0.here.cell 1 _ rfl
  have kw0_c2 := kw0.here.cell 2 _ rfl
  go_wp2_with fail
  clear kh0_c0 kh0_c1 kh0_c2 kw0_c0 kw0_c1 kw0_c2
  refine (eqM_cal _ _ R0 R0 _ (capM_of (by omega)) (OwnM.rd oh0.here) (OwnM.rd ow0.here)).mono ?_
  rintro e w20 ⟨rfl, b20⟩
  rw [decide_refl]
  have bb20 := Below.next bb19 b20
  replace km := km.below b20
  replace ka := ka.below b20
  replace kw0 := kw0.below b20
  replace ow0 := ow0.below b20
  replace kw1 := kw1.below b20
  replace ow1 := ow1.below b20
  replace kxm := kxm.below b20
  replace kxa := kxa.below b20
  replace kg0 := kg0.below b20
  replace kg1 := kg1.below b20
  replace mkxm := mkxm.below b20
  replace mkxa := mkxa.below b20
  replace mkg0 := mkg0.below b20
  replace mkg1 := mkg1.below b20
  replace kh0 := kh0.below b20
  replace oh0 := oh0.below b20
  replace kh1 := kh1.below b20
  replace oh1 := oh1.below b20
  have kh1_c0 := kh1.here.cell 0 _ rfl
  have kh1_c1 := kh1.here.cell 1 _ rfl
  have kh1_c2 := kh1.here.cell 2 _ rfl
  have kw1_c0 := kw1.here.cell 0 _ rfl
  have kw1_c1 := kw1.here.cell 1 _ rfl
  have kw1_c2 := kw1.here.cell 2 _ rfl
  go_wp2_with fail
  clear kh1_c0 kh1_c1 kh1_c2 kw1_c0 kw1_c1 kw1_c2
  refine (eqQ_cal _ _ R1 R1 _ (capQ_of (by omega)) (OwnQ.rd oh1.here) (OwnQ.rd ow1.here)).mono ?_
  rintro e w21 ⟨rfl, b21⟩
  rw [decide_refl]
  have bb21 := Below.next bb20 b21
  replace km := km.below b21
  replace ka := ka.below b21
  replace kw0 := kw0.below b21
  replace ow0 := ow0.below b21
  replace kw1 := kw1.below b21
  replace ow1 := ow1.below b21
  replace kxm := kxm.below b21
  replace kxa := kxa.below b21
  replace kg0 := kg0.below b21
  replace kg1 := kg1.below b21
  replace mkxm := mkxm.below b21
  replace mkxa := mkxa.below b21
  replace mkg0 := mkg0.below b21
  replace mkg1 := mkg1.below b21
  replace kh0 := kh0.below b21
  replace oh0 := oh0.below b21
  replace kh1 := kh1.below b21
  replace oh1 := oh1.below b21
  have kg0_c0 := kg0.here.cell 0 _ rfl
  have kg0_c1 := kg0.here.cell 1 _ rfl
  have kg0_c2 := kg0.here.cell 2 _ rfl
  go_wp2_with fail
  clear kg0_c0 kg0_c1 kg0_c2
  refine (heldM_cal _ R0 (1) _ (by omega) (by omega) mkg0.here).mono ?_
  rintro e w22 ⟨rfl, b22⟩
  have bb22 := Below.next bb21 b22
  replace km := km.below b22
  replace ka := ka.below b22
  replace kw0 := kw0.below b22
  replace ow0 := ow0.below b22
  replace kw1 := kw1.below b22
  replace ow1 := ow1.below b22
  replace kxm := kxm.below b22
  replace kxa := kxa.below b22
  replace kg0 := kg0.below b22
  replace kg1 := kg1.below b22
  replace mkxm := mkxm.below b22
  replace mkxa := mkxa.below b22
  replace mkg0 := mkg0.below b22
  replace mkg1 := mkg1.below b22
  replace kh0 := kh0.below b22
  replace oh0 := oh0.below b22
  replace kh1 := kh1.below b22
  replace oh1 := oh1.below b22
  have hq22 : decide ((1 : Int) + mkM R0 < 0) = false := decide_eq_false (by omega)
  have kg1_c0 := kg1.here.cell 0 _ rfl
  have kg1_c1 := kg1.here.cell 1 _ rfl
  have kg1_c2 := kg1.here.cell 2 _ rfl
  go_wp2_with fail
  clear kg1_c0 kg1_c1 kg1_c2
  refine (heldQ_cal _ R1 (1 + mkM R0) _ (by omega) (by omega) mkg1.here).mono ?_
  rintro e w23 ⟨rfl, b23⟩
  have bb23 := Below.next bb22 b23
  replace km := km.below b23
  replace ka := ka.below b23
  replace kw0 := kw0.below b23
  replace ow0 := ow0.below b23
  replace kw1 := kw1.below b23
  replace ow1 := ow1.below b23
  replace kxm := kxm.below b23
  replace kxa := kxa.below b23
  replace kg0 := kg0.below b23
  replace kg1 := kg1.below b23
  replace mkxm := mkxm.below b23
  replace mkxa := mkxa.below b23
  replace mkg0 := mkg0.below b23
  replace mkg1 := mkg1.below b23
  replace kh0 := kh0.below b23
  replace oh0 := oh0.below b23
  replace kh1 := kh1.below b23
  replace oh1 := oh1.below b23
  have hq23 : decide ((1 + mkM R0 : Int) + szQ R1 < 0) = false := decide_eq_false (by omega)
  go_wp2
  go_ret
  exact ⟨rfl, bb23⟩
end Go.Proofs.YtofehcpapdlcnaaGreatDoor

namespace Go.Proofs.YtofehcpapdlcnaaGreatDoor
open Go.RowKit

def oneD : DI := (ofZ 1, 0)
def taxB (a : DI) : Bool := okD a && (!a.1.1 && (decide (a.1.2.length ≤ 1) && decide (cmpD a oneD ≤ 0)))
theorem taxB_bad {a : DI} (h : okD a = false) : taxB a = false := by unfold taxB; rw [h]; rfl
theorem taxB_neg {a : DI} (h : a.1.1 = true) : taxB a = false := by unfold taxB; rw [h]; simp
theorem taxB_long {a : DI} (h : ¬ a.1.2.length ≤ 1) : taxB a = false := by unfold taxB; rw [decide_eq_false h]; simp
theorem taxB_is {a : DI} (h : okD a = true) (h1 : a.1.1 = false) (h2 : a.1.2.length ≤ 1) : taxB a = decide (cmpD a oneD ≤ 0) := by unfold taxB; rw [h, h1, decide_eq_true h2]; simp
/-- the sign that IntSign gives -/
theorem sign_neg {x : SI} (h : okS x = true) : decide (cmpS x zeroS < 0) = x.1 := by
  rw [okS_sign h]
  unfold cmpS
  rw [if_pos ⟨h, zeroS_ok⟩, zeroS_val]
  unfold cmpI
  split
  · rename_i h1
    rw [decide_eq_true h1]; rfl
  · rename_i h1
    rw [decide_eq_false h1]
    split <;> rfl
end Go.Proofs.YtofehcpapdlcnaaGreatDoor

namespace Go.Proofs.YtofehcpapdlcnaaGreatDoor
open Go.RowKit

def ratD (d : DI) : QI := if okD d = true then (makeQ d.1 (tenS d.2)).1 else zeroQ
theorem rat_bad {d : DI} (h : ¬ okD d = true) : ratD d = zeroQ := by unfold ratD; rw [if_neg h]
theorem ten_bd {d : DI} (h : okD d = true) : makeQ d.1 (tenS d.2) = (ratD d, true) ∧ Bd (ratD d) 6 ∧ ratV (ratD d) = (numD d : Rat) / (pt d.2 : Rat) := by
  have p := partsD h
  have hp := okS_parts p.ok
  have t := tenS_ok p.lo p.hi
  have hn := nval_ok hp.1
  have hP := pt_pos d.2
  have e : makeQ d.1 (tenS d.2) = lowQ d.1.1 (nval d.1.2).toNat (pt d.2).toNat := by
    unfold makeQ
    rw [if_pos ⟨p.ok, t.1⟩]
    have : nval (tenS d.2).2 = pt d.2 := t.2.1
    rw [this]
    show lowQ (d.1.1 != false) _ _ = _
    cases d.1.1 <;> rfl
  have hr : ratD d = (makeQ d.1 (tenS d.2)).1 := by unfold ratD; rw [if_pos h]
  have hab := valS_abs d.1 hp.1
  have hlt := num_lt p
  have h46 : bp 4 ≤ bp 6 := bp_mono (by omega)
  have h4 := pt_lt p.hi
  unfold numD at hlt
  obtain ⟨b1, b2, b3⟩ := low_bd (n := d.1.1) (a := (nval d.1.2).toNat) (b := (pt d.2).toNat) (m := 6) (by omega) (by omega) (by omega) (by omega)
  rw [hr, e]
  refine ⟨pair_eq b1, b2, b3.trans ?_⟩
  rw [Int.toNat_of_nonneg hn, Int.toNat_of_nonneg (by omega)]
  rfl
end Go.Proofs.YtofehcpapdlcnaaGreatDoor

namespace Go.Proofs.YtofehcpapdlcnaaGreatDoor
open Go.RowKit

/-- the four cells of a row, where the table lies -/
def RowCells (W : World) (g k : Nat) (r : CR) : Prop := W.cell? ⟨g, k * 4, none⟩ = some (.string r.1) ∧ W.cell? ⟨g, k * 4 + 1, none⟩ = some (.string r.2.1) ∧ W.cell? ⟨g, k * 4 + 2, none⟩ = some (.int .i64 r.2.2.1) ∧ W.cell? ⟨g, k * 4 + 3, none⟩ = some (.int .i64 r.2.2.2)
theorem rowCells_of {W : World} {g : Nat} {l : List CR} (h : W.rangeAt g 0 (cellsT l)) {k : Nat} (hk : k < l.length) : RowCells W g k l[k] := by
  have f : ∀ j (hj : j < 4) v, (cellsC l[k])[j]? = some v → W.cell? ⟨g, k * 4 + j, none⟩ = some v := fun j hj v hv => by
    have := h (k * 4 + j) v (by rw [cellsT_get l k j hk hj]; exact hv)
    rwa [Nat.zero_add] at this
  exact ⟨f 0 (by decide) _ rfl, f 1 (by decide) _ rfl, f 2 (by decide) _ rfl, f 3 (by decide) _ rfl⟩
theorem range_new (w : World) (l : List Value) (T : TypeId) : (w.alloc (.cells l.toArray T)).rangeAt w.heap.size 0 l := by
  intro j v hv
  have hb : (w.alloc (.cells l.toArray T)).heap[w.heap.size]? = some (.cells l.toArray T (0, 0)) := Array.getElem?_push_size
  rw [Nat.zero_add]
  unfold World.cell?
  simp only [hb]
  simpa using hv
theorem range_below {w W : World} {g : Nat} {l : List Value} (h : w.rangeAt g 0 l) (hg : g < w.heap.size) (hb : Below w.heap.size w W) : W.rangeAt g 0 l := fun j v hv => (hb.cell hg).trans (h j v hv)
def TabPost (w : World) (e : Ending) (w' : World) : Prop := e = .returned (.slice (some ⟨w.heap.size, 0, none⟩) 20 20) ∧ w' = w.alloc (.cells (cellsT specT).toArray 114)
set_option maxHeartbeats 1000000 in
set_option maxRecDepth 100000 in
theorem l08Table_any (w : World) : Calls Tryz.prog 171 #[] w (TabPost w) := by
  go_enter Tryz.func171, Tryz.ntmps171
  go_wp2
  go_ret
  exact ⟨rfl, rfl⟩
end Go.Proofs.YtofehcpapdlcnaaGreatDoor

namespace Go.Proofs.YtofehcpapdlcnaaGreatDoor
open Go.RowKit

def RowPost (r : CR) (w : World) (e : Ending) (w' : World) : Prop := e = .returned (.agg #[.string r.1, .string r.2.1, .int .i64 r.2.2.1, .int .i64 r.2.2.2]) ∧ Below w.heap.size w w'
theorem below_set4 {W0 W : World} {g : Nat} {a b c d : Value} (h : Below W0.heap.size W0 W) (hg : W0.heap.size ≤ g) : Below W0.heap.size W0 ((((W.setCell ⟨g, 0, none⟩ a).setCell ⟨g, 1, none⟩ b).setCell ⟨g, 2, none⟩ c).setCell ⟨g, 3, none⟩ d) :=
  (((h.setCell (p := ⟨g, 0, none⟩) hg _).setCell (p := ⟨g, 1, none⟩) hg _).setCell (p := ⟨g, 2, none⟩) hg _).setCell (p := ⟨g, 3, none⟩) hg _
set_option maxHeartbeats 1000000 in
set_option maxRecDepth 100000 in
theorem l08Find_any (n : ByteArray) (w : World) : Calls Tryz.prog 120 #[.string n] w (RowPost (rowOf specT n) w) := by
  have kr := box_new w #[.string ⟨#[]⟩, .string ⟨#[]⟩, .int .i64 0, .int .i64 0] 114
  have b0 := below_al (Below.refl w.heap.size w) (.cells #[.string ⟨#[]⟩, .string ⟨#[]⟩, .int .i64 0, .int .i64 0] 114)
  obtain ⟨W0, hW0⟩ : ∃ W0, W0 = w.alloc (.cells #[.string ⟨#[]⟩, .string ⟨#[]⟩, .int .i64 0, .int .i64 0] 114) := ⟨_, rfl⟩
  rw [← hW0] at kr b0
  have HW := Lib.hid hW0
  clear hW0
  go_enter Tryz.func120, Tryz.ntmps120
  go_wp2_with fail
  rw [← HW.out]
  refine (l08Table_any _).mono ?_
  rintro e w1 ⟨rfl, hw1⟩
  have b1 : Below W0.heap.size W0 w1 := by rw [hw1]; exact (Below.refl _ _).alloc (Nat.le_refl _) _
  have hr1 : w1.rangeAt W0.heap.size 0 (cellsT specT) := by rw [hw1]; exact range_new _ _ _
  have hg1 : W0.heap.size < w1.heap.size := by rw [hw1]; simp
  have HR := Lib.hid (show ∀ W, Below w1.heap.size w1 W → ∀ k (hk : k < 20), RowCells W W0.heap.size k (specT[k]'hk) from fun W hb k hk => rowCells_of (range_below hr1 hg1 hb) hk)
  have HK := Lib.hid (kr.below b1)
  have B1 := Lib.hid (Below.next b0 b1)
  generalize W0.heap.size = g at HR hg1
  clear hw1 hr1 b1 kr b0 HW
  go_wp2
  go_loopw [7] (fun i wr => ∃ k : Nat, k ≤ 20 ∧ i = .int .i64 k ∧ Hid (∀ r ∈ specT.take k, ¬ r.1 = n) ∧ Below w1.heap.size w1 wr) (fun i _ => 20 - (intOf i).toNat)
  case atStart => exact ⟨0, Nat.zero_le _, rfl, Lib.hid (fun r hr => absurd hr (by simp)), Below.refl _ _⟩
  case round =>
    obtain ⟨k, hk, rfl, hp, hb⟩ := hrel
    by_cases hlt : k < 20
    · have hix := HR.out wr hb k hlt
      have HM := Lib.hid (show specT[k] ∈ specT from List.getElem_mem _)
      have HN := Lib.hid (fun h => take_next hp.out (show k < specT.length from hlt) h)
      generalize specT[k] = r at hix HM HN
      obtain ⟨c, m, p, q⟩ := r
      obtain ⟨x0, x1, x2, x3⟩ := hix
      dsimp only at x0 x1 x2 x3
      have hal := below_al (Below.refl wr.heap.size wr) (.cells #[.string c, .string m, .int .i64 p, .int .i64 q] 114)
      by_cases he : c = n
      · subst he
        have hA := Lib.hid (rowOf_mem specT_codes HM.out)
        have ko := (HK.out.below hb).below hal
        have HB := Lib.hid (Below.next (Below.next B1.out hb) hal)
        have co0 := ko.here.cell 0 _ rfl
        have co1 := ko.here.cell 1 _ rfl
        have co2 := ko.here.cell 2 _ rfl
        have co3 := ko.here.cell 3 _ rfl
        have fo0 := Lib.frozen_of_heap ko.here 0
        have fo1 := Lib.frozen_of_heap ko.here 1
        have fo2 := Lib.frozen_of_heap ko.here 2
        have fo3 := Lib.frozen_of_heap ko.here 3
        clear HM HN hp ko hal
        go_wp2
        refine bodyPost_ret (v := .agg #[.string c, .string m, .int .i64 p, .int .i64 q]) (by simp [results, Tryz.results120, go_sem, co0, co1, co2, co3]) rfl ?_
        unfold RowPost
        rw [hA.out]
        exact ⟨rfl, below_set4 HB.out (Nat.le_refl _)⟩
      · have HN2 := Lib.hid (HN.out he)
        clear HM HN hp hal
        have hne := bytes_neC he
        go_wp2
        exact ⟨⟨k + 1, by omega, by go_num, HN2, hb.alloc (by have := hb.size; omega) _⟩, by simp [intOf]; omega⟩
    · obtain rfl : k = 20 := by omega
      have hA := Lib.hid (rowOf_none (l := specT) (n := n) (by rw [← List.take_of_length_le (l := specT) (i := 20) (by decide)]; exact hp.out))
      have ko := HK.out.below hb
      have HB := Lib.hid (Below.next B1.out hb)
      have co0 := ko.here.cell 0 _ rfl
      have co1 := ko.here.cell 1 _ rfl
      have co2 := ko.here.cell 2 _ rfl
      have co3 := ko.here.cell 3 _ rfl
      have fo0 := Lib.frozen_of_heap ko.here 0
      have fo1 := Lib.frozen_of_heap ko.here 1
      have fo2 := Lib.frozen_of_heap ko.here 2
      have fo3 := Lib.frozen_of_heap ko.here 3
      clear hp ko
      go_wp2
      refine bodyPost_ret (v := .agg #[.string ⟨#[]⟩, .string ⟨#[]⟩, .int .i64 0, .int .i64 0]) (by simp [results, Tryz.results120, go_sem, co0, co1, co2, co3]) rfl ?_
      unfold RowPost
      rw [hA.out]
      first | exact ⟨rfl, HB.out⟩ | exact ⟨rfl, below_set4 HB.out (Nat.le_refl _)⟩
theorem field_row0 (c m : ByteArray) (p q : Int) (W : World) : (Instr.field 114 (.agg #[.string c, .string m, .int .i64 p, .int .i64 q]) 0).run Tryz.prog W = .ok (.string c) W := by kernel_rfl
theorem empty_list : (⟨#[]⟩ : ByteArray).toList = [] := by rw [ByteArray.toList_eq]
theorem known_neq (n : ByteArray) : ((rowOf specT n).1.toList == ([] : List UInt8)) = !knownC n := by
  rw [← known_ne n]
  by_cases h : (rowOf specT n).1 = ⟨#[]⟩
  · rw [h, empty_list]; rfl
  · have h2 := bytes_neC h
    rw [empty_list] at h2
    rw [h2, decide_eq_true h]
    rfl
set_option maxHeartbeats 400000 in
set_option maxRecDepth 100000 in
theorem specCurKnown_any (n : ByteArray) (w : World) : Calls Tryz.prog 67 #[.string n] w (Postb (knownC n) w) := by
  go_enter Tryz.func67, Tryz.ntmps67
  go_wp2_with fail
  refine (l08Find_any n _).mono ?_
  rintro e w1 ⟨rfl, b1⟩
  have hk := known_neq n
  generalize rowOf specT n = r at *
  obtain ⟨c, m, p, q⟩ := r
  dsimp only at hk ⊢
  have hk2 : (c.toList != ([] : List UInt8)) = knownC n := by rw [bne, hk, Bool.not_not]
  generalize knownC n = b at *
  have hf := field_row0 c m p q
  go_wp2
  go_ret
  exact ⟨rfl, b1⟩
end Go.Proofs.YtofehcpapdlcnaaGreatDoor

namespace Go.Proofs.YtofehcpapdlcnaaGreatDoor
open Go.RowKit

/-- what a call answers that keeps the memory of its argument: an amount that leans on no other blocks, and a bool -/
def KeptM (S : List Nat) (R0 : MI) (R1 : Bool) (w : World) (e : Ending) (w' : World) : Prop :=
  ∃ (v : Value) (T : List Nat), e = .returned (.tuple #[v, .bool R1]) ∧ At T (OwnM v R0) w' ∧ (∀ i ∈ T, i ∈ S) ∧ Below w.heap.size w w'
theorem keptM_at {r : Nat} {S : List Nat} {c0 c1 c2 : Value} {x : MI} {b : Bool} {w W : World} (o : At S (OwnM (.agg #[c0, c1, c2]) x) W) (hS : ∀ i ∈ S, i < w.heap.size) (hr : w.heap.size ≤ r) (hW : Below w.heap.size w W) :
    KeptM S x b w (.returned (.tuple #[.agg #[c0, c1, c2], .bool b])) (((W.setCell ⟨r, 0, none⟩ c0).setCell ⟨r, 1, none⟩ c1).setCell ⟨r, 2, none⟩ c2) :=
  ⟨_, S, rfl, o.chg chg_set3M (fun i hi hm => by have := hS i hi; simp at hm; omega), fun i hi => hi, below_set3 hW hr⟩
theorem keptM_zero {S : List Nat} {w W : World} (hW : Below w.heap.size w W) : KeptM S zeroM false w (.returned (.tuple #[.agg #[.string ⟨#[]⟩, .bool false, .slice none 0 0], .bool false])) W :=
  ⟨_, [], rfl, atM_zero _, fun _ hi => absurd hi List.not_mem_nil, hW⟩
theorem keptM_eq {S : List Nat} {q p : MI × Bool} (e : q = p) {w w' : World} {n : Ending} (h : KeptM S q.1 q.2 w n w') : KeptM S p.1 p.2 w n w' := e ▸ h
set_option maxHeartbeats 1000000 in
set_option maxRecDepth 100000 in
theorem specMoneyOk_any (vm : Value) (m : MI) (w : World) (hl : m.2.2.length ≤ 1048576) (hm : OwnM vm m w) :
    Calls Tryz.prog 29 #[vm] w (Postb (okM m) w) := by
  have Hm := Lib.hid hm
  obtain ⟨Am, cm, rfl⟩ := ownM_form hm
  have OMm := Lib.hid (show ∀ W, Below w.heap.size w W → OwnM (.agg #[.string m.1, .bool m.2.1, .slice Am m.2.2.length cm]) m W from fun W hb => OwnM.below Hm.out hb)
  have OIm := Lib.hid (show ∀ W, Below w.heap.size w W → OwnI (.slice Am m.2.2.length cm) m.2.2 W from fun W hb => ownM_open (OMm.out W hb))
  have OSm := Lib.hid (show ∀ W, Below w.heap.size w W → OwnS (.agg #[.bool m.2.1, .slice Am m.2.2.length cm]) m.2 W from fun W hb => OwnS.mk (OIm.out W hb))
  clear hm
  have bb0 : Below w.heap.size w (w.alloc (.cells #[.string m.1, .bool m.2.1, .slice Am m.2.2.length cm] 33)) := below_al (Below.refl _ _) _
  have km := (box_new w #[.string m.1, .bool m.2.1, .slice Am m.2.2.length cm] 33)
  go_enter Tryz.func29, Tryz.ntmps29
  have km_c0 := km.here.cell 0 _ rfl
  have km_c1 := km.here.cell 1 _ rfl
  have km_c2 := km.here.cell 2 _ rfl
  go_wp2_with fail
  clear km_c0 km_c1 km_c2
  refine (specCurKnown_any m.1 _).mono ?_
  rintro e w1 ⟨rfl, b1⟩
  have bb1 := Below.next bb0 b1
  replace km := km.below b1
  by_cases ok0 : knownC m.1 = true
  · rw [ok0]
    have HO0 := Lib.hid ok0
    clear ok0
    have km_c0 := km.here.cell 0 _ rfl
    have km_c1 := km.here.cell 1 _ rfl
    have km_c2 := km.here.cell 2 _ rfl
    go_wp2_with fail
    clear km_c0 km_c1 km_c2
    refine (specIntOk_any _ m.2 _ hl (OwnS.rd (OSm.out _ bb1))).mono ?_
    rintro e w2 ⟨rfl, b2⟩
    have bb2 := Below.next bb1 b2
    replace km := km.below b2
    by_cases ok1 : okS m.2 = true
    · rw [ok1]
      have HO1 := Lib.hid ok1
      clear ok1
      have HV := Lib.hid (show okM m = decide ((m.2.2.length : Int) ≤ 4) by unfold okM; rw [HO0.out, HO1.out, Bool.true_and, Bool.true_and, decide_eq_decide]; omega)
      have km_c0 := km.here.cell 0 _ rfl
      have km_c1 := km.here.cell 1 _ rfl
      have km_c2 := km.here.cell 2 _ rfl
      clear hl
      go_wp2
      go_ret
      exact ⟨ret_bool HV.out.symm, bb2⟩
    · have ok1' : okS m.2 = false := by simpa using ok1
      have HV := Lib.hid (show okM m = false by unfold okM; rw [ok1', Bool.and_false, Bool.false_and])
      rw [ok1']
      clear ok1 ok1'
      go_wp2
      go_ret
      exact ⟨ret_bool HV.out.symm, bb2⟩
  · have ok0' : knownC m.1 = false := by simpa using ok0
    have HV := Lib.hid (show okM m = false by unfold okM; rw [ok0', Bool.false_and, Bool.false_and])
    rw [ok0']
    clear ok0 ok0'
    go_wp2
    go_ret
    exact ⟨ret_bool HV.out.symm, bb1⟩
set_option maxHeartbeats 1000000 in
set_option maxRecDepth 100000 in
theorem l09Make_any (cu : ByteArray) (vx : Value) (x : SI) (S : List Nat) (w : World) (hl : x.2.length ≤ 1048576) (hx : At S (OwnS vx x) w) :
    Calls Tryz.prog 77 #[.string cu, vx] w (KeptM S (makeM cu x).1 (makeM cu x).2 w) := by
  obtain ⟨Ax, cx, rfl⟩ := ownS_form hx.here
  have OX := Lib.hid (show ∀ W, Below w.heap.size w W → At S (OwnM (.agg #[.string cu, .bool x.1, .slice Ax x.2.length cx]) (cu, x)) W from fun W hb => (hx.below hb).imp fun _ h => OwnM.mk (q := (cu, x)) (ownS_openM h))
  have HLT := Lib.hid hx.lt
  clear hx
  have bb0 : Below w.heap.size w ((w.alloc (.cells #[.bool x.1, .slice Ax x.2.length cx] 31)).alloc (.cells #[.string ⟨#[]⟩, .bool false, .slice none 0 0] 33)) := below_al (below_al (Below.refl _ _) _) _
  have kx := (box_new w #[.bool x.1, .slice Ax x.2.length cx] 31).below (below_al (Below.refl _ _) (.cells #[.string ⟨#[]⟩, .bool false, .slice none 0 0] 33))
  have ko := (box_new (w.alloc (.cells #[.bool x.1, .slice Ax x.2.length cx] 31)) #[.string ⟨#[]⟩, .bool false, .slice none 0 0] 33)
  rw [show (w.alloc (.cells #[.bool x.1, .slice Ax x.2.length cx] 31)).heap.size = w.heap.size + 1 by simp] at ko
  have kd := box_new (((w.alloc (.cells #[.bool x.1, .slice Ax x.2.length cx] 31)).alloc (.cells #[.string ⟨#[]⟩, .bool false, .slice none 0 0] 33))) #[.string cu, .bool x.1, .slice Ax x.2.length cx] 33
  have ald := below_al (Below.refl (((w.alloc (.cells #[.bool x.1, .slice Ax x.2.length cx] 31)).alloc (.cells #[.string ⟨#[]⟩, .bool false, .slice none 0 0] 33))).heap.size (((w.alloc (.cells #[.bool x.1, .slice Ax x.2.length cx] 31)).alloc (.cells #[.string ⟨#[]⟩, .bool false, .slice none 0 0] 33)))) (.cells #[.string cu, .bool x.1, .slice Ax x.2.length cx] 33)
  have bbd := Below.next bb0 ald
  replace kx := kx.below ald
  replace ko := ko.below ald
  rw [show ((w.alloc (.cells #[.bool x.1, .slice Ax x.2.length cx] 31)).alloc (.cells #[.string ⟨#[]⟩, .bool false, .slice none 0 0] 33)).heap.size = w.heap.size + 1 + 1 by simp] at kd
  go_enter Tryz.func77, Tryz.ntmps77
  have kx_c0 := kx.here.cell 0 _ rfl
  have kx_c1 := kx.here.cell 1 _ rfl
  have kd_c0 := kd.here.cell 0 _ rfl
  have kd_c1 := kd.here.cell 1 _ rfl
  have kd_c2 := kd.here.cell 2 _ rfl
  go_wp2_with fail
  clear kx_c0 kx_c1 kd_c0 kd_c1 kd_c2
  refine (specMoneyOk_any _ (cu, x) _ hl (OX.out _ bbd).here).mono ?_
  rintro e w1 ⟨rfl, b1⟩
  have bb1 := Below.next bbd b1
  replace kx := kx.below b1
  replace ko := ko.below b1
  replace kd := kd.below b1
  by_cases ok : okM (cu, x) = true
  · rw [ok]
    have HV := Lib.hid (show makeM cu x = ((cu, x), true) by unfold makeM; rw [if_pos ok])
    clear ok kx
    have HW := Lib.hid (keptM_at (r := w.heap.size + 1) (b := true) (OX.out _ bb1) HLT.out (by omega) bb1)
    have kd_c0 := kd.here.cell 0 _ rfl
    have kd_c1 := kd.here.cell 1 _ rfl
    have kd_c2 := kd.here.cell 2 _ rfl
    have cz0 := ko.here.cell 0 _ rfl
    have fz0 := Lib.frozen_of_heap ko.here 0
    have cz1 := ko.here.cell 1 _ rfl
    have fz1 := Lib.frozen_of_heap ko.here 1
    have cz2 := ko.here.cell 2 _ rfl
    have fz2 := Lib.frozen_of_heap ko.here 2
    clear kd ko
    go_wp2
    refine bodyPost_ret (v := .tuple #[.agg #[.string cu, .bool x.1, .slice Ax x.2.length cx], .bool true]) (by simp [results, Tryz.results77, go_sem, cz0, cz1, cz2]) rfl ?_
    rw [HV.out]
    exact HW.out
  · have ok' : okM (cu, x) = false := by simpa using ok
    have HV := Lib.hid (show makeM cu x = (zeroM, false) by unfold makeM; rw [if_neg ok])
    rw [ok']
    clear ok ok' kx kd
    have cz0 := ko.here.cell 0 _ rfl
    have fz0 := Lib.frozen_of_heap ko.here 0
    have cz1 := ko.here.cell 1 _ rfl
    have fz1 := Lib.frozen_of_heap ko.here 1
    have cz2 := ko.here.cell 2 _ rfl
    have fz2 := Lib.frozen_of_heap ko.here 2
    go_wp2
    refine bodyPost_ret (v := .tuple #[.agg #[.string ⟨#[]⟩, .bool false, .slice none 0 0], .bool false]) (by simp [results, Tryz.results77, go_sem, cz0, cz1, cz2]) rfl ?_
    rw [HV.out]
    first | exact keptM_zero bb1 | exact keptM_zero (below_set3 bb1 (by omega))
end Go.Proofs.YtofehcpapdlcnaaGreatDoor
