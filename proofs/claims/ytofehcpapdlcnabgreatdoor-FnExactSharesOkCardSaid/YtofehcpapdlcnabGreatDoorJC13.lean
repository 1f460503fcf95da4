/-
  LawShares
-/
import Derived.Deep.DeepCutAuto
import Derived.Deep.RegionHeld3
import Derived.Test.YtofehcpapdlcnabGreatDoorJC12
namespace Go.Proofs.YtofehcpapdlcnabGreatDoor
open Go.RowKit

set_option maxHeartbeats 4000000 in
set_option maxRecDepth 100000 in
theorem lawShares_walk (vx vws : Value) (x : SI) (ws : List Int) (R0 : List SI) (R1 : Bool) (w : World)
    (hS : ∀ (ux uws : Value) (W : World), OwnS ux x W → OwnI uws ws W → Calls Tryz.prog 17 #[ux, uws] W (PostLb R0 R1 W))
    (hI : ∀ (ux uws : Value) (W : World), OwnS ux x W → OwnI uws ws W → Sen W → Calls Tryz.prog 18 #[ux, uws] W (PostLb R0 R1 W))
    (ht0 : Sen w) (hl : szS x ≤ 1048576) (hlws : ws.length ≤ 1048576) (hlR0 : mkL R0 ≤ 1048576) (hxR0 : ∀ y ∈ R0, y.2.length ≤ 9223372036854775807) (rx : RdS w vx x) (rws : Row w 0 w.heap.size vws (intsV ws)) :
    Calls Tryz.prog 4 #[vx, vws] w fun e w' => e = .returned (.bool true) ∧ Below w.heap.size w w' := by
  have HS := Lib.hid hS
  have HI := Lib.hid hI
  clear hS hI
  have HT0 := Lib.hid ht0
  clear ht0
  have hsx := szS_nonneg x
  have hsR0 := mkL_nonneg R0
  have HXR0 := Lib.hid hxR0
  clear hxR0
  have hzx : szS x ≤ 1048576 := by omega
  obtain ⟨Ax, cx, rfl⟩ := rdS_form rx
  have hwlws : ¬ (1048576 : Int) < (ws.length : Int) := by omega
  obtain ⟨Aws, cws, rfl⟩ := row_form rws
  rw [intsV_length] at rws ⊢
  have RFws : Hid (∀ W, Below w.heap.size w W → Row W 0 w.heap.size (.slice Aws ws.length cws) (intsV ws)) := Lib.hid fun W hb => rws.below hb (Nat.le_refl _)
  have bb0 : Below w.heap.size w (w.alloc (.cells #[.bool x.1, .slice Ax x.2.length cx] 24)) := below_al (Below.refl _ _) _
  have kx := box_new w #[.bool x.1, .slice Ax x.2.length cx] 24
  have RFx : Hid (∀ W, Below w.heap.size w W → RdS W (.agg #[.bool x.1, .slice Ax x.2.length cx]) x) := Lib.hid fun W hb => rx.below hb
  go_enter Tryz.func4, Tryz.ntmps4
  have kx_c0 := kx.here.cell 0 _ rfl
  have kx_c1 := kx.here.cell 1 _ rfl
  go_wp2_with fail
  clear kx_c0 kx_c1
  refine (szS_cal _ x (1048576) _ (capS_of hzx) (by omega) (by omega) (RFx.out _ bb0)).mono ?_
  rintro e w1 ⟨rfl, b1⟩
  rw [leftI_of (by omega)]
  have bb1 := Below.next bb0 b1
  replace kx := kx.below b1
  have hn : decide (((1048576 : Int) - szS x : Int) < 0) = false := decide_eq_false (by omega)
  have HKx := Lib.hid (kx.lt (w.heap.size) (by simp))
  have kx_c0 := kx.here.cell 0 _ rfl
  have kx_c1 := kx.here.cell 1 _ rfl
  go_wp2_with fail
  refine (toS_new _ x _ hzx (RFx.out _ bb1)).mono ?_
  rintro e wt0 ⟨ut0, St0, rfl, ot0, lt0, bt0⟩
  obtain ⟨At0, ct0, rfl⟩ := ownS_form ot0.here
  have bbt0 := Below.next bb1 bt0
  go_wp2_with fail
  refine (toIntS_at _ ws 0 w.heap.size _ (by have := (bbt0).size; omega) (by omega) (RFws.out _ bbt0)).mono ?_
  rintro e wt1 ⟨ut1, St1, rfl, ot1, lt1, bt1⟩
  obtain ⟨At1, ct1, rfl⟩ := own_len ot1.here
  replace ot0 := ot0.below bt1
  have bbt1 := Below.next bbt0 bt1
  have bct1 := Below.next bt0 bt1
  clear kx_c0 kx_c1
  go_wp2_with fail
  refine (HS.out _ _ _ ot0.here ot1.here).mono ?_
  rintro e w2 ⟨uw0, Sw0, rfl, ow0, lw0, bf⟩
  obtain ⟨Aw0, cw0, rfl⟩ := ownLP_form ow0.here
  have b2 := Below.next bct1 bf
  have bb2 := Below.next bb1 b2
  replace kx := kx.below b2
  have kx_c0 := kx.here.cell 0 _ rfl
  have kx_c1 := kx.here.cell 1 _ rfl
  go_upto_region 8 with fail
  go_cut [8] (fun s wx => NewLocV 29 (fun v => OwnS v x) w2 s wx)
  case first =>
    go_wp2_with fail
    refine (toS_new _ x _ hzx (RFx.out _ bb2)).mono ?_
    rintro e wt ⟨ut, St, rfl, ot, lt, bt⟩
    obtain ⟨At, ct, rfl⟩ := ownS_form ot.here
    go_wp2_with fail
    go_meet
    exact newLocV_last ot lt (Nat.le_refl _) bt
  rename World => w3
  clear kx_c0 kx_c1
  obtain ⟨gxx, csxx, Sxx, rfl, kxx, oxx, nxx, lxx, b3⟩ := hcut
  obtain ⟨Axx, cxx, exx⟩ := ownS_form oxx.here
  injection exx with exx
  subst exx
  have bb3 := Below.next bb2 b3
  replace kx := kx.below b3
  replace ow0 := ow0.below b3
  go_wp2_with fail
  refine (toIntS_at _ ws 0 w.heap.size _ (by have := (bb3).size; omega) (by omega) (RFws.out _ bb3)).mono ?_
  rintro e w4 ⟨uxws, Sxws, rfl, oxws, lxws, b4⟩
  obtain ⟨Axws, cxws, rfl⟩ := own_len oxws.here
  have bb4 := Below.next bb3 b4
  replace kx := kx.below b4
  replace ow0 := ow0.below b4
  replace kxx := kxx.below b4
  replace oxx := oxx.below b4
  have kxx_c0 := kxx.here.cell 0 _ rfl
  have kxx_c1 := kxx.here.cell 1 _ rfl
  go_wp2_with fail
  clear kxx_c0 kxx_c1
  refine (HI.out _ _ _ oxx.here oxws.here (HT0.out.below bb4)).mono ?_
  rintro e w5 ⟨ug0, Sg0, rfl, og0, lg0, b5⟩
  obtain ⟨Ag0, cg0, rfl⟩ := ownLP_form og0.here
  have bb5 := Below.next bb4 b5
  replace kx := kx.below b5
  replace ow0 := ow0.below b5
  replace kxx := kxx.below b5
  replace oxx := oxx.below b5
  replace oxws := oxws.below b5
  go_wp2_with fail
  refine (eqSignedS_any _ _ R0 R0 _ (by have := mkL_len R0; omega) HXR0.out (OwnR.rd (OwnLP.ownR og0.here)) (OwnR.rd (OwnLP.ownR ow0.here))).mono ?_
  rintro e w6 ⟨rfl, b6⟩
  rw [decide_refl]
  have bb6 := Below.next bb5 b6
  replace kx := kx.below b6
  replace ow0 := ow0.below b6
  replace kxx := kxx.below b6
  replace oxx := oxx.below b6
  replace oxws := oxws.below b6
  replace og0 := og0.below b6
  have kx_c0 := kx.here.cell 0 _ rfl
  have kx_c1 := kx.here.cell 1 _ rfl
  have kxx_c0 := kxx.here.cell 0 _ rfl
  have kxx_c1 := kxx.here.cell 1 _ rfl
  go_wp2_with fail
  have HB0 := Lib.hid (show Below w6.heap.size w6 w6.drew from (Below.refl _ _).drew)
  have KL := Lib.hid (show ∀ W, Below w6.heap.size w6 W → W.cell? ⟨w.heap.size, 0, none⟩ = some (.bool x.1) ∧ W.cell? ⟨w.heap.size, 1, none⟩ = some (.slice Ax x.2.length cx) ∧ W.cell? ⟨gxx, 0, none⟩ = some (.bool x.1) ∧ W.cell? ⟨gxx, 1, none⟩ = some (.slice Axx x.2.length cxx) ∧ Hid (Below w6.heap.size w6 W) from
    fun W hb => ⟨(kx.below hb).here.cell 0 _ rfl, (kx.below hb).here.cell 1 _ rfl, (kxx.below hb).here.cell 0 _ rfl, (kxx.below hb).here.cell 1 _ rfl, Lib.hid hb⟩)
  have BBF := Lib.hid (show ∀ W, Below w6.heap.size w6 W → Below w.heap.size w W from fun W hb => Below.next bb6 hb)
  have OXF := Lib.hid (show ∀ W, Below w6.heap.size w6 W → OwnS (.agg #[.bool x.1, .slice Axx x.2.length cxx]) x W from fun W hb => (oxx.below hb).here)
  clear kx_c0 kx_c1 kxx_c0 kxx_c1
  go_region_held3 (fun W => W.cell? ⟨w.heap.size, 0, none⟩ = some (.bool x.1) ∧ W.cell? ⟨w.heap.size, 1, none⟩ = some (.slice Ax x.2.length cx) ∧ W.cell? ⟨gxx, 0, none⟩ = some (.bool x.1) ∧ W.cell? ⟨gxx, 1, none⟩ = some (.slice Axx x.2.length cxx) ∧ Hid (Below w6.heap.size w6 W))
    ((refine KL.out _ ?_; (first | exact HBe.out | exact HBt.out | exact HB0.out | fail)))
    (first
      | (go_at_call 10; (have hBB := (‹_ ∧ _ ∧ _ ∧ _ ∧ Hid (Below w6.heap.size w6 _)›).2.2.2.2); (with_reducible refine (toS_new _ x _ hzx (RFx.out _ (BBF.out _ hBB.out))).mono ?_); rintro e wt ⟨t, St, rfl, ot, lt, bt⟩; have HBt := Lib.hid (Below.next hBB.out bt); clear hBB)
      | (go_at_call 14; (have hBB := (‹_ ∧ _ ∧ _ ∧ _ ∧ Hid (Below w6.heap.size w6 _)›).2.2.2.2); (with_reducible refine (eqS_cal _ _ x x _ (capS_of hzx) (OwnS.rd (OXF.out _ hBB.out)) (OwnS.rd ot.here)).mono ?_); rintro e w7 ⟨rfl, be⟩; rw [decide_refl]; have HBe := Lib.hid (Below.next hBB.out be); clear hBB))
  have b7 := HBe.out
  have bb7 := Below.next bb6 b7
  replace kx := kx.below b7
  replace ow0 := ow0.below b7
  replace kxx := kxx.below b7
  replace oxx := oxx.below b7
  replace oxws := oxws.below b7
  replace og0 := og0.below b7
  clear HB0 KL BBF OXF HBt HBe ot lt
  go_wp2_with fail
  refine (toIntS_at _ ws 0 w.heap.size _ (by have := (bb7).size; omega) (by omega) (RFws.out _ bb7)).mono ?_
  rintro e wt ⟨ut, St, rfl, ot, lt, bt⟩
  obtain ⟨At, ct, rfl⟩ := own_len ot.here
  go_wp2_with fail
  refine (eqIntS_at _ _ ws ws _ (by omega) (oxws.below bt).here ot.here).mono ?_
  rintro e w8 ⟨rfl, be⟩
  rw [decide_refl]
  have b8 := Below.next bt be
  have bb8 := Below.next bb7 b8
  replace kx := kx.below b8
  replace ow0 := ow0.below b8
  replace kxx := kxx.below b8
  replace oxx := oxx.below b8
  replace oxws := oxws.below b8
  replace og0 := og0.below b8
  clear ot lt be bt
  have z1 := b1.size
  have z2 := b2.size
  have z3 := b3.size
  have z4 := b4.size
  have z5 := b5.size
  have z6 := b6.size
  have z7 := b7.size
  have z8 := b8.size
  have AP_xx_xws := Lib.hid (Within.apart lxx lxws (.inl (by omega)))
  have AP_xx_g0 := Lib.hid (Within.apart lxx lg0 (.inl (by omega)))
  have AP_xws_g0 := Lib.hid (Within.apart lxws lg0 (.inl (by omega)))
  have AP_w0_xx := Lib.hid (Within.apart lw0 lxx (.inl (by omega)))
  have AP_w0_xws := Lib.hid (Within.apart lw0 lxws (.inl (by omega)))
  have AP_w0_g0 := Lib.hid (Within.apart lw0 lg0 (.inl (by omega)))
  have F_xx := Lib.hid (Within.from (B := w.heap.size) lxx (by have := bb1.size; omega))
  have N_xx := Lib.hid nxx
  have KX_x_xx := Lib.hid (show ∀ i ∈ [w.heap.size], i ∉ gxx :: Sxx from fun i hi hm => by have h1 := (lxx i hm).1; have h2 := HKx.out; simp at hi; omega)
  have F_xws := Lib.hid (Within.from (B := w.heap.size) lxws (by have := bb1.size; omega))
  have KX_x_xws := Lib.hid (show ∀ i ∈ [w.heap.size], i ∉ Sxws from fun i hi hm => by have h1 := (lxws i hm).1; have h2 := HKx.out; simp at hi; omega)
  have F_g0 := Lib.hid (Within.from (B := w.heap.size) lg0 (by have := bb1.size; omega))
  have KX_x_g0 := Lib.hid (show ∀ i ∈ [w.heap.size], i ∉ Sg0 from fun i hi hm => by have h1 := (lg0 i hm).1; have h2 := HKx.out; simp at hi; omega)
  clear z1 z2 z3 z4 z5 z6 z7 z8
  have kxx_c0 := kxx.here.cell 0 _ rfl
  have kxx_c1 := kxx.here.cell 1 _ rfl
  go_wp2_with fail
  clear kxx_c0 kxx_c1
  refine (markS_cal _ x _ (1) _ (by omega) (by omega) oxx).mono ?_
  rintro e w9 ⟨rfl, mkxx, c9⟩
  clear oxx
  have bb9 := below_chg bb8 c9 bb8.size (fun i hi => F_xx.out i (List.mem_cons_of_mem _ hi))
  replace kx := kx.chg c9 (fun i hi hm => KX_x_xx.out i hi (List.mem_cons_of_mem _ hm))
  replace ow0 := ow0.chg c9 (fun i hi hm => AP_w0_xx.out i hi (List.mem_cons_of_mem _ hm))
  replace kxx := kxx.chg c9 (fun i hi hm => by simp at hi; subst hi; exact N_xx.out hm)
  replace oxws := oxws.chg c9 (fun i hi hm => (apart_symm AP_xx_xws.out) i hi (List.mem_cons_of_mem _ hm))
  replace og0 := og0.chg c9 (fun i hi hm => (apart_symm AP_xx_g0.out) i hi (List.mem_cons_of_mem _ hm))
  have hsiws : szI ws = ws.length := rfl
  go_wp2_with fail
  refine (markIntS_at _ ws _ (1 + szS x) _ (by omega) (by omega) oxws).mono ?_
  rintro e w10 ⟨rfl, mkxws, c10⟩
  clear oxws
  have bb10 := below_chg bb9 c10 bb9.size (fun i hi => F_xws.out i hi)
  replace kx := kx.chg c10 (fun i hi hm => KX_x_xws.out i hi hm)
  replace ow0 := ow0.chg c10 (fun i hi hm => AP_w0_xws.out i hi hm)
  replace kxx := kxx.chg c10 (fun i hi hm => AP_xx_xws.out i (by simp at hi; subst hi; exact List.mem_cons_self ..) hm)
  replace og0 := og0.chg c10 (fun i hi hm => (apart_symm AP_xws_g0.out) i hi hm)
  replace mkxx := mkxx.chg c10 (fun i hi hm => AP_xx_xws.out i (List.mem_cons_of_mem _ hi) hm)
  have hk : decide (((1 + szS x + szI ws) : Int) < 0) = false := decide_eq_false (by omega)
  go_wp2_with fail
  refine (eqSignedS_any _ _ R0 R0 _ (by have := mkL_len R0; omega) HXR0.out (OwnR.rd (OwnLP.ownR og0.here)) (OwnR.rd (OwnLP.ownR ow0.here))).mono ?_
  rintro e w11 ⟨rfl, b11⟩
  rw [decide_refl]
  have bb11 := Below.next bb10 b11
  replace kx := kx.below b11
  replace ow0 := ow0.below b11
  replace kxx := kxx.below b11
  replace og0 := og0.below b11
  replace mkxx := mkxx.below b11
  replace mkxws := mkxws.below b11
  clear hk
  go_wp2_with fail
  refine (markLP_cal _ R0 _ (1) _ (by omega) (by omega) og0).mono ?_
  rintro e w12 ⟨rfl, mkg0, c12⟩
  clear og0
  have bb12 := below_chg bb11 c12 bb11.size (fun i hi => F_g0.out i hi)
  replace kx := kx.chg c12 (fun i hi hm => KX_x_g0.out i hi hm)
  replace ow0 := ow0.chg c12 (fun i hi hm => AP_w0_g0.out i hi hm)
  replace kxx := kxx.chg c12 (fun i hi hm => AP_xx_g0.out i (by simp at hi; subst hi; exact List.mem_cons_self ..) hm)
  replace mkxx := mkxx.chg c12 (fun i hi hm => AP_xx_g0.out i (List.mem_cons_of_mem _ hi) hm)
  replace mkxws := mkxws.chg c12 (fun i hi hm => AP_xws_g0.out i hi hm)
  go_wp2_with fail
  refine (heldLP_cal _ R0 (1) _ (by omega) (by omega) mkg0.here).mono ?_
  rintro e w13 ⟨rfl, b13⟩
  have bb13 := Below.next bb12 b13
  replace kx := kx.below b13
  replace ow0 := ow0.below b13
  replace kxx := kxx.below b13
  replace mkxx := mkxx.below b13
  replace mkxws := mkxws.below b13
  replace mkg0 := mkg0.below b13
  have hq13 : decide ((1 : Int) + mkL R0 < 0) = false := decide_eq_false (by omega)
  have kx_c0 := kx.here.cell 0 _ rfl
  have kx_c1 := kx.here.cell 1 _ rfl
  go_wp2_with fail
  refine (toS_new _ x _ hzx (RFx.out _ bb13)).mono ?_
  rintro e wt0 ⟨ut0, St0, rfl, ot0, lt0, bt0⟩
  obtain ⟨At0, ct0, rfl⟩ := ownS_form ot0.here
  have bbt0 := Below.next bb13 bt0
  go_wp2_with fail
  refine (toIntS_at _ ws 0 w.heap.size _ (by have := (bbt0).size; omega) (by omega) (RFws.out _ bbt0)).mono ?_
  rintro e wt1 ⟨ut1, St1, rfl, ot1, lt1, bt1⟩
  obtain ⟨At1, ct1, rfl⟩ := own_len ot1.here
  replace ot0 := ot0.below bt1
  have bbt1 := Below.next bbt0 bt1
  have bct1 := Below.next bt0 bt1
  clear kx_c0 kx_c1
  go_wp2_with fail
  refine (HI.out _ _ _ ot0.here ot1.here (HT0.out.below bbt1)).mono ?_
  rintro e w14 ⟨uh0, Sh0, rfl, oh0, lh0, bf⟩
  obtain ⟨Ah0, ch0, rfl⟩ := ownLP_form oh0.here
  have b14 := Below.next bct1 bf
  have bb14 := Below.next bb13 b14
  replace kx := kx.below b14
  replace ow0 := ow0.below b14
  replace kxx := kxx.below b14
  replace mkxx := mkxx.below b14
  replace mkxws := mkxws.below b14
  replace mkg0 := mkg0.below b14
  go_wp2_with fail
  refine (eqSignedS_any _ _ R0 R0 _ (by have := mkL_len R0; omega) HXR0.out (OwnR.rd (OwnLP.ownR oh0.here)) (OwnR.rd (OwnLP.ownR ow0.here))).mono ?_
  rintro e w15 ⟨rfl, b15⟩
  rw [decide_refl]
  have bb15 := Below.next bb14 b15
  replace kx := kx.below b15
  replace ow0 := ow0.below b15
  replace kxx := kxx.below b15
  replace mkxx := mkxx.below b15
  replace mkxws := mkxws.below b15
  replace mkg0 := mkg0.below b15
  replace oh0 := oh0.below b15
  go_wp2_with fail
  refine (heldLP_cal _ R0 (1) _ (by omega) (by omega) mkg0.here).mono ?_
  rintro e w16 ⟨rfl, b16⟩
  have bb16 := Below.next bb15 b16
  replace kx := kx.below b16
  replace ow0 := ow0.below b16
  replace kxx := kxx.below b16
  replace mkxx := mkxx.below b16
  replace mkxws := mkxws.below b16
  replace mkg0 := mkg0.below b16
  replace oh0 := oh0.below b16
  have hq16 : decide ((1 : Int) + mkL R0 < 0) = false := decide_eq_false (by omega)
  go_wp2
  go_ret
  exact ⟨rfl, bb16⟩
set_option maxHeartbeats 1000000 in
set_option maxRecDepth 100000 in
theorem lawShares (vx vws : Value) (x : SI) (ws : List Int) (w : World)
    (hI : szS x ≤ 1048576 → ws.length ≤ 1048576 → ∀ (ux uws : Value) (W : World), OwnS ux x W → OwnI uws ws W → Sen W → Calls Tryz.prog 18 #[ux, uws] W (PostLb ((sharesR x ws).1) ((sharesR x ws).2) W))
    (hcx : capS x) (hcl : (ws.length : Int) ≤ 9223372036854775807) (ht0 : Sen w) (rx : RdS w vx x) (rws : Row w 0 w.heap.size vws (intsV ws)) :
    Calls Tryz.prog 4 #[vx, vws] w fun e w' => e = .returned (.bool true) ∧ Below w.heap.size w w' := by
  have hsx := szS_nonneg x
  by_cases hlws : ws.length ≤ 1048576
  case neg =>
    have hwl : ¬ (ws.length : Int) ≤ 1048576 := by omega
    have hwl2 : (1048576 : Int) < ws.length := by omega
    obtain ⟨Ax, cx, rfl⟩ := rdS_form rx
    obtain ⟨Aws, cws, rfl⟩ := row_form rws
    rw [intsV_length] at rws ⊢
    have bb0 : Below w.heap.size w (w.alloc (.cells #[.bool x.1, .slice Ax x.2.length cx] 24)) := below_al (Below.refl _ _) _
    have kx := box_new w #[.bool x.1, .slice Ax x.2.length cx] 24
    go_enter Tryz.func4, Tryz.ntmps4
    go_wp2
    go_ret
    exact ⟨rfl, bb0⟩
  case pos =>
    have hwlws : ¬ (1048576 : Int) < (ws.length : Int) := by omega
    by_cases hl : szS x ≤ 1048576
    case neg =>
      have RF := rx
      obtain ⟨Ax, cx, rfl⟩ := rdS_form rx
      obtain ⟨Aws, cws, rfl⟩ := row_form rws
      rw [intsV_length] at rws ⊢
      have bb0 : Below w.heap.size w (w.alloc (.cells #[.bool x.1, .slice Ax x.2.length cx] 24)) := below_al (Below.refl _ _) _
      have kx := box_new w #[.bool x.1, .slice Ax x.2.length cx] 24
      go_enter Tryz.func4, Tryz.ntmps4
      have kx_c0 := kx.here.cell 0 _ rfl
      have kx_c1 := kx.here.cell 1 _ rfl
      go_wp2_with fail
      clear kx_c0 kx_c1
      refine (szS_cal _ x (1048576) _ hcx (by omega) (by omega) (rx.below bb0)).mono ?_
      rintro e w1 ⟨rfl, b1⟩
      have bb1 := Below.next bb0 b1
      replace kx := kx.below b1
      rw [show leftI (1048576) (szS x) = -1 by unfold leftI; rw [if_pos (by omega)]]
      go_wp2
      go_ret
      exact ⟨rfl, bb1⟩
    case pos =>
      exact lawShares_walk vx vws x ws ((sharesR x ws).1) ((sharesR x ws).2) w (fun ux uws W hx hws => (specShares_any ux uws x ws 0 W.heap.size W (by unfold szS szI at hl; omega) hlws (Nat.le_refl _) hx (OwnI.row hws)).mono fun _ _ h => sharesPost_lb h) (hI hl hlws ) ht0 hl  hlws (sharesR_mk x ws) (sharesR_big x ws) rx rws 
end Go.Proofs.YtofehcpapdlcnabGreatDoor
