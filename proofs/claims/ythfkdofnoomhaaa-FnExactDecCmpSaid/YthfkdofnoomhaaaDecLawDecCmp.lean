/-
  The law FnExactDecCmp of chapter 8, walked: it returns true wherever both packages answer alike.
-/
import Derived.Test.YthfkdofnoomhaaaDec
import Derived.Deep.RegionHeld3
import Derived.Deep.DeepCutAuto
namespace Go.Proofs.Ythfkdofnoomhaaa
open Go.RowKit

set_option maxHeartbeats 4000000 in
set_option maxRecDepth 100000 in
theorem lawDecCmp_walk (va : Value) (vb : Value) (a : DI) (b : DI) (R0 : Int) (w : World)
    (hS : ∀ (ua : Value) (ub : Value) (W : World), OwnD ua a W → OwnD ub b W → Calls Try.prog 21 #[ua, ub] W (Postn R0 W))
    (hI : ∀ (ua : Value) (ub : Value) (W : World), OwnD ua a W → OwnD ub b W → Calls Try.prog 22 #[ua, ub] W (Postn R0 W))
    (hl : szD a + szD b ≤ 1048576) (ra : RdD w va a) (rb : RdD w vb b) :
    Calls Try.prog 7 #[va, vb] w fun e w' => e = .returned (.bool true) ∧ Below w.heap.size w w' := by
  have HS := Lib.hid hS
  have HI := Lib.hid hI
  clear hS hI
  have hsa := szD_nonneg a
  have hsb := szD_nonneg b
  have hza : szD a ≤ 1048576 := by omega
  obtain ⟨Aa, ca, rfl⟩ := rdD_form ra
  have hzb : szD b ≤ 1048576 := by omega
  obtain ⟨Ab, cb, rfl⟩ := rdD_form rb
  have bb0 : Below w.heap.size w ((w.alloc (.cells #[.bool a.1.1, .slice Aa a.1.2.length ca, .int .i64 a.2] 26)).alloc (.cells #[.bool b.1.1, .slice Ab b.1.2.length cb, .int .i64 b.2] 26)) := below_al (below_al (Below.refl _ _) _) _
  have ka := (box_new w #[.bool a.1.1, .slice Aa a.1.2.length ca, .int .i64 a.2] 26).below (below_al (Below.refl _ _) (.cells #[.bool b.1.1, .slice Ab b.1.2.length cb, .int .i64 b.2] 26))
  have kb := (box_new (w.alloc (.cells #[.bool a.1.1, .slice Aa a.1.2.length ca, .int .i64 a.2] 26)) #[.bool b.1.1, .slice Ab b.1.2.length cb, .int .i64 b.2] 26)
  rw [show (w.alloc (.cells #[.bool a.1.1, .slice Aa a.1.2.length ca, .int .i64 a.2] 26)).heap.size = w.heap.size + 1 by simp] at kb
  have RFa : Hid (∀ W, Below w.heap.size w W → RdD W (.agg #[.bool a.1.1, .slice Aa a.1.2.length ca, .int .i64 a.2]) a) := Lib.hid fun W hb => ra.below hb
  have RFb : Hid (∀ W, Below w.heap.size w W → RdD W (.agg #[.bool b.1.1, .slice Ab b.1.2.length cb, .int .i64 b.2]) b) := Lib.hid fun W hb => rb.below hb
  go_enter Try.func7, Try.ntmps7
  have ka_c0 := ka.here.cell 0 _ rfl
  have ka_c1 := ka.here.cell 1 _ rfl
  have ka_c2 := ka.here.cell 2 _ rfl
  go_wp2_with fail
  clear ka_c0 ka_c1 ka_c2
  refine (szD_cal _ a (1048576) _ (capD_of hza) (by omega) (by omega) (RFa.out _ bb0)).mono ?_
  rintro e w1 ⟨rfl, b1⟩
  rw [leftI_of (by omega)]
  have bb1 := Below.next bb0 b1
  replace ka := ka.below b1
  replace kb := kb.below b1
  have hn : decide (((1048576 : Int) - szD a : Int) < 0) = false := decide_eq_false (by omega)
  have kb_c0 := kb.here.cell 0 _ rfl
  have kb_c1 := kb.here.cell 1 _ rfl
  have kb_c2 := kb.here.cell 2 _ rfl
  go_wp2_with fail
  clear kb_c0 kb_c1 kb_c2
  refine (szD_cal _ b (1048576 - szD a) _ (capD_of hzb) (by omega) (by omega) (RFb.out _ bb1)).mono ?_
  rintro e w2 ⟨rfl, b2⟩
  rw [leftI_of (by omega)]
  have bb2 := Below.next bb1 b2
  replace ka := ka.below b2
  replace kb := kb.below b2
  clear hn
  have hn : decide (((1048576 : Int) - szD a - szD b : Int) < 0) = false := decide_eq_false (by omega)
  have HKa := Lib.hid (ka.lt (w.heap.size) (by simp))
  have HKb := Lib.hid (kb.lt (w.heap.size + 1) (by simp))
  have ka_c0 := ka.here.cell 0 _ rfl
  have ka_c1 := ka.here.cell 1 _ rfl
  have ka_c2 := ka.here.cell 2 _ rfl
  have kb_c0 := kb.here.cell 0 _ rfl
  have kb_c1 := kb.here.cell 1 _ rfl
  have kb_c2 := kb.here.cell 2 _ rfl
  go_wp2_with fail
  have HB0 := Lib.hid (show Below w2.heap.size w2 w2.drew from (Below.refl _ _).drew)
  have KL := Lib.hid (show ∀ W, Below w2.heap.size w2 W → W.cell? ⟨w.heap.size, 0, none⟩ = some (.bool a.1.1) ∧ W.cell? ⟨w.heap.size, 1, none⟩ = some (.slice Aa a.1.2.length ca) ∧ W.cell? ⟨w.heap.size, 2, none⟩ = some (.int .i64 a.2) ∧ W.cell? ⟨w.heap.size + 1, 0, none⟩ = some (.bool b.1.1) ∧ W.cell? ⟨w.heap.size + 1, 1, none⟩ = some (.slice Ab b.1.2.length cb) ∧ W.cell? ⟨w.heap.size + 1, 2, none⟩ = some (.int .i64 b.2) ∧ Hid (Below w2.heap.size w2 W) from
    fun W hb => ⟨(ka.below hb).here.cell 0 _ rfl, (ka.below hb).here.cell 1 _ rfl, (ka.below hb).here.cell 2 _ rfl, (kb.below hb).here.cell 0 _ rfl, (kb.below hb).here.cell 1 _ rfl, (kb.below hb).here.cell 2 _ rfl, Lib.hid hb⟩)
  have BBF := Lib.hid (show ∀ W, Below w2.heap.size w2 W → Below w.heap.size w W from fun W hb => Below.next bb2 hb)
  clear ka_c0 ka_c1 ka_c2 kb_c0 kb_c1 kb_c2
  go_region_held3 (fun W => W.cell? ⟨w.heap.size, 0, none⟩ = some (.bool a.1.1) ∧ W.cell? ⟨w.heap.size, 1, none⟩ = some (.slice Aa a.1.2.length ca) ∧ W.cell? ⟨w.heap.size, 2, none⟩ = some (.int .i64 a.2) ∧ W.cell? ⟨w.heap.size + 1, 0, none⟩ = some (.bool b.1.1) ∧ W.cell? ⟨w.heap.size + 1, 1, none⟩ = some (.slice Ab b.1.2.length cb) ∧ W.cell? ⟨w.heap.size + 1, 2, none⟩ = some (.int .i64 b.2) ∧ Hid (Below w2.heap.size w2 W))
    ((refine KL.out _ ?_; (first | exact HBf.out | exact HBtb.out | exact HBta.out | exact HB0.out | fail)))
    (first
      | (go_at_call 10; (have hBB := (‹_ ∧ _ ∧ _ ∧ _ ∧ _ ∧ _ ∧ Hid (Below w2.heap.size w2 _)›).2.2.2.2.2.2); (with_reducible refine (toD_new _ a _ hza (RFa.out _ (BBF.out _ hBB.out))).mono ?_); rintro e wta ⟨ta, Sta, rfl, ota, lta, bta⟩; have HBta := Lib.hid (Below.next hBB.out bta); clear hBB)
      | (go_at_call 10; (have hBB := (‹_ ∧ _ ∧ _ ∧ _ ∧ _ ∧ _ ∧ Hid (Below w2.heap.size w2 _)›).2.2.2.2.2.2); (with_reducible refine (toD_new _ b _ hzb (RFb.out _ (BBF.out _ hBB.out))).mono ?_); rintro e wtb ⟨tb, Stb, rfl, otb, ltb, btb⟩; have HBtb := Lib.hid (Below.next hBB.out btb); (have otab := At.below (by first | exact ota | exact At.below ota (below_al (Below.refl _ _) _)) btb); clear hBB)
      | (go_at_call 21; (have hBB := (‹_ ∧ _ ∧ _ ∧ _ ∧ _ ∧ _ ∧ Hid (Below w2.heap.size w2 _)›).2.2.2.2.2.2); (with_reducible refine (HS.out _ _ _ (At.here (by first | exact otab | exact At.below otab (below_al (Below.refl _ _) _))) (At.here (by first | exact otb | exact At.below otb (below_al (Below.refl _ _) _)))).mono ?_); rintro e w3 ⟨rfl, bf⟩; have HBf := Lib.hid (Below.next hBB.out bf); clear hBB))
  have b3 := HBf.out
  have bb3 := Below.next bb2 b3
  replace ka := ka.below b3
  replace kb := kb.below b3
  clear HB0 KL BBF HBf HBta ota lta HBtb otb ltb
  have ka_c0 := ka.here.cell 0 _ rfl
  have ka_c1 := ka.here.cell 1 _ rfl
  have ka_c2 := ka.here.cell 2 _ rfl
  go_upto_region 9 with fail
  go_cut [7] (fun s wx => NewLocV 31 (fun v => OwnD v a) w3 s wx)
  case first =>
    go_wp2_with fail
    refine (toD_new _ a _ hza (RFa.out _ bb3)).mono ?_
    rintro e wt ⟨ut, St, rfl, ot, lt, bt⟩
    obtain ⟨At, ct, rfl⟩ := ownD_form ot.here
    go_wp2_with fail
    go_meet
    exact newLocV_last ot lt (Nat.le_refl _) bt
  rename World => w4
  clear ka_c0 ka_c1 ka_c2
  obtain ⟨gxa, csxa, Sxa, rfl, kxa, oxa, nxa, lxa, b4⟩ := hcut
  obtain ⟨Axa, cxa, exa⟩ := ownD_form oxa.here
  injection exa with exa
  subst exa
  have bb4 := Below.next bb3 b4
  replace ka := ka.below b4
  replace kb := kb.below b4
  have kb_c0 := kb.here.cell 0 _ rfl
  have kb_c1 := kb.here.cell 1 _ rfl
  have kb_c2 := kb.here.cell 2 _ rfl
  go_upto_region 10 with fail
  go_cut [8] (fun s wx => NewLocV 31 (fun v => OwnD v b) w4 s wx)
  case first =>
    go_wp2_with fail
    refine (toD_new _ b _ hzb (RFb.out _ bb4)).mono ?_
    rintro e wt ⟨ut, St, rfl, ot, lt, bt⟩
    obtain ⟨At, ct, rfl⟩ := ownD_form ot.here
    go_wp2_with fail
    go_meet
    exact newLocV_last ot lt (Nat.le_refl _) bt
  rename World => w5
  clear kb_c0 kb_c1 kb_c2
  obtain ⟨gxb, csxb, Sxb, rfl, kxb, oxb, nxb, lxb, b5⟩ := hcut
  obtain ⟨Axb, cxb, exb⟩ := ownD_form oxb.here
  injection exb with exb
  subst exb
  have bb5 := Below.next bb4 b5
  replace ka := ka.below b5
  replace kb := kb.below b5
  replace kxa := kxa.below b5
  replace oxa := oxa.below b5
  have kxa_c0 := kxa.here.cell 0 _ rfl
  have kxa_c1 := kxa.here.cell 1 _ rfl
  have kxa_c2 := kxa.here.cell 2 _ rfl
  have kxb_c0 := kxb.here.cell 0 _ rfl
  have kxb_c1 := kxb.here.cell 1 _ rfl
  have kxb_c2 := kxb.here.cell 2 _ rfl
  go_wp2_with fail
  clear kxa_c0 kxa_c1 kxa_c2 kxb_c0 kxb_c1 kxb_c2
  refine (HI.out _ _ _ oxa.here oxb.here).mono ?_
  rintro e w6 ⟨rfl, b6⟩
  have bb6 := Below.next bb5 b6
  replace ka := ka.below b6
  replace kb := kb.below b6
  replace kxa := kxa.below b6
  replace oxa := oxa.below b6
  replace kxb := kxb.below b6
  replace oxb := oxb.below b6
  have ka_c0 := ka.here.cell 0 _ rfl
  have ka_c1 := ka.here.cell 1 _ rfl
  have ka_c2 := ka.here.cell 2 _ rfl
  have kxa_c0 := kxa.here.cell 0 _ rfl
  have kxa_c1 := kxa.here.cell 1 _ rfl
  have kxa_c2 := kxa.here.cell 2 _ rfl
  go_wp2_with fail
  have HB0 := Lib.hid (show Below w6.heap.size w6 w6.drew from (Below.refl _ _).drew)
  have KL := Lib.hid (show ∀ W, Below w6.heap.size w6 W → W.cell? ⟨w.heap.size, 0, none⟩ = some (.bool a.1.1) ∧ W.cell? ⟨w.heap.size, 1, none⟩ = some (.slice Aa a.1.2.length ca) ∧ W.cell? ⟨w.heap.size, 2, none⟩ = some (.int .i64 a.2) ∧ W.cell? ⟨gxa, 0, none⟩ = some (.bool a.1.1) ∧ W.cell? ⟨gxa, 1, none⟩ = some (.slice Axa a.1.2.length cxa) ∧ W.cell? ⟨gxa, 2, none⟩ = some (.int .i64 a.2) ∧ Hid (Below w6.heap.size w6 W) from
    fun W hb => ⟨(ka.below hb).here.cell 0 _ rfl, (ka.below hb).here.cell 1 _ rfl, (ka.below hb).here.cell 2 _ rfl, (kxa.below hb).here.cell 0 _ rfl, (kxa.below hb).here.cell 1 _ rfl, (kxa.below hb).here.cell 2 _ rfl, Lib.hid hb⟩)
  have BBF := Lib.hid (show ∀ W, Below w6.heap.size w6 W → Below w.heap.size w W from fun W hb => Below.next bb6 hb)
  have OXF := Lib.hid (show ∀ W, Below w6.heap.size w6 W → OwnD (.agg #[.bool a.1.1, .slice Axa a.1.2.length cxa, .int .i64 a.2]) a W from fun W hb => (oxa.below hb).here)
  clear ka_c0 ka_c1 ka_c2 kxa_c0 kxa_c1 kxa_c2
  go_region_held3 (fun W => W.cell? ⟨w.heap.size, 0, none⟩ = some (.bool a.1.1) ∧ W.cell? ⟨w.heap.size, 1, none⟩ = some (.slice Aa a.1.2.length ca) ∧ W.cell? ⟨w.heap.size, 2, none⟩ = some (.int .i64 a.2) ∧ W.cell? ⟨gxa, 0, none⟩ = some (.bool a.1.1) ∧ W.cell? ⟨gxa, 1, none⟩ = some (.slice Axa a.1.2.length cxa) ∧ W.cell? ⟨gxa, 2, none⟩ = some (.int .i64 a.2) ∧ Hid (Below w6.heap.size w6 W))
    ((refine KL.out _ ?_; (first | exact HBe.out | exact HBt.out | exact HB0.out | fail)))
    (first
      | (go_at_call 10; (have hBB := (‹_ ∧ _ ∧ _ ∧ _ ∧ _ ∧ _ ∧ Hid (Below w6.heap.size w6 _)›).2.2.2.2.2.2); (with_reducible refine (toD_new _ a _ hza (RFa.out _ (BBF.out _ hBB.out))).mono ?_); rintro e wt ⟨t, St, rfl, ot, lt, bt⟩; have HBt := Lib.hid (Below.next hBB.out bt); clear hBB)
      | (go_at_call 12; (have hBB := (‹_ ∧ _ ∧ _ ∧ _ ∧ _ ∧ _ ∧ Hid (Below w6.heap.size w6 _)›).2.2.2.2.2.2); (with_reducible refine (eqD_cal _ _ a a _ (capD_of hza) (OwnD.rd (OXF.out _ hBB.out)) (OwnD.rd ot.here)).mono ?_); rintro e w7 ⟨rfl, be⟩; rw [decide_refl]; have HBe := Lib.hid (Below.next hBB.out be); clear hBB))
  have b7 := HBe.out
  have bb7 := Below.next bb6 b7
  replace ka := ka.below b7
  replace kb := kb.below b7
  replace kxa := kxa.below b7
  replace oxa := oxa.below b7
  replace kxb := kxb.below b7
  replace oxb := oxb.below b7
  clear HB0 KL BBF OXF HBt HBe ot lt
  have kb_c0 := kb.here.cell 0 _ rfl
  have kb_c1 := kb.here.cell 1 _ rfl
  have kb_c2 := kb.here.cell 2 _ rfl
  have kxb_c0 := kxb.here.cell 0 _ rfl
  have kxb_c1 := kxb.here.cell 1 _ rfl
  have kxb_c2 := kxb.here.cell 2 _ rfl
  go_wp2_with fail
  have HB0 := Lib.hid (show Below w7.heap.size w7 w7.drew from (Below.refl _ _).drew)
  have KL := Lib.hid (show ∀ W, Below w7.heap.size w7 W → W.cell? ⟨w.heap.size + 1, 0, none⟩ = some (.bool b.1.1) ∧ W.cell? ⟨w.heap.size + 1, 1, none⟩ = some (.slice Ab b.1.2.length cb) ∧ W.cell? ⟨w.heap.size + 1, 2, none⟩ = some (.int .i64 b.2) ∧ W.cell? ⟨gxb, 0, none⟩ = some (.bool b.1.1) ∧ W.cell? ⟨gxb, 1, none⟩ = some (.slice Axb b.1.2.length cxb) ∧ W.cell? ⟨gxb, 2, none⟩ = some (.int .i64 b.2) ∧ Hid (Below w7.heap.size w7 W) from
    fun W hb => ⟨(kb.below hb).here.cell 0 _ rfl, (kb.below hb).here.cell 1 _ rfl, (kb.below hb).here.cell 2 _ rfl, (kxb.below hb).here.cell 0 _ rfl, (kxb.below hb).here.cell 1 _ rfl, (kxb.below hb).here.cell 2 _ rfl, Lib.hid hb⟩)
  have BBF := Lib.hid (show ∀ W, Below w7.heap.size w7 W → Below w.heap.size w W from fun W hb => Below.next bb7 hb)
  have OXF := Lib.hid (show ∀ W, Below w7.heap.size w7 W → OwnD (.agg #[.bool b.1.1, .slice Axb b.1.2.length cxb, .int .i64 b.2]) b W from fun W hb => (oxb.below hb).here)
  clear kb_c0 kb_c1 kb_c2 kxb_c0 kxb_c1 kxb_c2
  go_region_held3 (fun W => W.cell? ⟨w.heap.size + 1, 0, none⟩ = some (.bool b.1.1) ∧ W.cell? ⟨w.heap.size + 1, 1, none⟩ = some (.slice Ab b.1.2.length cb) ∧ W.cell? ⟨w.heap.size + 1, 2, none⟩ = some (.int .i64 b.2) ∧ W.cell? ⟨gxb, 0, none⟩ = some (.bool b.1.1) ∧ W.cell? ⟨gxb, 1, none⟩ = some (.slice Axb b.1.2.length cxb) ∧ W.cell? ⟨gxb, 2, none⟩ = some (.int .i64 b.2) ∧ Hid (Below w7.heap.size w7 W))
    ((refine KL.out _ ?_; (first | exact HBe.out | exact HBt.out | exact HB0.out | fail)))
    (first
      | (go_at_call 10; (have hBB := (‹_ ∧ _ ∧ _ ∧ _ ∧ _ ∧ _ ∧ Hid (Below w7.heap.size w7 _)›).2.2.2.2.2.2); (with_reducible refine (toD_new _ b _ hzb (RFb.out _ (BBF.out _ hBB.out))).mono ?_); rintro e wt ⟨t, St, rfl, ot, lt, bt⟩; have HBt := Lib.hid (Below.next hBB.out bt); clear hBB)
      | (go_at_call 12; (have hBB := (‹_ ∧ _ ∧ _ ∧ _ ∧ _ ∧ _ ∧ Hid (Below w7.heap.size w7 _)›).2.2.2.2.2.2); (with_reducible refine (eqD_cal _ _ b b _ (capD_of hzb) (OwnD.rd (OXF.out _ hBB.out)) (OwnD.rd ot.here)).mono ?_); rintro e w8 ⟨rfl, be⟩; rw [decide_refl]; have HBe := Lib.hid (Below.next hBB.out be); clear hBB))
  have b8 := HBe.out
  have bb8 := Below.next bb7 b8
  replace ka := ka.below b8
  replace kb := kb.below b8
  replace kxa := kxa.below b8
  replace oxa := oxa.below b8
  replace kxb := kxb.below b8
  replace oxb := oxb.below b8
  clear HB0 KL BBF OXF HBt HBe ot lt
  go_wp2
  go_ret
  exact ⟨rfl, bb8⟩
end Go.Proofs.Ythfkdofnoomhaaa
