/-
  The laws of NatDiv, NatGcd and NatCut, walked, for arguments of any size; the sentinel is at hand.
-/
import Derived.Test.YtccajcddijhmcaaDoorDivAt
import Derived.Test.YtccajcddijhmcaaDoorErrIs
namespace Go.Proofs.YtccajcddijhmcaaDoor
open Go.RowKit

set_option maxHeartbeats 2000000 in
set_option maxRecDepth 100000 in
theorem lawNatDiv_walk (va : Value) (vb : Value) (a : List Int) (b : List Int) (R0 : List Int) (R1 : List Int) (w : World)
    (hS : ∀ (ua : Value) (ub : Value) (W : World), OwnI ua a W → OwnI ub b W → Calls Tryd.prog 23 #[ua, ub] W (PostII R0 R1 W))
    (hI : ∀ (ua : Value) (ub : Value) (W : World), OwnI ua a W → OwnI ub b W → Sen W → Calls Tryd.prog 9 #[ua, ub] W (PostII R0 R1 W))
    (hla : a.length ≤ 1048576) (hlb : b.length ≤ 1048576) (hlR0 : R0.length ≤ 1048576) (hlR1 : R1.length ≤ 1048576) (ht : Sen w)
    (ra : Row w 0 w.heap.size va (intsV a)) (rb : Row w 0 w.heap.size vb (intsV b)) :
    Calls Tryd.prog 4 #[va, vb] w fun e w' => e = .returned (.bool true) ∧ Below w.heap.size w w' := by
  have qa := ra
  obtain ⟨Aa, ca, rfl, _⟩ := ra
  rw [intsV_length] at qa ⊢
  have qb := rb
  obtain ⟨Ab, cb, rfl, _⟩ := rb
  rw [intsV_length] at qb ⊢
  have HS := Lib.hid hS
  have HI := Lib.hid hI
  clear hS hI
  have hsa0 : 0 ≤ szI a := by unfold szI; omega
  have hsa1 : szI a ≤ 1048576 := by unfold szI; omega
  have hsb0 : 0 ≤ szI b := by unfold szI; omega
  have hsb1 : szI b ≤ 1048576 := by unfold szI; omega
  have hsR00 : 0 ≤ szI R0 := by unfold szI; omega
  have hsR01 : szI R0 ≤ 1048576 := by unfold szI; omega
  have hsR10 : 0 ≤ szI R1 := by unfold szI; omega
  have hsR11 : szI R1 ≤ 1048576 := by unfold szI; omega
  have bb0 : Below w.heap.size w w := Below.refl _ _
  go_enter Tryd.func4, Tryd.ntmps4
  go_wp2_with fail
  refine (toIntS_at _ a _ _ _ bb0.size hla (qa.below bb0 (Nat.le_refl _))).mono ?_
  rintro e w1 ⟨ta, Sta, rfl, ota_new, lta, b1⟩
  have bb1 := Below.next bb0 b1
  have ota := ota_new
  clear ota_new
  go_wp2_with fail
  refine (toIntS_at _ b _ _ _ bb1.size hlb (qb.below bb1 (Nat.le_refl _))).mono ?_
  rintro e w2 ⟨tb, Stb, rfl, otb_new, ltb, b2⟩
  have bb2 := Below.next bb1 b2
  replace ota := ota.below b2
  have otb := otb_new
  clear otb_new
  go_wp2_with fail
  refine (HS.out ta tb _ ota.here otb.here).mono ?_
  rintro e w3 ⟨y0, Sy0, y1, Sy1, rfl, oy0_new, oy1_new, ly0, ly1, ap_y0_y1, b3⟩
  have AP_y0_y1 := Lib.hid ap_y0_y1
  clear ap_y0_y1
  have bb3 := Below.next bb2 b3
  replace ota := ota.below b3
  replace otb := otb.below b3
  have oy0 := oy0_new
  clear oy0_new
  have oy1 := oy1_new
  clear oy1_new
  clear ota
  clear otb
  go_wp2_with fail
  refine (toIntS_at _ a _ _ _ bb3.size hla (qa.below bb3 (Nat.le_refl _))).mono ?_
  rintro e w4 ⟨xa, Sxa, rfl, oxa_new, lxa, b4⟩
  have bb4 := Below.next bb3 b4
  replace oy0 := oy0.below b4
  replace oy1 := oy1.below b4
  have oxa := oxa_new
  clear oxa_new
  go_wp2_with fail
  refine (toIntS_at _ b _ _ _ bb4.size hlb (qb.below bb4 (Nat.le_refl _))).mono ?_
  rintro e w5 ⟨xb, Sxb, rfl, oxb_new, lxb, b5⟩
  have bb5 := Below.next bb4 b5
  replace oy0 := oy0.below b5
  replace oy1 := oy1.below b5
  replace oxa := oxa.below b5
  have oxb := oxb_new
  clear oxb_new
  go_wp2_with fail
  refine (HI.out xa xb _ oxa.here oxb.here (ht.below bb5)).mono ?_
  rintro e w6 ⟨g0, Sg0, g1, Sg1, rfl, og0_new, og1_new, lg0, lg1, ap_g0_g1, b6⟩
  have AP_g0_g1 := Lib.hid ap_g0_g1
  clear ap_g0_g1
  have bb6 := Below.next bb5 b6
  replace oy0 := oy0.below b6
  replace oy1 := oy1.below b6
  replace oxa := oxa.below b6
  replace oxb := oxb.below b6
  have og0 := og0_new
  clear og0_new
  have og1 := og1_new
  clear og1_new
  go_wp2_with fail
  refine (eqIntS_at g0 y0 R0 R0 _ (by omega) og0.here oy0.here).mono ?_
  rintro e w7 ⟨rfl, b7⟩
  rw [decide_refl]
  have bb7 := Below.next bb6 b7
  replace oy0 := oy0.below b7
  replace oy1 := oy1.below b7
  replace oxa := oxa.below b7
  replace oxb := oxb.below b7
  replace og0 := og0.below b7
  replace og1 := og1.below b7
  go_wp2_with fail
  refine (eqIntS_at g1 y1 R1 R1 _ (by omega) og1.here oy1.here).mono ?_
  rintro e w8 ⟨rfl, b8⟩
  rw [decide_refl]
  have bb8 := Below.next bb7 b8
  replace oy0 := oy0.below b8
  replace oy1 := oy1.below b8
  replace oxa := oxa.below b8
  replace oxb := oxb.below b8
  replace og0 := og0.below b8
  replace og1 := og1.below b8
  go_wp2_with fail
  refine (toIntS_at _ a _ _ _ bb8.size hla (qa.below bb8 (Nat.le_refl _))).mono ?_
  rintro e w9 ⟨fa, Sfa, rfl, ofa_new, lfa, b9⟩
  have bb9 := Below.next bb8 b9
  replace oy0 := oy0.below b9
  replace oy1 := oy1.below b9
  replace oxa := oxa.below b9
  replace oxb := oxb.below b9
  replace og0 := og0.below b9
  replace og1 := og1.below b9
  have ofa := ofa_new
  clear ofa_new
  go_wp2_with fail
  refine (eqIntS_at xa fa a a _ (by omega) oxa.here ofa.here).mono ?_
  rintro e w10 ⟨rfl, b10⟩
  rw [decide_refl]
  have bb10 := Below.next bb9 b10
  replace oy0 := oy0.below b10
  replace oy1 := oy1.below b10
  replace oxa := oxa.below b10
  replace oxb := oxb.below b10
  replace og0 := og0.below b10
  replace og1 := og1.below b10
  replace ofa := ofa.below b10
  clear ofa
  go_wp2_with fail
  refine (toIntS_at _ b _ _ _ bb10.size hlb (qb.below bb10 (Nat.le_refl _))).mono ?_
  rintro e w11 ⟨fb, Sfb, rfl, ofb_new, lfb, b11⟩
  have bb11 := Below.next bb10 b11
  replace oy0 := oy0.below b11
  replace oy1 := oy1.below b11
  replace oxa := oxa.below b11
  replace oxb := oxb.below b11
  replace og0 := og0.below b11
  replace og1 := og1.below b11
  have ofb := ofb_new
  clear ofb_new
  go_wp2_with fail
  refine (eqIntS_at xb fb b b _ (by omega) oxb.here ofb.here).mono ?_
  rintro e w12 ⟨rfl, b12⟩
  rw [decide_refl]
  have bb12 := Below.next bb11 b12
  replace oy0 := oy0.below b12
  replace oy1 := oy1.below b12
  replace oxa := oxa.below b12
  replace oxb := oxb.below b12
  replace og0 := og0.below b12
  replace og1 := og1.below b12
  replace ofb := ofb.below b12
  clear ofb
  have z1 := b1.size
  have z2 := b2.size
  have z3 := b3.size
  have z4 := b4.size
  have z5 := b5.size
  have z6 := b6.size
  have Fxa := Lib.hid (lxa.from (B := w.heap.size) (by omega))
  have Fxb := Lib.hid (lxb.from (B := w.heap.size) (by omega))
  have Fg0 := Lib.hid (lg0.from (B := w.heap.size) (by omega))
  have Fg1 := Lib.hid (lg1.from (B := w.heap.size) (by omega))
  have AP_xa_xb := Lib.hid (lxa.apart lxb (.inl (by omega)))
  have AP_xa_g0 := Lib.hid (lxa.apart lg0 (.inl (by omega)))
  have AP_xa_g1 := Lib.hid (lxa.apart lg1 (.inl (by omega)))
  have AP_xb_g0 := Lib.hid (lxb.apart lg0 (.inl (by omega)))
  have AP_xb_g1 := Lib.hid (lxb.apart lg1 (.inl (by omega)))
  have AP_y0_xa := Lib.hid (ly0.apart lxa (.inl (by omega)))
  have AP_y1_xa := Lib.hid (ly1.apart lxa (.inl (by omega)))
  have AP_y0_xb := Lib.hid (ly0.apart lxb (.inl (by omega)))
  have AP_y1_xb := Lib.hid (ly1.apart lxb (.inl (by omega)))
  have AP_y0_g0 := Lib.hid (ly0.apart lg0 (.inl (by omega)))
  have AP_y0_g1 := Lib.hid (ly0.apart lg1 (.inl (by omega)))
  have AP_y1_g0 := Lib.hid (ly1.apart lg0 (.inl (by omega)))
  have AP_y1_g1 := Lib.hid (ly1.apart lg1 (.inl (by omega)))
  clear z1
  clear z2
  clear z3
  clear z4
  clear z5
  clear z6
  go_wp2_with fail
  refine (markIntS_at xa a Sxa (1) _ (by omega) (by omega) oxa).mono ?_
  rintro e w13 ⟨rfl, oxa_new, c13⟩
  have bb13 := below_chg bb12 c13 bb12.size Fxa.out
  replace oy0 := oy0.chg c13 AP_y0_xa.out
  replace oy1 := oy1.chg c13 AP_y1_xa.out
  replace oxb := oxb.chg c13 (apart_symm AP_xa_xb.out)
  replace og0 := og0.chg c13 (apart_symm AP_xa_g0.out)
  replace og1 := og1.chg c13 (apart_symm AP_xa_g1.out)
  clear oxa
  have oxa := oxa_new
  clear oxa_new
  go_wp2_with fail
  refine (markIntS_at xb b Sxb (1 + szI a) _ (by omega) (by omega) oxb).mono ?_
  rintro e w14 ⟨rfl, oxb_new, c14⟩
  have bb14 := below_chg bb13 c14 bb13.size Fxb.out
  replace oy0 := oy0.chg c14 AP_y0_xb.out
  replace oy1 := oy1.chg c14 AP_y1_xb.out
  replace oxa := oxa.chg c14 AP_xa_xb.out
  replace og0 := og0.chg c14 (apart_symm AP_xb_g0.out)
  replace og1 := og1.chg c14 (apart_symm AP_xb_g1.out)
  clear oxb
  have oxb := oxb_new
  clear oxb_new
  clear oxa
  clear oxb
  go_wp2_with fail
  refine (eqIntS_at g0 y0 R0 R0 _ (by omega) og0.here oy0.here).mono ?_
  rintro e w15 ⟨rfl, b15⟩
  rw [decide_refl]
  have bb15 := Below.next bb14 b15
  replace oy0 := oy0.below b15
  replace oy1 := oy1.below b15
  replace og0 := og0.below b15
  replace og1 := og1.below b15
  go_wp2_with fail
  refine (eqIntS_at g1 y1 R1 R1 _ (by omega) og1.here oy1.here).mono ?_
  rintro e w16 ⟨rfl, b16⟩
  rw [decide_refl]
  have bb16 := Below.next bb15 b16
  replace oy0 := oy0.below b16
  replace oy1 := oy1.below b16
  replace og0 := og0.below b16
  replace og1 := og1.below b16
  go_wp2_with fail
  refine (markIntS_at g0 R0 Sg0 (1) _ (by omega) (by omega) og0).mono ?_
  rintro e w17 ⟨rfl, og0_new, c17⟩
  have bb17 := below_chg bb16 c17 bb16.size Fg0.out
  replace oy0 := oy0.chg c17 AP_y0_g0.out
  replace oy1 := oy1.chg c17 AP_y1_g0.out
  replace og1 := og1.chg c17 (apart_symm AP_g0_g1.out)
  clear og0
  have og0 := og0_new
  clear og0_new
  go_wp2_with fail
  refine (markIntS_at g1 R1 Sg1 (1 + szI R0) _ (by omega) (by omega) og1).mono ?_
  rintro e w18 ⟨rfl, og1_new, c18⟩
  have bb18 := below_chg bb17 c18 bb17.size Fg1.out
  replace oy0 := oy0.chg c18 AP_y0_g1.out
  replace oy1 := oy1.chg c18 AP_y1_g1.out
  replace og0 := og0.chg c18 AP_g0_g1.out
  clear og1
  have og1 := og1_new
  clear og1_new
  go_wp2_with fail
  refine (heldIntS_at g0 R0 (1) _ (by omega) (by omega) og0.here).mono ?_
  rintro e w19 ⟨rfl, b19⟩
  have bb19 := Below.next bb18 b19
  replace oy0 := oy0.below b19
  replace oy1 := oy1.below b19
  replace og0 := og0.below b19
  replace og1 := og1.below b19
  go_wp2_with fail
  refine (heldIntS_at g1 R1 (1 + szI R0) _ (by omega) (by omega) og1.here).mono ?_
  rintro e w20 ⟨rfl, b20⟩
  have bb20 := Below.next bb19 b20
  replace oy0 := oy0.below b20
  replace oy1 := oy1.below b20
  replace og0 := og0.below b20
  replace og1 := og1.below b20
  go_wp2_with fail
  refine (toIntS_at _ a _ _ _ bb20.size hla (qa.below bb20 (Nat.le_refl _))).mono ?_
  rintro e w21 ⟨ta, Sta, rfl, ota_new, lta, b21⟩
  have bb21 := Below.next bb20 b21
  replace oy0 := oy0.below b21
  replace oy1 := oy1.below b21
  replace og0 := og0.below b21
  replace og1 := og1.below b21
  have ota := ota_new
  clear ota_new
  go_wp2_with fail
  refine (toIntS_at _ b _ _ _ bb21.size hlb (qb.below bb21 (Nat.le_refl _))).mono ?_
  rintro e w22 ⟨tb, Stb, rfl, otb_new, ltb, b22⟩
  have bb22 := Below.next bb21 b22
  replace oy0 := oy0.below b22
  replace oy1 := oy1.below b22
  replace og0 := og0.below b22
  replace og1 := og1.below b22
  replace ota := ota.below b22
  have otb := otb_new
  clear otb_new
  go_wp2_with fail
  refine (HI.out ta tb _ ota.here otb.here (ht.below bb22)).mono ?_
  rintro e w23 ⟨h0, Sh0, h1, Sh1, rfl, oh0_new, oh1_new, lh0, lh1, ap_h0_h1, b23⟩
  have AP_h0_h1 := Lib.hid ap_h0_h1
  clear ap_h0_h1
  have bb23 := Below.next bb22 b23
  replace oy0 := oy0.below b23
  replace oy1 := oy1.below b23
  replace og0 := og0.below b23
  replace og1 := og1.below b23
  replace ota := ota.below b23
  replace otb := otb.below b23
  have oh0 := oh0_new
  clear oh0_new
  have oh1 := oh1_new
  clear oh1_new
  clear ota
  clear otb
  go_wp2_with fail
  refine (eqIntS_at h0 y0 R0 R0 _ (by omega) oh0.here oy0.here).mono ?_
  rintro e w24 ⟨rfl, b24⟩
  rw [decide_refl]
  have bb24 := Below.next bb23 b24
  replace oy0 := oy0.below b24
  replace oy1 := oy1.below b24
  replace og0 := og0.below b24
  replace og1 := og1.below b24
  replace oh0 := oh0.below b24
  replace oh1 := oh1.below b24
  go_wp2_with fail
  refine (eqIntS_at h1 y1 R1 R1 _ (by omega) oh1.here oy1.here).mono ?_
  rintro e w25 ⟨rfl, b25⟩
  rw [decide_refl]
  have bb25 := Below.next bb24 b25
  replace oy0 := oy0.below b25
  replace oy1 := oy1.below b25
  replace og0 := og0.below b25
  replace og1 := og1.below b25
  replace oh0 := oh0.below b25
  replace oh1 := oh1.below b25
  go_wp2_with fail
  refine (heldIntS_at g0 R0 (1) _ (by omega) (by omega) og0.here).mono ?_
  rintro e w26 ⟨rfl, b26⟩
  have bb26 := Below.next bb25 b26
  replace oy0 := oy0.below b26
  replace oy1 := oy1.below b26
  replace og0 := og0.below b26
  replace og1 := og1.below b26
  replace oh0 := oh0.below b26
  replace oh1 := oh1.below b26
  go_wp2_with fail
  refine (heldIntS_at g1 R1 (1 + szI R0) _ (by omega) (by omega) og1.here).mono ?_
  rintro e w27 ⟨rfl, b27⟩
  have bb27 := Below.next bb26 b27
  replace oy0 := oy0.below b27
  replace oy1 := oy1.below b27
  replace og0 := og0.below b27
  replace og1 := og1.below b27
  replace oh0 := oh0.below b27
  replace oh1 := oh1.below b27
  go_wp2
  go_ret
  exact ⟨rfl, bb27⟩

theorem specNatDiv_at (a : List Int) (b : List Int) (hla : a.length ≤ 1048576) (hlb : b.length ≤ 1048576) : ∀ (ua : Value) (ub : Value) (W : World), OwnI ua a W → OwnI ub b W → Calls Tryd.prog 23 #[ua, ub] W (PostII ((divN a b).1) ((divN a b).2) W) :=
  fun ua ub W ha hb  => (specNatDiv_any ua ub a b _ _ _ _ W hla hlb (Nat.le_refl _) (Nat.le_refl _) ha.row hb.row).mono fun _ _ h => h.postII

theorem lawNatDiv (va : Value) (vb : Value) (a : List Int) (b : List Int) (w : World)
    (hI : a.length ≤ 1048576 → b.length ≤ 1048576 → ∀ (ua : Value) (ub : Value) (W : World), OwnI ua a W → OwnI ub b W → Sen W → Calls Tryd.prog 9 #[ua, ub] W (PostII ((divN a b).1) ((divN a b).2) W))
    (hma : a.length ≤ 9223372036854775807) (hmb : b.length ≤ 9223372036854775807) (ht : Sen w) (ra : Row w 0 w.heap.size va (intsV a)) (rb : Row w 0 w.heap.size vb (intsV b)) :
    Calls Tryd.prog 4 #[va, vb] w fun e w' => e = .returned (.bool true) ∧ Below w.heap.size w w' := by
  by_cases hla : a.length ≤ 1048576
  · skip
    by_cases hlb : b.length ≤ 1048576
    · skip
      exact lawNatDiv_walk va vb a b (((divN a b).1)) (((divN a b).2)) w (specNatDiv_at a b hla hlb) (hI hla hlb) hla hlb ((divN_len a b).1) ((divN_len a b).2) ht ra rb
    · skip
      obtain ⟨Aa, ca, rfl, _⟩ := ra
      rw [intsV_length]
      obtain ⟨Ab, cb, rfl, _⟩ := rb
      rw [intsV_length]
      go_enter Tryd.func4, Tryd.ntmps4
      go_wp2
      go_ret
      exact ⟨rfl, Below.refl _ _⟩
  · skip
    obtain ⟨Aa, ca, rfl, _⟩ := ra
    rw [intsV_length]
    go_enter Tryd.func4, Tryd.ntmps4
    go_wp2
    go_ret
    exact ⟨rfl, Below.refl _ _⟩

set_option maxHeartbeats 2000000 in
set_option maxRecDepth 100000 in
theorem lawNatGcd_walk (va : Value) (vb : Value) (a : List Int) (b : List Int) (R0 : List Int) (w : World)
    (hS : ∀ (ua : Value) (ub : Value) (W : World), OwnI ua a W → OwnI ub b W → Calls Tryd.prog 28 #[ua, ub] W (PostI R0 W))
    (hI : ∀ (ua : Value) (ub : Value) (W : World), OwnI ua a W → OwnI ub b W → Sen W → Calls Tryd.prog 14 #[ua, ub] W (PostI R0 W))
    (hla : a.length ≤ 1048576) (hlb : b.length ≤ 1048576) (hlR0 : R0.length ≤ 1048576) (ht : Sen w)
    (ra : Row w 0 w.heap.size va (intsV a)) (rb : Row w 0 w.heap.size vb (intsV b)) :
    Calls Tryd.prog 5 #[va, vb] w fun e w' => e = .returned (.bool true) ∧ Below w.heap.size w w' := by
  have qa := ra
  obtain ⟨Aa, ca, rfl, _⟩ := ra
  rw [intsV_length] at qa ⊢
  have qb := rb
  obtain ⟨Ab, cb, rfl, _⟩ := rb
  rw [intsV_length] at qb ⊢
  have HS := Lib.hid hS
  have HI := Lib.hid hI
  clear hS hI
  have hsa0 : 0 ≤ szI a := by unfold szI; omega
  have hsa1 : szI a ≤ 1048576 := by unfold szI; omega
  have hsb0 : 0 ≤ szI b := by unfold szI; omega
  have hsb1 : szI b ≤ 1048576 := by unfold szI; omega
  have hsR00 : 0 ≤ szI R0 := by unfold szI; omega
  have hsR01 : szI R0 ≤ 1048576 := by unfold szI; omega
  have bb0 : Below w.heap.size w w := Below.refl _ _
  go_enter Tryd.func5, Tryd.ntmps5
  go_wp2_with fail
  refine (toIntS_at _ a _ _ _ bb0.size hla (qa.below bb0 (Nat.le_refl _))).mono ?_
  rintro e w1 ⟨ta, Sta, rfl, ota_new, lta, b1⟩
  have bb1 := Below.next bb0 b1
  have ota := ota_new
  clear ota_new
  go_wp2_with fail
  refine (toIntS_at _ b _ _ _ bb1.size hlb (qb.below bb1 (Nat.le_refl _))).mono ?_
  rintro e w2 ⟨tb, Stb, rfl, otb_new, ltb, b2⟩
  have bb2 := Below.next bb1 b2
  replace ota := ota.below b2
  have otb := otb_new
  clear otb_new
  go_wp2_with fail
  refine (HS.out ta tb _ ota.here otb.here).mono ?_
  rintro e w3 ⟨y0, Sy0, rfl, oy0_new, ly0, b3⟩
  have bb3 := Below.next bb2 b3
  replace ota := ota.below b3
  replace otb := otb.below b3
  have oy0 := oy0_new
  clear oy0_new
  clear ota
  clear otb
  go_wp2_with fail
  refine (toIntS_at _ a _ _ _ bb3.size hla (qa.below bb3 (Nat.le_refl _))).mono ?_
  rintro e w4 ⟨xa, Sxa, rfl, oxa_new, lxa, b4⟩
  have bb4 := Below.next bb3 b4
  replace oy0 := oy0.below b4
  have oxa := oxa_new
  clear oxa_new
  go_wp2_with fail
  refine (toIntS_at _ b _ _ _ bb4.size hlb (qb.below bb4 (Nat.le_refl _))).mono ?_
  rintro e w5 ⟨xb, Sxb, rfl, oxb_new, lxb, b5⟩
  have bb5 := Below.next bb4 b5
  replace oy0 := oy0.below b5
  replace oxa := oxa.below b5
  have oxb := oxb_new
  clear oxb_new
  go_wp2_with fail
  refine (HI.out xa xb _ oxa.here oxb.here (ht.below bb5)).mono ?_
  rintro e w6 ⟨g0, Sg0, rfl, og0_new, lg0, b6⟩
  have bb6 := Below.next bb5 b6
  replace oy0 := oy0.below b6
  replace oxa := oxa.below b6
  replace oxb := oxb.below b6
  have og0 := og0_new
  clear og0_new
  go_wp2_with fail
  refine (eqIntS_at g0 y0 R0 R0 _ (by omega) og0.here oy0.here).mono ?_
  rintro e w7 ⟨rfl, b7⟩
  rw [decide_refl]
  have bb7 := Below.next bb6 b7
  replace oy0 := oy0.below b7
  replace oxa := oxa.below b7
  replace oxb := oxb.below b7
  replace og0 := og0.below b7
  go_wp2_with fail
  refine (toIntS_at _ a _ _ _ bb7.size hla (qa.below bb7 (Nat.le_refl _))).mono ?_
  rintro e w8 ⟨fa, Sfa, rfl, ofa_new, lfa, b8⟩
  have bb8 := Below.next bb7 b8
  replace oy0 := oy0.below b8
  replace oxa := oxa.below b8
  replace oxb := oxb.below b8
  replace og0 := og0.below b8
  have ofa := ofa_new
  clear ofa_new
  go_wp2_with fail
  refine (eqIntS_at xa fa a a _ (by omega) oxa.here ofa.here).mono ?_
  rintro e w9 ⟨rfl, b9⟩
  rw [decide_refl]
  have bb9 := Below.next bb8 b9
  replace oy0 := oy0.below b9
  replace oxa := oxa.below b9
  replace oxb := oxb.below b9
  replace og0 := og0.below b9
  replace ofa := ofa.below b9
  clear ofa
  go_wp2_with fail
  refine (toIntS_at _ b _ _ _ bb9.size hlb (qb.below bb9 (Nat.le_refl _))).mono ?_
  rintro e w10 ⟨fb, Sfb, rfl, ofb_new, lfb, b10⟩
  have bb10 := Below.next bb9 b10
  replace oy0 := oy0.below b10
  replace oxa := oxa.below b10
  replace oxb := oxb.below b10
  replace og0 := og0.below b10
  have ofb := ofb_new
  clear ofb_new
  go_wp2_with fail
  refine (eqIntS_at xb fb b b _ (by omega) oxb.here ofb.here).mono ?_
  rintro e w11 ⟨rfl, b11⟩
  rw [decide_refl]
  have bb11 := Below.next bb10 b11
  replace oy0 := oy0.below b11
  replace oxa := oxa.below b11
  replace oxb := oxb.below b11
  replace og0 := og0.below b11
  replace ofb := ofb.below b11
  clear ofb
  have z1 := b1.size
  have z2 := b2.size
  have z3 := b3.size
  have z4 := b4.size
  have z5 := b5.size
  have z6 := b6.size
  have Fxa := Lib.hid (lxa.from (B := w.heap.size) (by omega))
  have Fxb := Lib.hid (lxb.from (B := w.heap.size) (by omega))
  have Fg0 := Lib.hid (lg0.from (B := w.heap.size) (by omega))
  have AP_xa_xb := Lib.hid (lxa.apart lxb (.inl (by omega)))
  have AP_xa_g0 := Lib.hid (lxa.apart lg0 (.inl (by omega)))
  have AP_xb_g0 := Lib.hid (lxb.apart lg0 (.inl (by omega)))
  have AP_y0_xa := Lib.hid (ly0.apart lxa (.inl (by omega)))
  have AP_y0_xb := Lib.hid (ly0.apart lxb (.inl (by omega)))
  have AP_y0_g0 := Lib.hid (ly0.apart lg0 (.inl (by omega)))
  clear z1
  clear z2
  clear z3
  clear z4
  clear z5
  clear z6
  go_wp2_with fail
  refine (markIntS_at xa a Sxa (1) _ (by omega) (by omega) oxa).mono ?_
  rintro e w12 ⟨rfl, oxa_new, c12⟩
  have bb12 := below_chg bb11 c12 bb11.size Fxa.out
  replace oy0 := oy0.chg c12 AP_y0_xa.out
  replace oxb := oxb.chg c12 (apart_symm AP_xa_xb.out)
  replace og0 := og0.chg c12 (apart_symm AP_xa_g0.out)
  clear oxa
  have oxa := oxa_new
  clear oxa_new
  go_wp2_with fail
  refine (markIntS_at xb b Sxb (1 + szI a) _ (by omega) (by omega) oxb).mono ?_
  rintro e w13 ⟨rfl, oxb_new, c13⟩
  have bb13 := below_chg bb12 c13 bb12.size Fxb.out
  replace oy0 := oy0.chg c13 AP_y0_xb.out
  replace oxa := oxa.chg c13 AP_xa_xb.out
  replace og0 := og0.chg c13 (apart_symm AP_xb_g0.out)
  clear oxb
  have oxb := oxb_new
  clear oxb_new
  clear oxa
  clear oxb
  go_wp2_with fail
  refine (eqIntS_at g0 y0 R0 R0 _ (by omega) og0.here oy0.here).mono ?_
  rintro e w14 ⟨rfl, b14⟩
  rw [decide_refl]
  have bb14 := Below.next bb13 b14
  replace oy0 := oy0.below b14
  replace og0 := og0.below b14
  go_wp2_with fail
  refine (markIntS_at g0 R0 Sg0 (1) _ (by omega) (by omega) og0).mono ?_
  rintro e w15 ⟨rfl, og0_new, c15⟩
  have bb15 := below_chg bb14 c15 bb14.size Fg0.out
  replace oy0 := oy0.chg c15 AP_y0_g0.out
  clear og0
  have og0 := og0_new
  clear og0_new
  go_wp2_with fail
  refine (heldIntS_at g0 R0 (1) _ (by omega) (by omega) og0.here).mono ?_
  rintro e w16 ⟨rfl, b16⟩
  have bb16 := Below.next bb15 b16
  replace oy0 := oy0.below b16
  replace og0 := og0.below b16
  go_wp2_with fail
  refine (toIntS_at _ a _ _ _ bb16.size hla (qa.below bb16 (Nat.le_refl _))).mono ?_
  rintro e w17 ⟨ta, Sta, rfl, ota_new, lta, b17⟩
  have bb17 := Below.next bb16 b17
  replace oy0 := oy0.below b17
  replace og0 := og0.below b17
  have ota := ota_new
  clear ota_new
  go_wp2_with fail
  refine (toIntS_at _ b _ _ _ bb17.size hlb (qb.below bb17 (Nat.le_refl _))).mono ?_
  rintro e w18 ⟨tb, Stb, rfl, otb_new, ltb, b18⟩
  have bb18 := Below.next bb17 b18
  replace oy0 := oy0.below b18
  replace og0 := og0.below b18
  replace ota := ota.below b18
  have otb := otb_new
  clear otb_new
  go_wp2_with fail
  refine (HI.out ta tb _ ota.here otb.here (ht.below bb18)).mono ?_
  rintro e w19 ⟨h0, Sh0, rfl, oh0_new, lh0, b19⟩
  have bb19 := Below.next bb18 b19
  replace oy0 := oy0.below b19
  replace og0 := og0.below b19
  replace ota := ota.below b19
  replace otb := otb.below b19
  have oh0 := oh0_new
  clear oh0_new
  clear ota
  clear otb
  go_wp2_with fail
  refine (eqIntS_at h0 y0 R0 R0 _ (by omega) oh0.here oy0.here).mono ?_
  rintro e w20 ⟨rfl, b20⟩
  rw [decide_refl]
  have bb20 := Below.next bb19 b20
  replace oy0 := oy0.below b20
  replace og0 := og0.below b20
  replace oh0 := oh0.below b20
  go_wp2_with fail
  refine (heldIntS_at g0 R0 (1) _ (by omega) (by omega) og0.here).mono ?_
  rintro e w21 ⟨rfl, b21⟩
  have bb21 := Below.next bb20 b21
  replace oy0 := oy0.below b21
  replace og0 := og0.below b21
  replace oh0 := oh0.below b21
  go_wp2
  go_ret
  exact ⟨rfl, bb21⟩

theorem specNatGcd_at (a : List Int) (b : List Int) (hla : a.length ≤ 1048576) (hlb : b.length ≤ 1048576) : ∀ (ua : Value) (ub : Value) (W : World), OwnI ua a W → OwnI ub b W → Calls Tryd.prog 28 #[ua, ub] W (PostI (gcdN a b) W) :=
  fun ua ub W ha hb  => (specNatGcd_any ua ub a b _ _ _ _ W hla hlb (Nat.le_refl _) (Nat.le_refl _) (own_noCap ha) (own_noCap hb) ha.row hb.row).mono fun _ _ h => h.newV

theorem lawNatGcd (va : Value) (vb : Value) (a : List Int) (b : List Int) (w : World)
    (hI : a.length ≤ 1048576 → b.length ≤ 1048576 → ∀ (ua : Value) (ub : Value) (W : World), OwnI ua a W → OwnI ub b W → Sen W → Calls Tryd.prog 14 #[ua, ub] W (PostI (gcdN a b) W))
    (hma : a.length ≤ 9223372036854775807) (hmb : b.length ≤ 9223372036854775807) (ht : Sen w) (ra : Row w 0 w.heap.size va (intsV a)) (rb : Row w 0 w.heap.size vb (intsV b)) :
    Calls Tryd.prog 5 #[va, vb] w fun e w' => e = .returned (.bool true) ∧ Below w.heap.size w w' := by
  by_cases hla : a.length ≤ 1048576
  · skip
    by_cases hlb : b.length ≤ 1048576
    · skip
      exact lawNatGcd_walk va vb a b ((gcdN a b)) w (specNatGcd_at a b hla hlb) (hI hla hlb) hla hlb (gcdN_len a b) ht ra rb
    · skip
      obtain ⟨Aa, ca, rfl, _⟩ := ra
      rw [intsV_length]
      obtain ⟨Ab, cb, rfl, _⟩ := rb
      rw [intsV_length]
      go_enter Tryd.func5, Tryd.ntmps5
      go_wp2
      go_ret
      exact ⟨rfl, Below.refl _ _⟩
  · skip
    obtain ⟨Aa, ca, rfl, _⟩ := ra
    rw [intsV_length]
    go_enter Tryd.func5, Tryd.ntmps5
    go_wp2
    go_ret
    exact ⟨rfl, Below.refl _ _⟩

set_option maxHeartbeats 2000000 in
set_option maxRecDepth 100000 in
theorem lawNatCut_walk (va : Value) (a : List Int) (k : Int) (R0 : List Int) (R1 : List Int) (w : World)
    (hS : ∀ (ua : Value) (W : World), OwnI ua a W → Calls Tryd.prog 29 #[ua, (.int .i64 k)] W (PostII R0 R1 W))
    (hI : ∀ (ua : Value) (W : World), OwnI ua a W → Sen W → Calls Tryd.prog 11 #[ua, (.int .i64 k)] W (PostII R0 R1 W))
    (hla : a.length ≤ 1048576) (hlR0 : R0.length ≤ 1048576) (hlR1 : R1.length ≤ 1048576) (ht : Sen w)
    (ra : Row w 0 w.heap.size va (intsV a)) :
    Calls Tryd.prog 6 #[va, (.int .i64 k)] w fun e w' => e = .returned (.bool true) ∧ Below w.heap.size w w' := by
  have qa := ra
  obtain ⟨Aa, ca, rfl, _⟩ := ra
  rw [intsV_length] at qa ⊢
  have HS := Lib.hid hS
  have HI := Lib.hid hI
  clear hS hI
  have hsa0 : 0 ≤ szI a := by unfold szI; omega
  have hsa1 : szI a ≤ 1048576 := by unfold szI; omega
  have hsR00 : 0 ≤ szI R0 := by unfold szI; omega
  have hsR01 : szI R0 ≤ 1048576 := by unfold szI; omega
  have hsR10 : 0 ≤ szI R1 := by unfold szI; omega
  have hsR11 : szI R1 ≤ 1048576 := by unfold szI; omega
  have bb0 : Below w.heap.size w w := Below.refl _ _
  go_enter Tryd.func6, Tryd.ntmps6
  go_wp2_with fail
  refine (toIntS_at _ a _ _ _ bb0.size hla (qa.below bb0 (Nat.le_refl _))).mono ?_
  rintro e w1 ⟨ta, Sta, rfl, ota_new, lta, b1⟩
  have bb1 := Below.next bb0 b1
  have ota := ota_new
  clear ota_new
  go_wp2_with fail
  refine (HS.out ta _ ota.here).mono ?_
  rintro e w2 ⟨y0, Sy0, y1, Sy1, rfl, oy0_new, oy1_new, ly0, ly1, ap_y0_y1, b2⟩
  have AP_y0_y1 := Lib.hid ap_y0_y1
  clear ap_y0_y1
  have bb2 := Below.next bb1 b2
  replace ota := ota.below b2
  have oy0 := oy0_new
  clear oy0_new
  have oy1 := oy1_new
  clear oy1_new
  clear ota
  go_wp2_with fail
  refine (toIntS_at _ a _ _ _ bb2.size hla (qa.below bb2 (Nat.le_refl _))).mono ?_
  rintro e w3 ⟨xa, Sxa, rfl, oxa_new, lxa, b3⟩
  have bb3 := Below.next bb2 b3
  replace oy0 := oy0.below b3
  replace oy1 := oy1.below b3
  have oxa := oxa_new
  clear oxa_new
  go_wp2_with fail
  refine (HI.out xa _ oxa.here (ht.below bb3)).mono ?_
  rintro e w4 ⟨g0, Sg0, g1, Sg1, rfl, og0_new, og1_new, lg0, lg1, ap_g0_g1, b4⟩
  have AP_g0_g1 := Lib.hid ap_g0_g1
  clear ap_g0_g1
  have bb4 := Below.next bb3 b4
  replace oy0 := oy0.below b4
  replace oy1 := oy1.below b4
  replace oxa := oxa.below b4
  have og0 := og0_new
  clear og0_new
  have og1 := og1_new
  clear og1_new
  go_wp2_with fail
  refine (eqIntS_at g0 y0 R0 R0 _ (by omega) og0.here oy0.here).mono ?_
  rintro e w5 ⟨rfl, b5⟩
  rw [decide_refl]
  have bb5 := Below.next bb4 b5
  replace oy0 := oy0.below b5
  replace oy1 := oy1.below b5
  replace oxa := oxa.below b5
  replace og0 := og0.below b5
  replace og1 := og1.below b5
  go_wp2_with fail
  refine (eqIntS_at g1 y1 R1 R1 _ (by omega) og1.here oy1.here).mono ?_
  rintro e w6 ⟨rfl, b6⟩
  rw [decide_refl]
  have bb6 := Below.next bb5 b6
  replace oy0 := oy0.below b6
  replace oy1 := oy1.below b6
  replace oxa := oxa.below b6
  replace og0 := og0.below b6
  replace og1 := og1.below b6
  go_wp2_with fail
  refine (toIntS_at _ a _ _ _ bb6.size hla (qa.below bb6 (Nat.le_refl _))).mono ?_
  rintro e w7 ⟨fa, Sfa, rfl, ofa_new, lfa, b7⟩
  have bb7 := Below.next bb6 b7
  replace oy0 := oy0.below b7
  replace oy1 := oy1.below b7
  replace oxa := oxa.below b7
  replace og0 := og0.below b7
  replace og1 := og1.below b7
  have ofa := ofa_new
  clear ofa_new
  go_wp2_with fail
  refine (eqIntS_at xa fa a a _ (by omega) oxa.here ofa.here).mono ?_
  rintro e w8 ⟨rfl, b8⟩
  rw [decide_refl]
  have bb8 := Below.next bb7 b8
  replace oy0 := oy0.below b8
  replace oy1 := oy1.below b8
  replace oxa := oxa.below b8
  replace og0 := og0.below b8
  replace og1 := og1.below b8
  replace ofa := ofa.below b8
  clear ofa
  have z1 := b1.size
  have z2 := b2.size
  have z3 := b3.size
  have z4 := b4.size
  have Fxa := Lib.hid (lxa.from (B := w.heap.size) (by omega))
  have Fg0 := Lib.hid (lg0.from (B := w.heap.size) (by omega))
  have Fg1 := Lib.hid (lg1.from (B := w.heap.size) (by omega))
  have AP_xa_g0 := Lib.hid (lxa.apart lg0 (.inl (by omega)))
  have AP_xa_g1 := Lib.hid (lxa.apart lg1 (.inl (by omega)))
  have AP_y0_xa := Lib.hid (ly0.apart lxa (.inl (by omega)))
  have AP_y1_xa := Lib.hid (ly1.apart lxa (.inl (by omega)))
  have AP_y0_g0 := Lib.hid (ly0.apart lg0 (.inl (by omega)))
  have AP_y0_g1 := Lib.hid (ly0.apart lg1 (.inl (by omega)))
  have AP_y1_g0 := Lib.hid (ly1.apart lg0 (.inl (by omega)))
  have AP_y1_g1 := Lib.hid (ly1.apart lg1 (.inl (by omega)))
  clear z1
  clear z2
  clear z3
  clear z4
  go_wp2_with fail
  refine (markIntS_at xa a Sxa (1) _ (by omega) (by omega) oxa).mono ?_
  rintro e w9 ⟨rfl, oxa_new, c9⟩
  have bb9 := below_chg bb8 c9 bb8.size Fxa.out
  replace oy0 := oy0.chg c9 AP_y0_xa.out
  replace oy1 := oy1.chg c9 AP_y1_xa.out
  replace og0 := og0.chg c9 (apart_symm AP_xa_g0.out)
  replace og1 := og1.chg c9 (apart_symm AP_xa_g1.out)
  clear oxa
  have oxa := oxa_new
  clear oxa_new
  clear oxa
  go_wp2_with fail
  refine (eqIntS_at g0 y0 R0 R0 _ (by omega) og0.here oy0.here).mono ?_
  rintro e w10 ⟨rfl, b10⟩
  rw [decide_refl]
  have bb10 := Below.next bb9 b10
  replace oy0 := oy0.below b10
  replace oy1 := oy1.below b10
  replace og0 := og0.below b10
  replace og1 := og1.below b10
  go_wp2_with fail
  refine (eqIntS_at g1 y1 R1 R1 _ (by omega) og1.here oy1.here).mono ?_
  rintro e w11 ⟨rfl, b11⟩
  rw [decide_refl]
  have bb11 := Below.next bb10 b11
  replace oy0 := oy0.below b11
  replace oy1 := oy1.below b11
  replace og0 := og0.below b11
  replace og1 := og1.below b11
  go_wp2_with fail
  refine (markIntS_at g0 R0 Sg0 (1) _ (by omega) (by omega) og0).mono ?_
  rintro e w12 ⟨rfl, og0_new, c12⟩
  have bb12 := below_chg bb11 c12 bb11.size Fg0.out
  replace oy0 := oy0.chg c12 AP_y0_g0.out
  replace oy1 := oy1.chg c12 AP_y1_g0.out
  replace og1 := og1.chg c12 (apart_symm AP_g0_g1.out)
  clear og0
  have og0 := og0_new
  clear og0_new
  go_wp2_with fail
  refine (markIntS_at g1 R1 Sg1 (1 + szI R0) _ (by omega) (by omega) og1).mono ?_
  rintro e w13 ⟨rfl, og1_new, c13⟩
  have bb13 := below_chg bb12 c13 bb12.size Fg1.out
  replace oy0 := oy0.chg c13 AP_y0_g1.out
  replace oy1 := oy1.chg c13 AP_y1_g1.out
  replace og0 := og0.chg c13 AP_g0_g1.out
  clear og1
  have og1 := og1_new
  clear og1_new
  go_wp2_with fail
  refine (heldIntS_at g0 R0 (1) _ (by omega) (by omega) og0.here).mono ?_
  rintro e w14 ⟨rfl, b14⟩
  have bb14 := Below.next bb13 b14
  replace oy0 := oy0.below b14
  replace oy1 := oy1.below b14
  replace og0 := og0.below b14
  replace og1 := og1.below b14
  go_wp2_with fail
  refine (heldIntS_at g1 R1 (1 + szI R0) _ (by omega) (by omega) og1.here).mono ?_
  rintro e w15 ⟨rfl, b15⟩
  have bb15 := Below.next bb14 b15
  replace oy0 := oy0.below b15
  replace oy1 := oy1.below b15
  replace og0 := og0.below b15
  replace og1 := og1.below b15
  go_wp2_with fail
  refine (toIntS_at _ a _ _ _ bb15.size hla (qa.below bb15 (Nat.le_refl _))).mono ?_
  rintro e w16 ⟨ta, Sta, rfl, ota_new, lta, b16⟩
  have bb16 := Below.next bb15 b16
  replace oy0 := oy0.below b16
  replace oy1 := oy1.below b16
  replace og0 := og0.below b16
  replace og1 := og1.below b16
  have ota := ota_new
  clear ota_new
  go_wp2_with fail
  refine (HI.out ta _ ota.here (ht.below bb16)).mono ?_
  rintro e w17 ⟨h0, Sh0, h1, Sh1, rfl, oh0_new, oh1_new, lh0, lh1, ap_h0_h1, b17⟩
  have AP_h0_h1 := Lib.hid ap_h0_h1
  clear ap_h0_h1
  have bb17 := Below.next bb16 b17
  replace oy0 := oy0.below b17
  replace oy1 := oy1.below b17
  replace og0 := og0.below b17
  replace og1 := og1.below b17
  replace ota := ota.below b17
  have oh0 := oh0_new
  clear oh0_new
  have oh1 := oh1_new
  clear oh1_new
  clear ota
  go_wp2_with fail
  refine (eqIntS_at h0 y0 R0 R0 _ (by omega) oh0.here oy0.here).mono ?_
  rintro e w18 ⟨rfl, b18⟩
  rw [decide_refl]
  have bb18 := Below.next bb17 b18
  replace oy0 := oy0.below b18
  replace oy1 := oy1.below b18
  replace og0 := og0.below b18
  replace og1 := og1.below b18
  replace oh0 := oh0.below b18
  replace oh1 := oh1.below b18
  go_wp2_with fail
  refine (eqIntS_at h1 y1 R1 R1 _ (by omega) oh1.here oy1.here).mono ?_
  rintro e w19 ⟨rfl, b19⟩
  rw [decide_refl]
  have bb19 := Below.next bb18 b19
  replace oy0 := oy0.below b19
  replace oy1 := oy1.below b19
  replace og0 := og0.below b19
  replace og1 := og1.below b19
  replace oh0 := oh0.below b19
  replace oh1 := oh1.below b19
  go_wp2_with fail
  refine (heldIntS_at g0 R0 (1) _ (by omega) (by omega) og0.here).mono ?_
  rintro e w20 ⟨rfl, b20⟩
  have bb20 := Below.next bb19 b20
  replace oy0 := oy0.below b20
  replace oy1 := oy1.below b20
  replace og0 := og0.below b20
  replace og1 := og1.below b20
  replace oh0 := oh0.below b20
  replace oh1 := oh1.below b20
  go_wp2_with fail
  refine (heldIntS_at g1 R1 (1 + szI R0) _ (by omega) (by omega) og1.here).mono ?_
  rintro e w21 ⟨rfl, b21⟩
  have bb21 := Below.next bb20 b21
  replace oy0 := oy0.below b21
  replace oy1 := oy1.below b21
  replace og0 := og0.below b21
  replace og1 := og1.below b21
  replace oh0 := oh0.below b21
  replace oh1 := oh1.below b21
  go_wp2
  go_ret
  exact ⟨rfl, bb21⟩

theorem specNatCut_at (a : List Int) (k : Int) (hla : a.length ≤ 1048576) : ∀ (ua : Value) (W : World), OwnI ua a W → Calls Tryd.prog 29 #[ua, (.int .i64 k)] W (PostII ((cutN a k).1) ((cutN a k).2) W) :=
  fun ua W ha  => (specNatCut_any ua a k _ _ W hla (Nat.le_refl _) ha.row).mono fun _ _ h => h.postII

theorem lawNatCut (va : Value) (a : List Int) (k : Int) (w : World)
    (hI : a.length ≤ 1048576 → ∀ (ua : Value) (W : World), OwnI ua a W → Sen W → Calls Tryd.prog 11 #[ua, (.int .i64 k)] W (PostII ((cutN a k).1) ((cutN a k).2) W))
    (hma : a.length ≤ 9223372036854775807) (ht : Sen w) (ra : Row w 0 w.heap.size va (intsV a)) :
    Calls Tryd.prog 6 #[va, (.int .i64 k)] w fun e w' => e = .returned (.bool true) ∧ Below w.heap.size w w' := by
  by_cases hla : a.length ≤ 1048576
  · skip
    exact lawNatCut_walk va a k (((cutN a k).1)) (((cutN a k).2)) w (specNatCut_at a k hla) (hI hla) hla ((cutN_len a k).1) ((cutN_len a k).2) ht ra
  · skip
    obtain ⟨Aa, ca, rfl, _⟩ := ra
    rw [intsV_length]
    go_enter Tryd.func6, Tryd.ntmps6
    go_wp2
    go_ret
    exact ⟨rfl, Below.refl _ _⟩

end Go.Proofs.YtccajcddijhmcaaDoor
