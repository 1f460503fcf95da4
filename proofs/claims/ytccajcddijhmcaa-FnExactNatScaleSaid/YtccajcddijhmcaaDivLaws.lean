/-
  The laws of chapter 4, walked: they return true wherever both packages answer alike.
-/
import Derived.Test.YtccajcddijhmcaaObj
namespace Go.Proofs.Ytccajcddijhmcaa
open Go.RowKit



set_option maxHeartbeats 2000000 in
set_option maxRecDepth 100000 in
theorem lawNatTen_walk  (k : Int) (R0 : List Int) (w : World)
    (hS : ∀ (W : World), Calls Try.prog 20 #[(.int .i64 k)] W (PostI R0 W))
    (hI : ∀ (W : World), Calls Try.prog 21 #[(.int .i64 k)] W (PostI R0 W))
     (hlR0 : R0.length ≤ 1048576)
     :
    Calls Try.prog 6 #[(.int .i64 k)] w fun e w' => e = .returned (.bool true) ∧ Below w.heap.size w w' := by
  have HS := Lib.hid hS
  have HI := Lib.hid hI
  clear hS hI
  have hsR00 : 0 ≤ szI R0 := by unfold szI; omega
  have hsR01 : szI R0 ≤ 1048576 := by unfold szI; omega
  have bb0 : Below w.heap.size w w := Below.refl _ _
  go_enter Try.func6, Try.ntmps6
  go_wp2_with fail
  refine (HS.out _ ).mono ?_
  rintro e w1 ⟨y0, Sy0, rfl, oy0_new, ly0, b1⟩
  have bb1 := Below.next bb0 b1
  have oy0 := oy0_new
  clear oy0_new
  go_wp2_with fail
  refine (HI.out _ ).mono ?_
  rintro e w2 ⟨g0, Sg0, rfl, og0_new, lg0, b2⟩
  have bb2 := Below.next bb1 b2
  replace oy0 := oy0.below b2
  have og0 := og0_new
  clear og0_new
  go_wp2_with fail
  refine (eqIntS_at g0 y0 R0 R0 _ (by omega) og0.here oy0.here).mono ?_
  rintro e w3 ⟨rfl, b3⟩
  rw [decide_refl]
  have bb3 := Below.next bb2 b3
  replace oy0 := oy0.below b3
  replace og0 := og0.below b3
  have z1 := b1.size
  have z2 := b2.size
  have Fg0 := Lib.hid (lg0.from (B := w.heap.size) (by omega))
  have AP_y0_g0 := Lib.hid (ly0.apart lg0 (.inl (by omega)))
  clear z1
  clear z2
  go_wp2_with fail
  refine (markIntS_at g0 R0 Sg0 (1) _ (by omega) (by omega) og0).mono ?_
  rintro e w4 ⟨rfl, og0_new, c4⟩
  have bb4 := below_chg bb3 c4 bb3.size Fg0.out
  replace oy0 := oy0.chg c4 AP_y0_g0.out
  clear og0
  have og0 := og0_new
  clear og0_new
  go_wp2_with fail
  refine (heldIntS_at g0 R0 (1) _ (by omega) (by omega) og0.here).mono ?_
  rintro e w5 ⟨rfl, b5⟩
  have bb5 := Below.next bb4 b5
  replace oy0 := oy0.below b5
  replace og0 := og0.below b5
  go_wp2_with fail
  refine (HI.out _ ).mono ?_
  rintro e w6 ⟨h0, Sh0, rfl, oh0_new, lh0, b6⟩
  have bb6 := Below.next bb5 b6
  replace oy0 := oy0.below b6
  replace og0 := og0.below b6
  have oh0 := oh0_new
  clear oh0_new
  go_wp2_with fail
  refine (eqIntS_at h0 y0 R0 R0 _ (by omega) oh0.here oy0.here).mono ?_
  rintro e w7 ⟨rfl, b7⟩
  rw [decide_refl]
  have bb7 := Below.next bb6 b7
  replace oy0 := oy0.below b7
  replace og0 := og0.below b7
  replace oh0 := oh0.below b7
  go_wp2_with fail
  refine (heldIntS_at g0 R0 (1) _ (by omega) (by omega) og0.here).mono ?_
  rintro e w8 ⟨rfl, b8⟩
  have bb8 := Below.next bb7 b8
  replace oy0 := oy0.below b8
  replace og0 := og0.below b8
  replace oh0 := oh0.below b8
  go_wp2
  go_ret
  exact ⟨rfl, bb8⟩

set_option maxHeartbeats 2000000 in
set_option maxRecDepth 100000 in
theorem lawNatScale_walk (va : Value) (a : List Int) (k : Int) (R0 : List Int) (w : World)
    (hS : ∀ (ua : Value) (W : World), OwnI ua a W → Calls Try.prog 22 #[ua, (.int .i64 k)] W (PostI R0 W))
    (hI : ∀ (ua : Value) (W : World), OwnI ua a W → Calls Try.prog 23 #[ua, (.int .i64 k)] W (PostI R0 W))
    (hla : a.length ≤ 1048576) (hlR0 : R0.length ≤ 1048576)
    (ra : Row w 0 w.heap.size va (intsV a)) :
    Calls Try.prog 7 #[va, (.int .i64 k)] w fun e w' => e = .returned (.bool true) ∧ Below w.heap.size w w' := by
  have qa := ra
  obtain ⟨Aa, ca, rfl, _⟩ := ra
  rw [intsV_length] at qa ⊢
  have HS := Lib.hid hS
  have HI := Lib.hid hI
  clear hS hI
  have hsa0 : 0 ≤ szI a := by unfold szI; omega
  have hsa1 : szI a ≤ 1048576 := by unfold szI; omega
  have hsR00 : 0 ≤ szI R0 := by unfold szI; omega
  have hsR01 : szI R0 ≤ 1048576 := by unfold szI; omega
  have bb0 : Below w.heap.size w w := Below.refl _ _
  go_enter Try.func7, Try.ntmps7
  go_wp2_with fail
  refine (toIntS_at _ a _ _ _ bb0.size hla (qa.below bb0 (Nat.le_refl _))).mono ?_
  rintro e w1 ⟨ta, Sta, rfl, ota_new, lta, b1⟩
  have bb1 := Below.next bb0 b1
  have ota := ota_new
  clear ota_new
  go_wp2_with fail
  refine (HS.out ta _ ota.here).mono ?_
  rintro e w2 ⟨y0, Sy0, rfl, oy0_new, ly0, b2⟩
  have bb2 := Below.next bb1 b2
  replace ota := ota.below b2
  have oy0 := oy0_new
  clear oy0_new
  clear ota
  go_wp2_with fail
  refine (toIntS_at _ a _ _ _ bb2.size hla (qa.below bb2 (Nat.le_refl _))).mono ?_
  rintro e w3 ⟨xa, Sxa, rfl, oxa_new, lxa, b3⟩
  have bb3 := Below.next bb2 b3
  replace oy0 := oy0.below b3
  have oxa := oxa_new
  clear oxa_new
  go_wp2_with fail
  refine (HI.out xa _ oxa.here).mono ?_
  rintro e w4 ⟨g0, Sg0, rfl, og0_new, lg0, b4⟩
  have bb4 := Below.next bb3 b4
  replace oy0 := oy0.below b4
  replace oxa := oxa.below b4
  have og0 := og0_new
  clear og0_new
  go_wp2_with fail
  refine (eqIntS_at g0 y0 R0 R0 _ (by omega) og0.here oy0.here).mono ?_
  rintro e w5 ⟨rfl, b5⟩
  rw [decide_refl]
  have bb5 := Below.next bb4 b5
  replace oy0 := oy0.below b5
  replace oxa := oxa.below b5
  replace og0 := og0.below b5
  go_wp2_with fail
  refine (toIntS_at _ a _ _ _ bb5.size hla (qa.below bb5 (Nat.le_refl _))).mono ?_
  rintro e w6 ⟨fa, Sfa, rfl, ofa_new, lfa, b6⟩
  have bb6 := Below.next bb5 b6
  replace oy0 := oy0.below b6
  replace oxa := oxa.below b6
  replace og0 := og0.below b6
  have ofa := ofa_new
  clear ofa_new
  go_wp2_with fail
  refine (eqIntS_at xa fa a a _ (by omega) oxa.here ofa.here).mono ?_
  rintro e w7 ⟨rfl, b7⟩
  rw [decide_refl]
  have bb7 := Below.next bb6 b7
  replace oy0 := oy0.below b7
  replace oxa := oxa.below b7
  replace og0 := og0.below b7
  replace ofa := ofa.below b7
  clear ofa
  have z1 := b1.size
  have z2 := b2.size
  have z3 := b3.size
  have z4 := b4.size
  have Fxa := Lib.hid (lxa.from (B := w.heap.size) (by omega))
  have Fg0 := Lib.hid (lg0.from (B := w.heap.size) (by omega))
  have AP_xa_g0 := Lib.hid (lxa.apart lg0 (.inl (by omega)))
  have AP_y0_xa := Lib.hid (ly0.apart lxa (.inl (by omega)))
  have AP_y0_g0 := Lib.hid (ly0.apart lg0 (.inl (by omega)))
  clear z1
  clear z2
  clear z3
  clear z4
  go_wp2_with fail
  refine (markIntS_at xa a Sxa (1) _ (by omega) (by omega) oxa).mono ?_
  rintro e w8 ⟨rfl, oxa_new, c8⟩
  have bb8 := below_chg bb7 c8 bb7.size Fxa.out
  replace oy0 := oy0.chg c8 AP_y0_xa.out
  replace og0 := og0.chg c8 (apart_symm AP_xa_g0.out)
  clear oxa
  have oxa := oxa_new
  clear oxa_new
  clear oxa
  go_wp2_with fail
  refine (eqIntS_at g0 y0 R0 R0 _ (by omega) og0.here oy0.here).mono ?_
  rintro e w9 ⟨rfl, b9⟩
  rw [decide_refl]
  have bb9 := Below.next bb8 b9
  replace oy0 := oy0.below b9
  replace og0 := og0.below b9
  go_wp2_with fail
  refine (markIntS_at g0 R0 Sg0 (1) _ (by omega) (by omega) og0).mono ?_
  rintro e w10 ⟨rfl, og0_new, c10⟩
  have bb10 := below_chg bb9 c10 bb9.size Fg0.out
  replace oy0 := oy0.chg c10 AP_y0_g0.out
  clear og0
  have og0 := og0_new
  clear og0_new
  go_wp2_with fail
  refine (heldIntS_at g0 R0 (1) _ (by omega) (by omega) og0.here).mono ?_
  rintro e w11 ⟨rfl, b11⟩
  have bb11 := Below.next bb10 b11
  replace oy0 := oy0.below b11
  replace og0 := og0.below b11
  go_wp2_with fail
  refine (toIntS_at _ a _ _ _ bb11.size hla (qa.below bb11 (Nat.le_refl _))).mono ?_
  rintro e w12 ⟨ta, Sta, rfl, ota_new, lta, b12⟩
  have bb12 := Below.next bb11 b12
  replace oy0 := oy0.below b12
  replace og0 := og0.below b12
  have ota := ota_new
  clear ota_new
  go_wp2_with fail
  refine (HI.out ta _ ota.here).mono ?_
  rintro e w13 ⟨h0, Sh0, rfl, oh0_new, lh0, b13⟩
  have bb13 := Below.next bb12 b13
  replace oy0 := oy0.below b13
  replace og0 := og0.below b13
  replace ota := ota.below b13
  have oh0 := oh0_new
  clear oh0_new
  clear ota
  go_wp2_with fail
  refine (eqIntS_at h0 y0 R0 R0 _ (by omega) oh0.here oy0.here).mono ?_
  rintro e w14 ⟨rfl, b14⟩
  rw [decide_refl]
  have bb14 := Below.next bb13 b14
  replace oy0 := oy0.below b14
  replace og0 := og0.below b14
  replace oh0 := oh0.below b14
  go_wp2_with fail
  refine (heldIntS_at g0 R0 (1) _ (by omega) (by omega) og0.here).mono ?_
  rintro e w15 ⟨rfl, b15⟩
  have bb15 := Below.next bb14 b15
  replace oy0 := oy0.below b15
  replace og0 := og0.below b15
  replace oh0 := oh0.below b15
  go_wp2
  go_ret
  exact ⟨rfl, bb15⟩


set_option maxHeartbeats 2000000 in
set_option maxRecDepth 100000 in
theorem lawNatEven_walk (va : Value) (a : List Int) (R0 : Bool) (w : World)
    (hS : ∀ (ua : Value) (W : World), OwnI ua a W → Calls Try.prog 26 #[ua] W (Postb R0 W))
    (hI : ∀ (ua : Value) (W : World), OwnI ua a W → Calls Try.prog 27 #[ua] W (Postb R0 W))
    (hla : a.length ≤ 1048576)
    (ra : Row w 0 w.heap.size va (intsV a)) :
    Calls Try.prog 9 #[va] w fun e w' => e = .returned (.bool true) ∧ Below w.heap.size w w' := by
  have qa := ra
  obtain ⟨Aa, ca, rfl, _⟩ := ra
  rw [intsV_length] at qa ⊢
  have HS := Lib.hid hS
  have HI := Lib.hid hI
  clear hS hI
  have hsa0 : 0 ≤ szI a := by unfold szI; omega
  have hsa1 : szI a ≤ 1048576 := by unfold szI; omega
  have bb0 : Below w.heap.size w w := Below.refl _ _
  go_enter Try.func9, Try.ntmps9
  go_wp2_with fail
  refine (toIntS_at _ a _ _ _ bb0.size hla (qa.below bb0 (Nat.le_refl _))).mono ?_
  rintro e w1 ⟨ta, Sta, rfl, ota_new, lta, b1⟩
  have bb1 := Below.next bb0 b1
  have ota := ota_new
  clear ota_new
  go_wp2_with fail
  refine (HS.out ta _ ota.here).mono ?_
  rintro e w2 ⟨rfl, b2⟩
  have bb2 := Below.next bb1 b2
  replace ota := ota.below b2
  clear ota
  go_wp2_with fail
  refine (toIntS_at _ a _ _ _ bb2.size hla (qa.below bb2 (Nat.le_refl _))).mono ?_
  rintro e w3 ⟨xa, Sxa, rfl, oxa_new, lxa, b3⟩
  have bb3 := Below.next bb2 b3
  have oxa := oxa_new
  clear oxa_new
  go_wp2_with fail
  refine (HI.out xa _ oxa.here).mono ?_
  rintro e w4 ⟨rfl, b4⟩
  have bb4 := Below.next bb3 b4
  replace oxa := oxa.below b4
  go_wp2_with fail
  refine (toIntS_at _ a _ _ _ bb4.size hla (qa.below bb4 (Nat.le_refl _))).mono ?_
  rintro e w5 ⟨fa, Sfa, rfl, ofa_new, lfa, b5⟩
  have bb5 := Below.next bb4 b5
  replace oxa := oxa.below b5
  have ofa := ofa_new
  clear ofa_new
  go_wp2_with fail
  refine (eqIntS_at xa fa a a _ (by omega) oxa.here ofa.here).mono ?_
  rintro e w6 ⟨rfl, b6⟩
  rw [decide_refl]
  have bb6 := Below.next bb5 b6
  replace oxa := oxa.below b6
  replace ofa := ofa.below b6
  clear ofa
  go_wp2
  go_ret
  exact ⟨rfl, bb6⟩

set_option maxHeartbeats 2000000 in
set_option maxRecDepth 100000 in
theorem lawNatZeros_walk (va : Value) (a : List Int) (R0 : Int) (w : World)
    (hS : ∀ (ua : Value) (W : World), OwnI ua a W → Calls Try.prog 24 #[ua] W (Postn R0 W))
    (hI : ∀ (ua : Value) (W : World), OwnI ua a W → Calls Try.prog 25 #[ua] W (Postn R0 W))
    (hla : a.length ≤ 1048576)
    (ra : Row w 0 w.heap.size va (intsV a)) :
    Calls Try.prog 8 #[va] w fun e w' => e = .returned (.bool true) ∧ Below w.heap.size w w' := by
  have qa := ra
  obtain ⟨Aa, ca, rfl, _⟩ := ra
  rw [intsV_length] at qa ⊢
  have HS := Lib.hid hS
  have HI := Lib.hid hI
  clear hS hI
  have hsa0 : 0 ≤ szI a := by unfold szI; omega
  have hsa1 : szI a ≤ 1048576 := by unfold szI; omega
  have bb0 : Below w.heap.size w w := Below.refl _ _
  go_enter Try.func8, Try.ntmps8
  go_wp2_with fail
  refine (toIntS_at _ a _ _ _ bb0.size hla (qa.below bb0 (Nat.le_refl _))).mono ?_
  rintro e w1 ⟨ta, Sta, rfl, ota_new, lta, b1⟩
  have bb1 := Below.next bb0 b1
  have ota := ota_new
  clear ota_new
  go_wp2_with fail
  refine (HS.out ta _ ota.here).mono ?_
  rintro e w2 ⟨rfl, b2⟩
  have bb2 := Below.next bb1 b2
  replace ota := ota.below b2
  clear ota
  go_wp2_with fail
  refine (toIntS_at _ a _ _ _ bb2.size hla (qa.below bb2 (Nat.le_refl _))).mono ?_
  rintro e w3 ⟨xa, Sxa, rfl, oxa_new, lxa, b3⟩
  have bb3 := Below.next bb2 b3
  have oxa := oxa_new
  clear oxa_new
  go_wp2_with fail
  refine (HI.out xa _ oxa.here).mono ?_
  rintro e w4 ⟨rfl, b4⟩
  have bb4 := Below.next bb3 b4
  replace oxa := oxa.below b4
  go_wp2_with fail
  refine (toIntS_at _ a _ _ _ bb4.size hla (qa.below bb4 (Nat.le_refl _))).mono ?_
  rintro e w5 ⟨fa, Sfa, rfl, ofa_new, lfa, b5⟩
  have bb5 := Below.next bb4 b5
  replace oxa := oxa.below b5
  have ofa := ofa_new
  clear ofa_new
  go_wp2_with fail
  refine (eqIntS_at xa fa a a _ (by omega) oxa.here ofa.here).mono ?_
  rintro e w6 ⟨rfl, b6⟩
  rw [decide_refl]
  have bb6 := Below.next bb5 b6
  replace oxa := oxa.below b6
  replace ofa := ofa.below b6
  clear ofa
  go_wp2
  go_ret
  exact ⟨rfl, bb6⟩
end Go.Proofs.Ytccajcddijhmcaa
