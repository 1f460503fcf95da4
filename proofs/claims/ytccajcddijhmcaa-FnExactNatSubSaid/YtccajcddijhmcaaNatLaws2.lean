/-
  The laws of NatCmp, NatOf and TextNat, walked over the contracts of both packages.
-/
import Derived.Test.YtccajcddijhmcaaNatLaws
namespace Go.Proofs.Ytccajcddijhmcaa
open Go.RowKit

set_option maxHeartbeats 800000 in
set_option maxRecDepth 100000 in
theorem lawNatCmp_small (implNatCmp_any : ∀ (va vb : Value) (a b : List Int) (la ha lb hb : Nat) (w : World), a.length ≤ 1048576 → b.length ≤ 1048576 → ha ≤ w.heap.size → hb ≤ w.heap.size →
    Row w la ha va (intsV a) → Row w lb hb vb (intsV b) → Calls Try.prog 15 #[va, vb] w fun e w' => e = .returned (.int .i64 (cmpN a b)) ∧ Below w.heap.size w w')
    (va vb : Value) (a b : List Int) (w : World) (hla : a.length ≤ 1048576) (hlb : b.length ≤ 1048576) (hra : Row w 0 w.heap.size va (intsV a)) (hrb : Row w 0 w.heap.size vb (intsV b)) :
    Calls Try.prog 4 #[va, vb] w fun e w' => e = .returned (.bool true) ∧ Below w.heap.size w w' := by
  have ra := hra
  have rb := hrb
  obtain ⟨A, ca, rfl, _⟩ := hra
  obtain ⟨B, cb, rfl, _⟩ := hrb
  rw [intsV_length] at ra rb ⊢
  rw [intsV_length]
  go_enter Try.func4, Try.ntmps4
  go_wp2_with fail
  refine (toIntS_any _ a _ _ _ (Nat.le_refl _) hla ra).mono ?_
  rintro e w1 ⟨v1, rfl, o1, b1⟩
  go_wp2_with fail
  refine (toIntS_any _ b _ _ _ b1.size hlb (rb.below b1 (Nat.le_refl _))).mono ?_
  rintro e w2 ⟨v2, rfl, o2, b2⟩
  have bb2 := Below.next b1 b2
  go_wp2_with fail
  refine (specNatCmp_any v1 v2 a b _ _ _ _ _ hla hlb (Row.of_own (own_below o1 b2)) (Row.of_own o2)).mono ?_
  rintro e w3 ⟨rfl, q3, rfl⟩
  have bb3 := below_drewN bb2 q3
  go_wp2_with fail
  refine (toIntS_any _ a _ _ _ bb3.size hla (ra.below bb3 (Nat.le_refl _))).mono ?_
  rintro e w4 ⟨x0, rfl, ox, b4⟩
  have bb4 := Below.next bb3 b4
  go_wp2_with fail
  refine (toIntS_any _ b _ _ _ bb4.size hlb (rb.below bb4 (Nat.le_refl _))).mono ?_
  rintro e w5 ⟨x1, rfl, oy, b5⟩
  have bb5 := Below.next bb4 b5
  have ox5 := own_below ox b5
  go_wp2_with fail
  refine (implNatCmp_any x0 x1 a b _ _ _ _ _ hla hlb (Nat.le_refl _) (Nat.le_refl _) (Row.of_own ox5) (Row.of_own oy)).mono ?_
  rintro e w6 ⟨rfl, b6⟩
  have bb6 := Below.next bb5 b6
  have ox6 := own_below ox5 b6
  have oy6 := own_below oy b6
  go_wp2_with fail
  refine (toIntS_any _ a _ _ _ bb6.size hla (ra.below bb6 (Nat.le_refl _))).mono ?_
  rintro e w8 ⟨v8, rfl, o8, b8⟩
  have bb8 := Below.next bb6 b8
  have ox8 := own_below ox6 b8
  have oy8 := own_below oy6 b8
  go_wp2_with fail
  refine (eqIntS_any x0 v8 a a _ _ _ _ _ (by omega) (Row.of_own ox8) (Row.of_own o8)).mono ?_
  rintro e w9 ⟨rfl, q9, rfl⟩
  rw [decide_refl]
  have bb9 := below_drewN bb8 q9
  go_wp2_with fail
  refine (toIntS_any _ b _ _ _ bb9.size hlb (rb.below bb9 (Nat.le_refl _))).mono ?_
  rintro e w10 ⟨v10, rfl, o10, b10⟩
  have bb10 := Below.next bb9 b10
  have oy10 := own_below (own_drew oy8 q9) b10
  go_wp2_with fail
  refine (eqIntS_any x1 v10 b b _ _ _ _ _ (by omega) (Row.of_own oy10) (Row.of_own o10)).mono ?_
  rintro e w11 ⟨rfl, q11, rfl⟩
  rw [decide_refl]
  go_wp2
  go_ret
  exact ⟨rfl, below_drewN bb10 q11⟩


end Go.Proofs.Ytccajcddijhmcaa
