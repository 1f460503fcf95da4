/-
  The laws of NatText and NatDigits, walked over the contracts of both packages.
-/
import Derived.Test.YtlbllcjkefndjaaDoorNatText
namespace Go.Proofs.YtlbllcjkefndjaaDoor
open Go.RowKit

theorem decide_refl2 {α : Type} [DecidableEq α] (x : α) : decide (x = x) = true := decide_eq_true rfl

set_option maxHeartbeats 400000 in
theorem lawNatText (implNatText_any : ∀ (v : Value) (a : List Int) (lo hi : Nat) (w : World), a.length ≤ 1048576 → hi ≤ w.heap.size → Row w lo hi v (intsV a) → Tab w →
      Calls Tryd.prog 11 #[v] w fun e w' => e = .returned (.string (natTextB a)) ∧ Below w.heap.size w w')
    (v : Value) (a : List Int) (w : World) (hm : a.length ≤ 9223372036854775807) (hr : Row w 0 w.heap.size v (intsV a)) (ht : Tab w) :
    Calls Tryd.prog 4 #[v] w fun e w' => e = .returned (.bool true) ∧ Below w.heap.size w w' := by
  have hr0 := hr
  obtain ⟨A, c, rfl, _⟩ := hr
  rw [intsV_length] at hr0 ⊢
  by_cases hl : a.length ≤ 1048576
  · go_enter Tryd.func4, Tryd.ntmps4
    go_wp2_with fail
    refine (toIntS_any _ a _ _ _ (Nat.le_refl _) hl hr0).mono ?_
    rintro e w1 ⟨v1, rfl, o1, b1⟩
    go_wp2_with fail
    refine (specNatText_any v1 a _ _ _ hl (Nat.le_refl _) (Row.of_own o1)).mono ?_
    rintro e w2 ⟨rfl, b2⟩
    have bb2 : Below w.heap.size w w2 := Below.next b1 b2
    have r2 := hr0.below bb2 (Nat.le_refl _)
    have z2 := bb2.size
    go_wp2_with fail
    refine (toIntS_any _ a _ _ _ z2 hl r2).mono ?_
    rintro e w3 ⟨v3, rfl, o3, b3⟩
    go_wp2_with fail
    refine (implNatText_any v3 a _ _ _ hl (Nat.le_refl _) (Row.of_own o3) (ht.below (Below.next bb2 b3))).mono ?_
    rintro e w4 ⟨rfl, b4⟩
    have bb4 := Below.next (Below.next bb2 b3) b4
    have r4 := hr0.below bb4 (Nat.le_refl _)
    have z4 := bb4.size
    have o34 := own_below o3 b4
    go_wp2_with fail
    refine (toIntS_any _ a _ _ _ z4 hl r4).mono ?_
    rintro e w5 ⟨v5, rfl, o5, b5⟩
    go_wp2_with fail
    refine (eqIntS_any v3 v5 a a _ _ _ _ _ (by omega) (Row.of_own (own_below o34 b5)) (Row.of_own o5)).mono ?_
    rintro e w6 ⟨rfl, q6, rfl⟩
    rw [decide_refl2]
    go_wp2
    go_ret
    exact ⟨rfl, below_drewN (Below.next bb4 b5) q6⟩
  · go_enter Tryd.func4, Tryd.ntmps4
    go_wp2
    go_ret
    exact ⟨rfl, Below.refl _ _⟩

set_option maxHeartbeats 400000 in
theorem lawNatDigits (implNatDigits_any : ∀ (v : Value) (a : List Int) (lo hi : Nat) (w : World), a.length ≤ 1048576 → hi ≤ w.heap.size → Row w lo hi v (intsV a) → Tab w →
      Calls Tryd.prog 8 #[v] w fun e w' => e = .returned (.int .i64 (natDigB a)) ∧ Below w.heap.size w w')
    (v : Value) (a : List Int) (w : World) (hm : a.length ≤ 9223372036854775807) (hr : Row w 0 w.heap.size v (intsV a)) (ht : Tab w) :
    Calls Tryd.prog 3 #[v] w fun e w' => e = .returned (.bool true) ∧ Below w.heap.size w w' := by
  have hr0 := hr
  obtain ⟨A, c, rfl, _⟩ := hr
  rw [intsV_length] at hr0 ⊢
  by_cases hl : a.length ≤ 1048576
  · go_enter Tryd.func3, Tryd.ntmps3
    go_wp2_with fail
    refine (toIntS_any _ a _ _ _ (Nat.le_refl _) hl hr0).mono ?_
    rintro e w1 ⟨v1, rfl, o1, b1⟩
    go_wp2_with fail
    refine (specNatDigits_any v1 a _ _ _ hl (Nat.le_refl _) (Row.of_own o1)).mono ?_
    rintro e w2 ⟨rfl, b2⟩
    have bb2 : Below w.heap.size w w2 := Below.next b1 b2
    have r2 := hr0.below bb2 (Nat.le_refl _)
    have z2 := bb2.size
    go_wp2_with fail
    refine (toIntS_any _ a _ _ _ z2 hl r2).mono ?_
    rintro e w3 ⟨v3, rfl, o3, b3⟩
    go_wp2_with fail
    refine (implNatDigits_any v3 a _ _ _ hl (Nat.le_refl _) (Row.of_own o3) (ht.below (Below.next bb2 b3))).mono ?_
    rintro e w4 ⟨rfl, b4⟩
    have bb4 := Below.next (Below.next bb2 b3) b4
    have r4 := hr0.below bb4 (Nat.le_refl _)
    have z4 := bb4.size
    have o34 := own_below o3 b4
    go_wp2_with fail
    refine (toIntS_any _ a _ _ _ z4 hl r4).mono ?_
    rintro e w5 ⟨v5, rfl, o5, b5⟩
    go_wp2_with fail
    refine (eqIntS_any v3 v5 a a _ _ _ _ _ (by omega) (Row.of_own (own_below o34 b5)) (Row.of_own o5)).mono ?_
    rintro e w6 ⟨rfl, q6, rfl⟩
    rw [decide_refl2]
    go_wp2
    go_ret
    exact ⟨rfl, below_drewN (Below.next bb4 b5) q6⟩
  · go_enter Tryd.func3, Tryd.ntmps3
    go_wp2
    go_ret
    exact ⟨rfl, Below.refl _ _⟩
end Go.Proofs.YtlbllcjkefndjaaDoor
