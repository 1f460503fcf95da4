/-
  The laws of chapter 3, for arguments of any size.
-/
import Derived.Test.YtccajcddijhmcaaNatLaws2
namespace Go.Proofs.Ytccajcddijhmcaa
open Go.RowKit


theorem lawNatInt (v : Value) (a : List Int) (w : World) (hm : a.length ≤ 9223372036854775807) (hr : Row w 0 w.heap.size v (intsV a)) :
    Calls Try.prog 3 #[v] w fun e w' => e = .returned (.bool true) ∧ Below w.heap.size w w' := by
  by_cases hl : a.length ≤ 1048576
  · exact lawNatInt_small v a w hl hr
  · obtain ⟨A, c, rfl, _⟩ := hr
    rw [intsV_length]
    go_enter Try.func3, Try.ntmps3
    go_wp2
    go_ret
    exact ⟨rfl, Below.refl _ _⟩


theorem lawNatSub (va vb : Value) (a b : List Int) (w : World) (hma : a.length ≤ 9223372036854775807) (hmb : b.length ≤ 9223372036854775807) (hra : Row w 0 w.heap.size va (intsV a)) (hrb : Row w 0 w.heap.size vb (intsV b)) :
    Calls Try.prog 5 #[va, vb] w fun e w' => e = .returned (.bool true) ∧ Below w.heap.size w w' := by
  by_cases hl : a.length ≤ 1048576
  · by_cases hk : b.length ≤ 1048576
    · exact lawNatSub_small va vb a b w hl hk hra hrb
    · obtain ⟨A, ca, rfl, _⟩ := hra
      obtain ⟨B, cb, rfl, _⟩ := hrb
      rw [intsV_length, intsV_length]
      go_enter Try.func5, Try.ntmps5
      go_wp2
      go_ret
      exact ⟨rfl, Below.refl _ _⟩
  · obtain ⟨A, ca, rfl, _⟩ := hra
    rw [intsV_length]
    go_enter Try.func5, Try.ntmps5
    go_wp2
    go_ret
    exact ⟨rfl, Below.refl _ _⟩


theorem lawNatCmp (h : ∀ (va vb : Value) (a b : List Int) (la ha lb hb : Nat) (w : World), a.length ≤ 1048576 → b.length ≤ 1048576 → ha ≤ w.heap.size → hb ≤ w.heap.size →
    Row w la ha va (intsV a) → Row w lb hb vb (intsV b) → Calls Try.prog 15 #[va, vb] w fun e w' => e = .returned (.int .i64 (cmpN a b)) ∧ Below w.heap.size w w') (va vb : Value) (a b : List Int) (w : World) (hma : a.length ≤ 9223372036854775807) (hmb : b.length ≤ 9223372036854775807) (hra : Row w 0 w.heap.size va (intsV a)) (hrb : Row w 0 w.heap.size vb (intsV b)) :
    Calls Try.prog 4 #[va, vb] w fun e w' => e = .returned (.bool true) ∧ Below w.heap.size w w' := by
  by_cases hl : a.length ≤ 1048576
  · by_cases hk : b.length ≤ 1048576
    · exact lawNatCmp_small h va vb a b w hl hk hra hrb
    · obtain ⟨A, ca, rfl, _⟩ := hra
      obtain ⟨B, cb, rfl, _⟩ := hrb
      rw [intsV_length, intsV_length]
      go_enter Try.func4, Try.ntmps4
      go_wp2
      go_ret
      exact ⟨rfl, Below.refl _ _⟩
  · obtain ⟨A, ca, rfl, _⟩ := hra
    rw [intsV_length]
    go_enter Try.func4, Try.ntmps4
    go_wp2
    go_ret
    exact ⟨rfl, Below.refl _ _⟩

end Go.Proofs.Ytccajcddijhmcaa
