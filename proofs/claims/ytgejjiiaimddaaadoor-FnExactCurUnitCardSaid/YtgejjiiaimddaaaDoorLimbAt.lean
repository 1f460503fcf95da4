/-
  A limb of a nat, or 0 beyond its ends.
-/
import Derived.Test.YtgejjiiaimddaaaDoorNatOps
import Derived.Test.YtgejjiiaimddaaaDoorDivSpec4
import Derived.Test.YtgejjiiaimddaaaDoorObj
namespace Go.Proofs.YtgejjiiaimddaaaDoor
open Go.RowKit

set_option maxHeartbeats 400000 in
set_option maxRecDepth 100000 in
theorem limbAt_any (v : Value) (xs : List Int) (p : Int) (lo hi : Nat) (w : World) (_hl : xs.length ≤ 1048576) (hr : Row w lo hi v (intsV xs)) :
    Calls Tryd.prog 60 #[v, .int .i64 p] w fun e w' => e = .returned (.int .i64 (if p < 0 then 0 else xs.getD p.toNat 0)) ∧ w = w' := by
  obtain ⟨A, c, rfl, hA⟩ := hr
  rw [intsV_length]
  by_cases h0 : p < 0
  · rw [if_pos h0]
    go_enter Tryd.func60, Tryd.ntmps60
    go_wp2
    go_ret
    exact ⟨rfl, rfl⟩
  · rw [if_neg h0]
    obtain ⟨n, rfl⟩ := Int.eq_ofNat_of_zero_le (show 0 ≤ p by omega)
    rw [Int.toNat_natCast]
    by_cases h1 : n < xs.length
    · obtain ⟨a, rfl, _, _, hca⟩ := hA n _ (intsV_at xs n h1)
      rw [List.getD_eq_getElem?_getD, List.getElem?_eq_getElem h1, Option.getD_some]
      clear h0
      generalize xs[n] = x at *
      go_enter Tryd.func60, Tryd.ntmps60
      go_wp2
      go_ret
      exact ⟨rfl, rfl⟩
    · rw [List.getD_eq_getElem?_getD, List.getElem?_eq_none (by omega)]
      clear h0
      go_enter Tryd.func60, Tryd.ntmps60
      go_wp2
      go_ret
      exact ⟨rfl, rfl⟩
theorem TwoRows.postII {xs ys : List Int} {w w' : World} {e : Ending} (h : TwoRows xs ys w e w') : PostII xs ys w e w' := by
  obtain ⟨v1, v2, rfl, o1, o2, ap, b⟩ := h
  exact ⟨v1, _, v2, _, rfl, own_at o1, own_at o2, own_within o1, own_within o2, fun g h1 h2 => ap g g (by simpa using h1) (by simpa using h2) rfl, b⟩
end Go.Proofs.YtgejjiiaimddaaaDoor
