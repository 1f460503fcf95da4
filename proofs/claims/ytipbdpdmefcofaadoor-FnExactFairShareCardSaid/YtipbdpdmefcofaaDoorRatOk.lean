/-
  What RatOk of package spec returns.
-/
import Derived.Test.YtipbdpdmefcofaaDoorLoc
import Derived.Test.YtipbdpdmefcofaaDoorRatSpec
namespace Go.Proofs.YtipbdpdmefcofaaDoor
open Go.RowKit
theorem one_val : nval [1] = 1 := rfl
theorem one_dig : DigN [1] ∧ [(1 : Int)].getLastD 1 ≠ 0 := by
  refine ⟨fun d hd => ?_, by decide⟩
  simp at hd
  omega
theorem one_limbs : limbs 1 = [1] := by rw [limbs, dif_neg (by decide), show 1 / 1000000000 = 0 from rfl, limbs, dif_pos rfl]; rfl
/-- a slice literal in its block -/
theorem box_row {g : Nat} {cs : Array Value} {T : TypeId} {w : World} (h : BoxAt g cs T w) : Row w 0 w.heap.size (.slice (some ⟨g, 0, none⟩) cs.size cs.size) cs.toList := by
  have hg := (Array.getElem?_eq_some_iff.1 h).1
  refine ⟨some ⟨g, 0, none⟩, cs.size, by simp, fun j u hj => ⟨⟨g, 0, none⟩, rfl, Nat.zero_le _, hg, ?_⟩⟩
  have e1 : (Addr.add ⟨g, 0, none⟩ j) = ⟨g, j, none⟩ := by
    unfold Addr.add
    cases j with
    | zero => rfl
    | succ n => simp
  rw [e1, Lib.cell_of_heap h]
  simpa using hj
theorem gcdN_small (a b : List Int) : (gcdN a b).length ≤ 50 := by
  unfold gcdN
  split
  · rename_i h
    have pa := natOk_limbs h.1
    have pb := natOk_limbs h.2
    have la := (natOk_parts h.1).2.1
    have lb := (natOk_parts h.2).2.1
    have na := nval_ok h.1
    have nb := nval_ok h.2
    by_cases h0 : 0 < (nval a).toNat
    · have hm := limbs_mono (m := ((Nat.gcd (nval a).toNat (nval b).toNat : Nat) : Int)) (n := nval a) (by omega) (by have := Nat.gcd_le_left (nval b).toNat h0; omega)
      rw [Int.toNat_natCast, ← pa] at hm
      omega
    · rw [show (nval a).toNat = 0 by omega, Nat.gcd_zero_left, ← pb]
      exact lb
  · simp
theorem gcd_one_iff {x : QI} (h1 : natOkB x.1.2 = true) (h2 : natOkB x.2 = true) : (cmpI (nval (gcdN x.1.2 x.2)) (nval [1]) = 0) ↔ Nat.gcd (nval x.1.2).toNat (nval x.2).toNat = 1 := by
  unfold gcdN
  rw [if_pos ⟨h1, h2⟩, limbs_val, one_val]
  unfold cmpI
  split
  · omega
  · split <;> omega
end Go.Proofs.YtipbdpdmefcofaaDoor
