/-
  Chapter 5 of package spec: sums of signed numbers.
-/
import Derived.Test.YtgejjiiaimddaaaDoorSignSpec
import Derived.Test.YtgejjiiaimddaaaDoorNatSpec2
import Derived.Test.YtgejjiiaimddaaaDoorNatMul
import Derived.Deep.RegionHeld3
namespace Go.Proofs.YtgejjiiaimddaaaDoor
open Go.RowKit

theorem At.behind {S : List Nat} {φ : World → Prop} {w w1 w2 : World} (h : At S φ w) (hb : Below w1.heap.size w1 w2) (hh : w1.heap = w.heap) : At S φ w2 :=
  (At.move (w' := w1) h (fun _ _ => by rw [hh]) (by rw [hh]; exact Nat.le_refl _)).below hb
theorem Chg.drew1 {T : List Nat} {w w1 : World} (h : Chg T w w1) : Chg T w w1.drew := ⟨h.os, h.tape, h.output, h.size, h.block⟩
theorem mk_add {n : Bool} {a b : List Int} (oa : natOkB a = true) (ob : natOkB b = true) : mkS n (trimL (addL a b 0)) = ofZ (if n = true then -(nval a + nval b) else nval a + nval b) := by
  have hv := addL_val a b 0 (natOk_parts oa).1 (natOk_parts ob).1 (by omega) (by omega)
  have h1 := nval_ok oa
  have h2 := nval_ok ob
  rw [trim_limbs _ hv.2.1, hv.1, mkS_limbs]
  congr 1
  split <;> omega
theorem mk_sub {n : Bool} {a b : List Int} (oa : natOkB a = true) (ob : natOkB b = true) (hle : nval b ≤ nval a) : mkS n (trimL (trimL (subL a b 0))) = ofZ (if n = true then -(nval a - nval b) else nval a - nval b) ∧ (subL a b 0).length = a.length := by
  have pa := natOk_parts oa
  have pb := natOk_parts ob
  have hll := len_of_le a b pa.1 ⟨pb.1, pb.2.2⟩ hle
  have hv := subL_val a b 0 pa.1 pb.1 hll (by omega) (by omega) (by omega)
  have h1 := nval_ok oa
  have h2 := nval_ok ob
  refine ⟨?_, hv.2.2⟩
  rw [trim_limbs (subL a b 0) hv.2.1, trimL_limbs, hv.1, mkS_limbs]
  congr 1
  split <;> omega




theorem mk_mul {n m : Bool} {a b L : List Int} (hL : trimL L = limbs (nval a * nval b).toNat) (oa : natOkB a = true) (ob : natOkB b = true) : mkS (n != m) (trimL L) = ofZ (valS (n, a) * valS (m, b)) := by
  have h1 := nval_ok oa
  have h2 := nval_ok ob
  have h3 := Int.mul_nonneg h1 h2
  rw [hL, mkS_limbs]
  congr 1
  unfold valS
  cases n <;> cases m <;> simp [Int.toNat_of_nonneg h3, Int.mul_neg, Int.neg_mul] <;> omega

end Go.Proofs.YtgejjiiaimddaaaDoor
