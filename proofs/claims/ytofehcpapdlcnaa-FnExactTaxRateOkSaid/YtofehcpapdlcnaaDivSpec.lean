/-
  What l03Small and l03Digit of package spec return.
-/
import Derived.Test.YtofehcpapdlcnaaNatConv
import Derived.Test.YtofehcpapdlcnaaDivPlain
namespace Go.Proofs.Ytofehcpapdlcnaa
open Go.RowKit

/-- a new row and a number -/
def RowNum (xs : List Int) (r : Int) (w : World) (e : Ending) (w' : World) : Prop :=
  ∃ v, e = .returned (.tuple #[v, .int .i64 r]) ∧ w'.ownsRow w.heap.size 3 1 v xs.length (intsV xs) ∧ Below w.heap.size w w'


theorem specMulV_any (va vb : Value) (a b : List Int) (la ha lb hb : Nat) (w : World) (hal : a.length ≤ 50) (hbl : b.length ≤ 50) (hha : ha ≤ w.heap.size) (hhb : hb ≤ w.heap.size) (oa : DigN a) (ob : DigN b)
    (hra : Row w la ha va (intsV a)) (hrb : Row w lb hb vb (intsV b)) : Calls Try.prog 43 #[va, vb] w (NewInts (limbs (nval a * nval b).toNat) w) := by
  by_cases h0 : a.length = 0 ∨ b.length = 0
  · have e : nval a * nval b = 0 := by
      rcases h0 with h | h
      · rw [List.eq_nil_of_length_eq_zero h]; exact Int.zero_mul _
      · rw [List.eq_nil_of_length_eq_zero h]; exact Int.mul_zero _
    rw [e, show limbs (0 : Int).toNat = [] from limbs_none]
    exact specMul_nil va vb a b la ha lb hb w hal hbl h0 hra hrb
  · have h := mul_val' a b oa ob
    have e := trim_limbs _ h.2.1
    rw [h.1] at e
    rw [← e]
    exact specMul_any va vb a b la ha lb hb w hal hbl (by omega) (by omega) hha hhb oa ob hra hrb

end Go.Proofs.Ytofehcpapdlcnaa
