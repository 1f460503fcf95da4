/-
  What NatGcd, NatTen, NatScale, NatCut and NatEven of package spec return.
-/
import Derived.Test.YtipbdpdmefcofaaDoorDivSpec3
namespace Go.Proofs.YtipbdpdmefcofaaDoor
open Go.RowKit

/-- what NatGcd answers -/
def gcdN (a b : List Int) : List Int := if natOkB a = true ∧ natOkB b = true then limbs (Nat.gcd (nval a).toNat (nval b).toNat) else []
theorem gcd_step (X Y : Nat) : Nat.gcd Y (X % Y) = Nat.gcd X Y := by
  rw [Nat.gcd_comm Y, ← Nat.gcd_rec, Nat.gcd_comm]
theorem limbs_empty {n : Nat} (h : ¬ 0 < (limbs n).length) : n = 0 := by
  rcases Nat.eq_zero_or_pos n with h0 | h0
  · exact h0
  · rw [limbs, dif_neg (by omega)] at h
    simp at h
theorem limbs_some {n : Nat} (h : 0 < (limbs n).length) : 0 < n := by
  rcases Nat.eq_zero_or_pos n with h0 | h0
  · subst h0; rw [limbs, dif_pos rfl] at h; simp at h
  · exact h0
theorem limbs_mod_len (X Y : Nat) (h : (limbs Y).length ≤ 50) (h0 : 0 < Y) : (limbs (X % Y)).length ≤ 50 := by
  have hm := Nat.mod_lt X h0
  have := limbs_mono (m := ((X % Y : Nat) : Int)) (n := (Y : Int)) (by omega) (by omega)
  rw [Int.toNat_natCast, Int.toNat_natCast] at this
  omega
/-- the state of NatGcd's loop -/
def GcdS (w : World) (G : Nat) (n : Nat) (x y : Value) (wr : World) : Prop :=
  ∃ X Y : Nat, n = Y ∧ Nat.gcd X Y = G ∧ (limbs X).length ≤ 50 ∧ (limbs Y).length ≤ 50 ∧ wr.ownsRow w.heap.size 3 1 x (limbs X).length (intsV (limbs X)) ∧ wr.ownsRow w.heap.size 3 1 y (limbs Y).length (intsV (limbs Y)) ∧ Below w.heap.size w wr


/-- powers of ten -/
def tenN (k : Int) : List Int := if 0 ≤ k ∧ k ≤ 449 then limbs (10 ^ k.toNat) else []
theorem bp_ten (m : Nat) : bp m = 10 ^ (9 * m) := by
  induction m with
  | zero => rfl
  | succ m ih =>
    show 1000000000 * bp m = _
    rw [ih, show 9 * (m + 1) = 9 * m + 9 by omega, Int.pow_add, Int.mul_comm]
    rfl
theorem ten_pos (k : Nat) : (0 : Int) < 10 ^ k := Int.pow_pos (by omega)
theorem ten_eight (k : Nat) (h : k ≤ 8) : (10 : Int) ^ k ≤ 100000000 := by
  match k, h with
  | 0, _ => decide
  | 1, _ => decide
  | 2, _ => decide
  | 3, _ => decide
  | 4, _ => decide
  | 5, _ => decide
  | 6, _ => decide
  | 7, _ => decide
  | 8, _ => decide
theorem ten_limbs (k : Nat) : limbs (10 ^ k) = List.replicate (k / 9) 0 ++ [(10 : Int) ^ (k % 9)] := by
  have h8 := ten_eight (k % 9) (by omega)
  have hp := ten_pos (k % 9)
  have hd : DigN (List.replicate (k / 9) 0 ++ [(10 : Int) ^ (k % 9)]) := (dig_zeros _).append (dig_one (by omega) (by omega))
  have hl : (List.replicate (k / 9) 0 ++ [(10 : Int) ^ (k % 9)]).getLastD 1 ≠ 0 := by
    rw [List.getLastD_eq_getLast?, List.getLast?_append]
    simp
    omega
  have hv : nval (List.replicate (k / 9) 0 ++ [(10 : Int) ^ (k % 9)]) = 10 ^ k := by
    rw [nval_append, nval_zeros, List.length_replicate, bp_ten]
    show 0 + 10 ^ (9 * (k / 9)) * (10 ^ (k % 9) + 1000000000 * 0) = _
    rw [Int.mul_zero, Int.add_zero, Int.zero_add, ← Int.pow_add, Nat.div_add_mod]
  rw [← trim_last _ hl, trim_limbs _ hd, hv]
  congr 1


/-- what NatScale answers -/
def scaleN (a : List Int) (k : Int) : List Int := if k < 0 then [] else mulN a (tenN k)
theorem tenN_len (k : Int) : (tenN k).length ≤ 50 := by
  unfold tenN
  split
  · rename_i h
    rw [ten_limbs]
    simp
    omega
  · simp

/-- what NatCut answers -/
def cutN (a : List Int) (k : Int) : List Int × List Int := if 0 ≤ k ∧ k ≤ 440 then divN a (tenN k) else ([], [])

/-- what NatEven answers -/
def evenB (a : List Int) : Bool := natOkB a && decide (a.headD 0 % 2 = 0)
end Go.Proofs.YtipbdpdmefcofaaDoor
