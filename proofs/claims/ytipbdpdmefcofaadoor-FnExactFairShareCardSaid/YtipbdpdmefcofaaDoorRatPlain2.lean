/-
  Plain facts on the parts of fractions: how long products and sums of theirs are.
-/
import Derived.Test.YtipbdpdmefcofaaDoorRatLow
namespace Go.Proofs.YtipbdpdmefcofaaDoor
open Go.RowKit

def topN (q : QI) : Nat := (nval q.1.2).toNat
structure Parts (q : QI) : Prop where
  okn : okS q.1 = true
  okd : natOkB q.2 = true
  n50 : q.1.2.length ≤ 18
  d50 : q.2.length ≤ 18
  n : q.1.2 = limbs (topN q)
  d : q.2 = limbs (denQ q)
  nlt : (topN q : Int) < bp 18
  dlt : (denQ q : Int) < bp 18
  pos : 0 < denQ q
  top : numQ q = if q.1.1 = true then -(topN q : Int) else topN q
theorem parts_of {q : QI} (h : okQ q = true) : Parts q := by
  obtain ⟨h1, h2, h3, h4, h5, h6⟩ := okQ_parts h
  have p1 := okS_parts h1
  have n1 := nval_ok p1.1
  have n2 := nval_ok h2
  have l1 := nval_lt _ (natOk_parts p1.1).1
  have l2 := nval_lt _ (natOk_parts h2).1
  have m1 := bp_mono h5
  have m2 := bp_mono h4
  refine ⟨h1, h2, h5, h4, natOk_limbs p1.1, natOk_limbs h2, by unfold topN; omega, by unfold denQ; omega, denQ_pos h, ?_⟩
  unfold numQ valS topN
  split <;> omega
theorem prod_lt {X Y : Nat} (hx : (X : Int) < bp 18) (hy : (Y : Int) < bp 18) : ((X * Y : Nat) : Int) < bp 36 := by
  have e : bp 36 = bp 18 * bp 18 := bp_add 18 18
  have p := bp_pos 18
  rw [e, Int.natCast_mul]
  rcases Nat.eq_zero_or_pos Y with h | h
  · subst h
    have := Int.mul_pos p p
    simpa using this
  · have h1 : (X : Int) * Y < bp 18 * Y := Int.mul_lt_mul_of_pos_right hx (by omega)
    have h2 : bp 18 * (Y : Int) ≤ bp 18 * bp 18 := Int.mul_le_mul_of_nonneg_left (by omega) (by omega)
    omega
theorem prod_len {X Y : Nat} (hx : (X : Int) < bp 18) (hy : (Y : Int) < bp 18) : (limbs (X * Y)).length ≤ 36 := limbs_length_le _ 36 (prod_lt hx hy)
theorem mul_toNat {a b : List Int} (ha : natOkB a = true) (hb : natOkB b = true) : (nval a * nval b).toNat = (nval a).toNat * (nval b).toNat := by
  have n1 := nval_ok ha
  have n2 := nval_ok hb
  rw [Int.toNat_mul n1 n2]
theorem bp37 : bp 36 + bp 36 ≤ bp 37 := by
  have e : bp 37 = 1000000000 * bp 36 := rfl
  have p := bp_pos 36
  omega
/-- a cross product with its sign -/
theorem cross_ofZ {n : Bool} {X Y : Nat} : mkS n (limbs (X * Y)) = ofZ (if n = true then -((X * Y : Nat) : Int) else ((X * Y : Nat) : Int)) ∧ okS (mkS n (limbs (X * Y))) = true ∧ (mkS n (limbs (X * Y))).2.length ≤ 50 := by
  rw [mkS_limbs]
  exact ⟨rfl, ofZ_ok _, ofZ_len _⟩
theorem cross_val {n : Bool} {X Y : Nat} (hx : (X : Int) < bp 18) (hy : (Y : Int) < bp 18) : valS (mkS n (limbs (X * Y))) = (if n = true then -(X : Int) else X) * Y := by
  have h := limbs_length_le _ 36 (prod_lt hx hy)
  rw [mkS_limbs, ofZ_val]
  · split
    · rw [Int.natCast_mul, Int.neg_mul]
    · rw [Int.natCast_mul]
  · rw [show (if n = true then -((X * Y : Nat) : Int) else ((X * Y : Nat) : Int)).natAbs = X * Y by split <;> omega]
    omega
theorem abs_lt {z : Int} {m : Nat} {b : Int} (h : z.natAbs = m) (hb : (m : Int) < b) : -b < z ∧ z < b := by omega
theorem cross_lt {n : Bool} {X Y : Nat} (hx : (X : Int) < bp 18) (hy : (Y : Int) < bp 18) : -(bp 36) < (if n = true then -(X : Int) else X) * Y ∧ (if n = true then -(X : Int) else X) * Y < bp 36 := by
  have h := prod_lt hx hy
  refine abs_lt (m := X * Y) ?_ h
  split
  · rw [Int.neg_mul, Int.natAbs_neg, ← Int.natCast_mul]; omega
  · rw [← Int.natCast_mul]; omega
/-- the sum of two cross products -/
theorem sum_ofZ {z : Int} (h1 : -(bp 37) < z) (h2 : z < bp 37) : ofZ z = (decide (z < 0), limbs z.natAbs) ∧ (limbs z.natAbs).length ≤ 37 := by
  have hl := limbs_length_le z.natAbs 37 (by omega)
  unfold ofZ
  rw [if_pos (by omega)]
  exact ⟨rfl, hl⟩
theorem lowQ_sz (n : Bool) (a b : Nat) : szQ (lowQ n a b).1 ≤ 1048576 := by
  unfold lowQ
  split
  · rename_i h
    unfold szQ szS szI
    simp only
    have : (mkS n (limbs (a / Nat.gcd a b))).2.length ≤ 50 := by rw [mkS_limbs]; exact ofZ_len _
    omega
  · decide
theorem zeroQ_sz : szQ zeroQ ≤ 1048576 := by decide
/-- a result that lies in its cells at block r: a new fraction and a bool with it -/
theorem newQb_at {r B : Nat} {S : List Nat} {c0 c1 c2 : Value} {x : QI} {b : Bool} {w W : World} (o : At S (OwnQ (.agg #[c0, c1, c2]) x) W) (l : Within S B W.heap.size) (hrB : r < B) (hr : w.heap.size ≤ r) (hW : Below w.heap.size w W) :
    PostQb x b w (.returned (.tuple #[.agg #[c0, c1, c2], .bool b])) (((W.setCell ⟨r, 0, none⟩ c0).setCell ⟨r, 1, none⟩ c1).setCell ⟨r, 2, none⟩ c2) := by
  have hc : Chg [r] W (((W.setCell ⟨r, 0, none⟩ c0).setCell ⟨r, 1, none⟩ c1).setCell ⟨r, 2, none⟩ c2) := (((Chg.refl _ _).setCell (by simp) _).setCell (by simp) _).setCell (by simp) _
  have hz := hc.size
  exact ⟨_, S, rfl, o.chg hc (fun i hi hm => by have := l i hi; simp at hm; omega), fun i hi => by have := l i hi; omega, below_set3 hW hr⟩
theorem Chg.setNew {T : List Nat} {w w1 : World} {p : Addr} (h : Chg T w w1) (hp : w.heap.size ≤ p.block) (u : Value) : Chg T w (w1.setCell p u) :=
  ⟨h.os, h.tape, h.output, by simpa [World.setCell] using h.size, fun i hi hn => (Below.heap_setCell _ _ _ _ (by omega)).trans (h.block i hi hn)⟩
theorem below_of_chg {w w1 : World} (h : Chg [] w w1) : Below w.heap.size w w1 := ⟨h.os, h.tape, h.output, h.size, fun i hi => h.block i hi (by simp)⟩
theorem mulX_any (va vb : Value) (a b : List Int) (X : Nat) (w : World) (hal : a.length ≤ 18) (hbl : b.length ≤ 18) (oa : natOkB a = true) (ob : natOkB b = true) (hX : (nval a * nval b).toNat = X) (ha : OwnI va a w) (hb : OwnI vb b w) :
    Calls Tryd.prog 21 #[va, vb] w (NewV (fun u => OwnI u (limbs X)) w) := by
  subst hX
  exact (specMulV_any va vb a b 0 _ 0 _ w (by omega) (by omega) (Nat.le_refl _) (Nat.le_refl _) (natOk_parts oa).1 (natOk_parts ob).1 ha.row hb.row).mono fun _ _ h => h.newV
theorem makeX_any (n : Bool) (v : Value) (X : Nat) (A : SI) (w : World) (hl : (limbs X).length ≤ 50) (hA : mkS n (limbs X) = A) (ho : OwnI v (limbs X) w) : Calls Tryd.prog 38 #[.bool n, v] w (NewV (fun u => OwnS u A) w) := by
  subst hA
  have h := l04Make_any n v (limbs X) 0 w (by omega) ho
  rw [trim_ok] at h
  exact h.mono fun _ _ h => h.newV
theorem lowX_any (n : Bool) (va vb : Value) (a b : List Int) (X Y : Nat) (w : World) (hX : (limbs X).length ≤ 50) (hY : (limbs Y).length ≤ 50) (ha : a = limbs X) (hb : b = limbs Y) (oa : OwnI va a w) (ob : OwnI vb b w) :
    Calls Tryd.prog 20 #[.bool n, va, vb] w (PostQb (lowQ n X Y).1 (lowQ n X Y).2 w) := by
  subst ha hb
  exact l05Low_any n va vb X Y w hX hY oa ob
end Go.Proofs.YtipbdpdmefcofaaDoor
