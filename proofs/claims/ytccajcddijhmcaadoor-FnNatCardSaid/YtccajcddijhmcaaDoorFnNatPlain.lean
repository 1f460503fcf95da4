/-
  Plain facts that FnNat asks: sums, products, quotients and numerals of natural numbers, as limbs.
-/
import Derived.Test.YtccajcddijhmcaaDoorZeros
import Derived.Test.YtccajcddijhmcaaDoorTextNatImpl
import Derived.Test.YtccajcddijhmcaaDoorDivSpec4
namespace Go.Proofs.YtccajcddijhmcaaDoor
open Go.RowKit

theorem limbs_okN (n : Nat) (h : (n : Int) < bp 50) : natOkB (limbs n) = true := limbs_ok n (limbs_length_le n 50 h)
theorem res_limbs (n : Nat) (h : (n : Int) < bp 50) : natRes (n : Int) = limbs n := by
  unfold natRes capL
  rw [Int.toNat_natCast, if_neg (by have := limbs_length_le n 50 h; omega)]
section
variable {X Y : Nat}
theorem addN_limbs (hx : (X : Int) < bp 50) (hy : (Y : Int) < bp 50) (h : ((X + Y : Nat) : Int) < bp 50) : addN (limbs X) (limbs Y) = limbs (X + Y) := by
  unfold addN
  rw [if_pos ⟨limbs_okN X hx, limbs_okN Y hy⟩, limbs_val, limbs_val, ← res_limbs _ h]
  congr 1
theorem subN_limbs (hx : (X : Int) < bp 50) (h : Y ≤ X) : subN (limbs X) (limbs Y) = limbs (X - Y) := by
  unfold subN
  rw [if_pos ⟨limbs_okN X hx, limbs_okN Y (by omega)⟩, limbs_val, limbs_val, ← res_limbs _ (show ((X - Y : Nat) : Int) < bp 50 by omega)]
  congr 1
  omega
theorem mulN_limbs (hx : (X : Int) < bp 50) (hy : (Y : Int) < bp 50) (h : ((X * Y : Nat) : Int) < bp 50) : mulN (limbs X) (limbs Y) = limbs (X * Y) := by
  unfold mulN
  rw [if_pos ⟨limbs_okN X hx, limbs_okN Y hy⟩, limbs_val, limbs_val, ← res_limbs _ h]
  congr 1
theorem cmpN_limbs (hx : (X : Int) < bp 50) (hy : (Y : Int) < bp 50) : cmpN (limbs X) (limbs Y) = cmpI X Y := by
  unfold cmpN
  rw [if_pos ⟨limbs_okN X hx, limbs_okN Y hy⟩, limbs_val, limbs_val]
theorem limbs_pos_len (h : 0 < X) : 0 < (limbs X).length := by rw [limbs, dif_neg (by omega)]; simp
theorem divN_limbs (hx : (X : Int) < bp 50) (hy : (Y : Int) < bp 50) (h : 0 < Y) : divN (limbs X) (limbs Y) = (limbs (X / Y), limbs (X % Y)) := by
  unfold divN
  rw [if_pos ⟨limbs_okN X hx, limbs_okN Y hy, limbs_pos_len h⟩, limbs_val, limbs_val]
  rfl
theorem divN_zero : divN (limbs X) [] = ([], []) := by unfold divN; rw [if_neg (fun h => by have := h.2.2; simp at this)]
theorem gcdN_limbs (hx : (X : Int) < bp 50) (hy : (Y : Int) < bp 50) : gcdN (limbs X) (limbs Y) = limbs (Nat.gcd X Y) := by
  unfold gcdN
  rw [if_pos ⟨limbs_okN X hx, limbs_okN Y hy⟩, limbs_val, limbs_val]
  rfl
end
theorem tenN_nat (k : Nat) (h : k ≤ 449) : tenN (k : Int) = limbs (10 ^ k) := by
  unfold tenN
  rw [if_pos ⟨by omega, by omega⟩, Int.toNat_natCast]
theorem ten_bp (k m : Nat) (h : k ≤ 9 * m) : ((10 ^ k : Nat) : Int) ≤ bp m := by
  rw [bp_ten]
  have : 10 ^ k ≤ 10 ^ (9 * m) := Nat.pow_le_pow_right (by omega) h
  exact_mod_cast this
theorem scaleN_nat {X : Nat} (k : Nat) (hk : k ≤ 449) (hx : (X : Int) < bp 50) (ht : ((10 ^ k : Nat) : Int) < bp 50) (h : ((X * 10 ^ k : Nat) : Int) < bp 50) : scaleN (limbs X) (k : Int) = limbs (X * 10 ^ k) := by
  unfold scaleN
  rw [if_neg (by omega), tenN_nat k hk, mulN_limbs hx ht h]
theorem cutN_nat {X : Nat} (k : Nat) (hk : k ≤ 440) (hx : (X : Int) < bp 50) (ht : ((10 ^ k : Nat) : Int) < bp 50) : cutN (limbs X) (k : Int) = (limbs (X / 10 ^ k), limbs (X % 10 ^ k)) := by
  unfold cutN
  rw [if_pos ⟨by omega, by omega⟩, tenN_nat k (by omega), divN_limbs hx ht (Nat.pow_pos (by omega))]

/-- zeros behind a numeral -/
theorem dec_scale (X k : Nat) (h : 0 < X) : Lib.decDigits (X * 10 ^ k) = Lib.decDigits X ++ List.replicate k 48 := by
  induction k with
  | zero => simp
  | succ k ih =>
    have hp : 0 < 10 ^ k := Nat.pow_pos (by omega)
    have h1 : 0 < X * 10 ^ k := Nat.mul_pos h hp
    have e : X * 10 ^ (k + 1) = X * 10 ^ k * 10 := by rw [Nat.pow_succ, Nat.mul_assoc]
    rw [e, dec_big _ (by omega), Nat.mul_div_cancel _ (by omega), Nat.mul_mod_left, ih, List.replicate_succ', List.append_assoc]
    rfl
theorem zeros_app (l : List UInt8) (k : Nat) : zerosL (l ++ List.replicate k 48) = k + zerosL l := by
  unfold zerosL
  rw [List.reverse_append, List.reverse_replicate]
  induction k with
  | zero => simp
  | succ k ih => rw [List.replicate_succ, List.cons_append, List.takeWhile_cons_of_pos (by rfl), List.length_cons, ih]; omega
theorem zerosN_limbs {X : Nat} (hx : (X : Int) < bp 50) (h : 0 < X) : zerosN (limbs X) = zerosL (Lib.decDigits X) := by
  rw [(zerosN_ok (limbs_okN X hx) (limbs_pos_len h)).1, natT_dec]
theorem zerosN_scale {X : Nat} (k : Nat) (hx : (X : Int) < bp 50) (h : 0 < X) (hs : ((X * 10 ^ k : Nat) : Int) < bp 50) : zerosN (limbs (X * 10 ^ k)) = (k : Int) + zerosN (limbs X) := by
  rw [zerosN_limbs hs (Nat.mul_pos h (Nat.pow_pos (by omega))), zerosN_limbs hx h, dec_scale X k h, zeros_app]
  omega
/-- a nat is read from its numeral -/
theorem text_back {X : Nat} (hx : (X : Int) < bp 5) : decOk (natTextB (limbs X)) = true ∧ tnR (natTextB (limbs X)) = limbs X := by
  have h5 : (limbs X).length ≤ 5 := limbs_length_le X 5 hx
  have e : (natTextB (limbs X)).data.toList = Lib.decDigits X := natText_limbs X (by omega)
  have hd := dig_dec X
  have hdig : digitsB (natTextB (limbs X)) = true := by rw [digitsB_iff, e]; exact hd
  have hsz : (natTextB (limbs X)).size ≤ 450 := by
    have h1 : natTextB (limbs X) = natT (limbs X) := by unfold natTextB; rw [if_pos (limbs_ok X (by omega))]
    rw [h1]
    have := natT_size (limbs X) (limbs_digN X)
    omega
  have hok : decOk (natTextB (limbs X)) = true := by
    rw [← read_text _ hdig hsz, e, valL_dec, Int.toNat_natCast]
  refine ⟨hok, ?_⟩
  unfold tnR
  rw [if_pos hok, e, valL_dec, Int.toNat_natCast]
theorem digits_size {X : Nat} (hx : (X : Int) < bp 50) (h : 0 < X) : natDigB (limbs X) = ((natTextB (limbs X)).size : Int) := by
  unfold natDigB
  rw [if_pos ⟨limbs_okN X hx, by have := limbs_pos_len h; omega⟩]
/-- a drawn nat -/
theorem drawn_nat {a : List Int} (h : natOkB a = true) (hl : a.length ≤ 5) : ∃ X : Nat, a = limbs X ∧ (X : Int) < bp 5 := by
  have h1 := natOk_parts h
  have h2 := nval_lt a h1.1
  have h3 := bp_mono hl
  have h0 := nval_nonneg a h1.1
  exact ⟨(nval a).toNat, natOk_limbs h, by omega⟩
theorem bp_five_fifty : bp 5 ≤ bp 50 := bp_mono (by omega)
theorem small_mul {X k : Nat} (hx : (X : Int) < bp 5) (hk : k ≤ 29) : ((X * 10 ^ k : Nat) : Int) < bp 50 ∧ ((10 ^ k : Nat) : Int) < bp 50 := by
  have h1 := ten_bp k 4 (by omega)
  have h2 := bp_pos 5
  have h3 := bp_pos 4
  have e : bp 9 = bp 5 * bp 4 := bp_add 5 4
  have h4 : bp 9 ≤ bp 50 := bp_mono (by omega)
  have h5 : bp 4 < bp 9 := by
    have : bp 9 = 1000000000 * bp 8 := rfl
    have h6 : bp 4 ≤ bp 8 := bp_mono (by omega)
    omega
  refine ⟨?_, by omega⟩
  have h7 : (X : Int) * ((10 ^ k : Nat) : Int) ≤ (X : Int) * bp 4 := Int.mul_le_mul_of_nonneg_left h1 (by omega)
  have h8 : (X : Int) * bp 4 < bp 5 * bp 4 := Int.mul_lt_mul_of_pos_right hx h3
  rw [Int.natCast_mul]
  omega
theorem small_prod {X Y : Nat} (hx : (X : Int) < bp 5) (hy : (Y : Int) < bp 5) : ((X * Y : Nat) : Int) < bp 50 ∧ ((X + Y : Nat) : Int) < bp 50 := by
  have h2 := bp_pos 5
  have e : bp 10 = bp 5 * bp 5 := bp_add 5 5
  have h4 : bp 10 ≤ bp 50 := bp_mono (by omega)
  have h5 : 2 * bp 5 ≤ bp 10 := by
    have : bp 10 = 1000000000 * bp 9 := rfl
    have h6 : bp 5 ≤ bp 9 := bp_mono (by omega)
    omega
  refine ⟨?_, by omega⟩
  have h7 : (X : Int) * (Y : Int) ≤ (X : Int) * bp 5 := Int.mul_le_mul_of_nonneg_left (by omega) (by omega)
  have h8 : (X : Int) * bp 5 < bp 5 * bp 5 := Int.mul_lt_mul_of_pos_right hx h2
  rw [Int.natCast_mul]
  omega
end Go.Proofs.YtccajcddijhmcaaDoor
