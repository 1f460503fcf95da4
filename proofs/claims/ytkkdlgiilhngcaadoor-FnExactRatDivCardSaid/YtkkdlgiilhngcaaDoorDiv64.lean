/-
  What math/bits.Div64 returns: the quotient of a number of two words (the remainder is not looked at). Knuth's two digits of 32 bits.
-/
import Derived.Test.YtkkdlgiilhngcaaDoorCore
import Derived.Test.YtkkdlgiilhngcaaDoorShelf
import Derived.Deep.Cut
import Derived.Deep.CutBlock
import Derived.Laws.Bits64b
import Derived.Lib.BitFns
namespace Go.Proofs.YtkkdlgiilhngcaaDoor
open Go.RowKit

/-! ### how many bits -/
theorem lenAux_lt : ∀ (f x : Nat), x < 2 ^ f → x < 2 ^ Lib.bitLenAux f x
  | 0, x, h => h
  | f + 1, x, h => by
    unfold Lib.bitLenAux
    by_cases h0 : x = 0
    · rw [if_pos h0, h0]; decide
    · rw [if_neg h0, Nat.add_comm, Nat.pow_succ]
      have := lenAux_lt f (x / 2) (by rw [Nat.pow_succ] at h; omega)
      omega
theorem lenAux_ge : ∀ (f x : Nat), 0 < x → 2 ^ Lib.bitLenAux f x ≤ 2 * x
  | 0, x, h => by show 1 ≤ _; omega
  | f + 1, x, h => by
    unfold Lib.bitLenAux
    rw [if_neg (by omega), Nat.add_comm, Nat.pow_succ]
    by_cases h1 : x / 2 = 0
    · have e : Lib.bitLenAux f (x / 2) = 0 := by
        cases f with
        | zero => rfl
        | succ f => unfold Lib.bitLenAux; rw [if_pos h1]
      rw [e]
      omega
    · have := lenAux_ge f (x / 2) (by omega)
      omega
theorem lenAux_le : ∀ (f x : Nat), Lib.bitLenAux f x ≤ f
  | 0, _ => Nat.le_refl _
  | f + 1, x => by
    unfold Lib.bitLenAux
    split
    · omega
    · have := lenAux_le f (x / 2)
      omega
/-- shifted so far that the highest bit is set -/
theorem shifted {y : Nat} (h0 : 0 < y) (h : y < 18446744073709551616) : Lib.bitLen y ≤ 64 ∧ 64 - Lib.bitLen y < 64 ∧ 9223372036854775808 ≤ y * 2 ^ (64 - Lib.bitLen y) ∧ y * 2 ^ (64 - Lib.bitLen y) < 18446744073709551616 := by
  have h1 := lenAux_lt 64 y h
  have h2 := lenAux_ge 64 y h0
  have h3 := lenAux_le 64 y
  change y < 2 ^ Lib.bitLen y at h1
  change 2 ^ Lib.bitLen y ≤ 2 * y at h2
  change Lib.bitLen y ≤ 64 at h3
  have h4 : Lib.bitLen y ≠ 0 := by
    intro e
    rw [e] at h1
    omega
  have e : 2 ^ Lib.bitLen y * 2 ^ (64 - Lib.bitLen y) = 18446744073709551616 := by
    rw [← Nat.pow_add, show Lib.bitLen y + (64 - Lib.bitLen y) = 64 by omega]
  have hp : 0 < 2 ^ (64 - Lib.bitLen y) := Nat.pow_pos (by omega)
  refine ⟨h3, by omega, ?_, ?_⟩
  · have := Nat.mul_le_mul_right (2 ^ (64 - Lib.bitLen y)) h2
    rw [e, Nat.mul_assoc] at this
    omega
  · have := (Nat.mul_lt_mul_right hp).2 h1
    rw [e] at this
    exact this

/-! ### one digit -/
/-- the guess q with its rest r, for the digit of (u, n) over (A, B) -/
def DigQ (A B u n q r : Nat) : Prop := q * A + r = u ∧ (u * 4294967296 + n) / (A * 4294967296 + B) ≤ q ∧ q ≤ 4294967297
theorem digQ_mul (A B u q r : Nat) (h : q * A + r = u) : q * (A * 4294967296 + B) + r * 4294967296 = u * 4294967296 + q * B := by
  rw [← h, Nat.mul_add, Nat.add_mul, ← Nat.mul_assoc]
  omega
theorem DigQ.start {A B u n : Nat} (hA : 2147483648 ≤ A) (hB : B < 4294967296) (hn : n < 4294967296) (hu : u < A * 4294967296 + B) : DigQ A B u n (u / A) (u % A) := by
  refine ⟨by rw [Nat.mul_comm]; exact Nat.div_add_mod u A, ?_, ?_⟩
  · apply Nat.le_of_lt_succ
    rw [Nat.div_lt_iff_lt_mul (by omega)]
    have h1 := Nat.div_add_mod u A
    have h2 := Nat.mod_lt u (show 0 < A by omega)
    have h3 : (u / A).succ * (A * 4294967296 + B) = A * (u / A) * 4294967296 + A * 4294967296 + (u / A).succ * B := by
      rw [Nat.mul_add, Nat.succ_mul, ← Nat.mul_assoc, Nat.mul_comm (u / A) A]
    rw [h3]
    omega
  · apply Nat.le_of_lt_succ
    rw [Nat.div_lt_iff_lt_mul (by omega)]
    omega
theorem lt_shift {z r u x n : Nat} (e : z + r = u + x) (h : r + n < x) : u + n < z := by omega
/-- too great a guess -/
theorem DigQ.down {A B u n q r : Nat} (h : DigQ A B u n q r) (hu : u < A * 4294967296 + B) (hn : n < 4294967296) (ht : 4294967296 ≤ q ∨ r * 4294967296 + n < q * B) : 0 < q ∧ DigQ A B u n (q - 1) (r + A) := by
  obtain ⟨h1, h2, h3⟩ := h
  have hq : 0 < q := by
    rcases Nat.eq_zero_or_pos q with h0 | h0
    · subst h0
      rcases ht with ht | ht
      · omega
      · rw [Nat.zero_mul] at ht; omega
    · exact h0
  have e := digQ_mul A B u q r h1
  have hlt : (u * 4294967296 + n) / (A * 4294967296 + B) < q := by
    rw [Nat.div_lt_iff_lt_mul (by omega)]
    rcases ht with ht | ht
    · have h5 := Nat.mul_le_mul_right (A * 4294967296 + B) ht
      generalize q * (A * 4294967296 + B) = z at *
      omega
    · exact lt_shift e ht
  refine ⟨hq, ?_, by omega, by omega⟩
  obtain ⟨p, rfl⟩ : ∃ p, q = p + 1 := ⟨q - 1, by omega⟩
  rw [Nat.add_sub_cancel]
  rw [Nat.succ_mul] at h1
  omega
/-- no longer too great -/
theorem DigQ.done {A B u n q r : Nat} (h : DigQ A B u n q r) (hA : 2147483648 ≤ A) (ht : q * B ≤ r * 4294967296 + n) : q = (u * 4294967296 + n) / (A * 4294967296 + B) := by
  obtain ⟨h1, h2, _⟩ := h
  apply Nat.le_antisymm _ h2
  rw [Nat.le_div_iff_mul_le (by omega)]
  have e := digQ_mul A B u q r h1
  omega
theorem DigQ.past {B n q r : Nat} (hB : B < 4294967296) (hq : q ≤ 4294967296) (hr : 4294967296 ≤ r) : q * B ≤ r * 4294967296 + n := by
  have h1 : q * B ≤ 4294967296 * 4294967295 := Nat.mul_le_mul hq (by omega)
  omega
theorem DigQ.rest {A B u n q r : Nat} (h : DigQ A B u n q r) : r = u - q * A := by have := h.1; omega

/-- two digits, one behind the other -/
theorem two_digits (U m1 m0 Y : Nat) (hY : 0 < Y) :
    ((U * 4294967296 + m1) * 4294967296 + m0) / Y = (U * 4294967296 + m1) / Y * 4294967296 + ((U * 4294967296 + m1) % Y * 4294967296 + m0) / Y := by
  have e := Nat.div_add_mod (U * 4294967296 + m1) Y
  have e2 : (U * 4294967296 + m1) * 4294967296 + m0 = (U * 4294967296 + m1) % Y * 4294967296 + m0 + Y * ((U * 4294967296 + m1) / Y * 4294967296) := by
    have : Y * ((U * 4294967296 + m1) / Y * 4294967296) = Y * ((U * 4294967296 + m1) / Y) * 4294967296 := (Nat.mul_assoc _ _ _).symm
    rw [this]
    generalize Y * ((U * 4294967296 + m1) / Y) = z at *
    omega
  rw [e2, Nat.add_mul_div_left _ _ hY, Nat.add_comm]
theorem digit_lt {U n Y : Nat} (hU : U < Y) (hn : n < 4294967296) : (U * 4294967296 + n) / Y < 4294967296 := by
  rw [Nat.div_lt_iff_lt_mul (by omega)]
  have : 4294967296 * (U + 1) ≤ 4294967296 * Y := Nat.mul_le_mul_left _ hU
  omega
/-- the shifted dividend, in three parts -/
theorem shift_parts {hi lo s Y : Nat} (hs : s < 64) (hl : lo < 18446744073709551616) (y : Nat) (hY : Y = y * 2 ^ s) (hh : hi < y) :
    (hi * 18446744073709551616 + lo) / y = ((hi * 2 ^ s + lo / 2 ^ (64 - s)) * 18446744073709551616 + lo * 2 ^ s % 18446744073709551616) / Y ∧ lo / 2 ^ (64 - s) < 2 ^ s ∧ hi * 2 ^ s + lo / 2 ^ (64 - s) < Y := by
  have hp : 0 < 2 ^ s := Nat.pow_pos (by omega)
  have hp2 : 0 < 2 ^ (64 - s) := Nat.pow_pos (by omega)
  have e64 : 2 ^ s * 2 ^ (64 - s) = 18446744073709551616 := by rw [← Nat.pow_add, show s + (64 - s) = 64 by omega]
  have hlt : lo / 2 ^ (64 - s) < 2 ^ s := by rw [Nat.div_lt_iff_lt_mul hp2, e64]; exact hl
  refine ⟨?_, hlt, ?_⟩
  · have e : (hi * 2 ^ s + lo / 2 ^ (64 - s)) * 18446744073709551616 + lo * 2 ^ s % 18446744073709551616 = (hi * 18446744073709551616 + lo) * 2 ^ s := by
      have e1 : lo * 2 ^ s / 18446744073709551616 = lo / 2 ^ (64 - s) := by
        rw [← e64, Nat.mul_comm (2 ^ s) (2 ^ (64 - s)), Nat.mul_div_mul_right _ _ hp]
      have e2 := Nat.div_add_mod (lo * 2 ^ s) 18446744073709551616
      rw [e1] at e2
      have e3 : (hi * 18446744073709551616 + lo) * 2 ^ s = hi * 2 ^ s * 18446744073709551616 + lo * 2 ^ s := by rw [Nat.add_mul, Nat.mul_right_comm]
      rw [e3]
      omega
    rw [e, hY, Nat.mul_div_mul_right _ _ hp]
  · rw [hY]
    have : (hi + 1) * 2 ^ s ≤ y * 2 ^ s := Nat.mul_le_mul_right _ hh
    rw [Nat.add_mul] at this
    omega
theorem or_add {a b s : Nat} (h : b < 2 ^ s) (ha : a * 2 ^ s < 18446744073709551616) (hb : b < 18446744073709551616) : bits .or .u64 ((a * 2 ^ s : Nat) : Int) (b : Int) = ((a * 2 ^ s + b : Nat) : Int) := by
  rw [bits_or_u64_nat _ _ ha hb]
  congr 1
  rw [Nat.mul_comm, ← Nat.two_pow_add_eq_or_of_lt h]
theorem and_low {a : Nat} (h : a < 18446744073709551616) : bits .and .u64 (a : Int) 4294967295 = ((a % 4294967296 : Nat) : Int) := by
  have h1 := bits_and_u64_nat a 4294967295 h (by omega)
  rw [show a &&& 4294967295 = a % 4294967296 from Nat.and_two_pow_sub_one_eq_mod a 32] at h1
  exact h1
theorem wrapU (a : Nat) : IntKind.u64.wrap (a : Int) = ((a % 18446744073709551616 : Nat) : Int) := by rw [IntKind.wrap_u64]; omega
theorem wrapL (a : Nat) (h : a < 18446744073709551616) : IntKind.u64.wrap (a : Int) = (a : Int) := by rw [IntKind.wrap_u64]; omega
theorem wrapD {a b c : Nat} (hc : c ≤ a) (h : a - c < 18446744073709551616) (hb : b = a - c) : IntKind.u64.wrap (IntKind.u64.wrap (a : Int) - IntKind.u64.wrap (c : Int)) = (b : Int) := by
  rw [IntKind.wrap_u64, IntKind.wrap_u64, IntKind.wrap_u64]
  omega
theorem wrapT {U m z v : Nat} (h : z + v = U * 4294967296 + m) (hv : v < 18446744073709551616) :
    IntKind.u64.wrap (IntKind.u64.wrap (IntKind.u64.wrap ((U : Int) * 4294967296) + (m : Int)) - IntKind.u64.wrap (z : Int)) = (v : Int) := by
  rw [IntKind.wrap_u64, IntKind.wrap_u64, IntKind.wrap_u64, IntKind.wrap_u64]
  omega

/-- the quotient, and whatever rest -/
def QuoPost (q : Nat) (w : World) (e : Ending) (w' : World) : Prop := (∃ r, e = .returned (.tuple #[.int .u64 q, .int .u64 r])) ∧ ∃ n, w.drewN n = w'
set_option maxHeartbeats 400000 in
set_option maxRecDepth 100000 in
theorem div64_small (lo y : Nat) (h0 : 0 < y) (hl : lo < 18446744073709551616) (hy : y < 18446744073709551616) (w : World) :
    Calls Tryd.prog 113 #[.int .u64 0, .int .u64 lo, .int .u64 y] w (QuoPost (lo / y) w) := by
  have hq := Nat.div_le_self lo y
  have e1 : IntKind.u64.wrap ((lo : Int) / (y : Int)) = ((lo / y : Nat) : Int) := by
    rw [← Int.natCast_ediv, wrapL _ (by omega)]
  have hy0 : ¬ ((y : Int) = 0) := by omega
  have hy1 : ¬ (y = 0) := by omega
  go_enter Tryd.func113, Tryd.ntmps113
  go_wp2
  go_quiet (fail)
  go_wp2
  go_ret2
  exact ⟨⟨_, rfl⟩, _, rfl⟩

/-- what stands in the guess's two slots -/
def DigS (A B u n : Nat) (q r : Value) : Prop := ∃ qn rn : Nat, q = .int .u64 qn ∧ r = .int .u64 rn ∧ rn < 4294967296 ∧ Hid (DigQ A B u n qn rn)
set_option maxHeartbeats 2000000 in
set_option maxRecDepth 100000 in
theorem div64_big (hi lo y : Nat) (hh : hi < y) (h0 : 0 < hi) (hl : lo < 18446744073709551616) (hy : y < 18446744073709551616) (w : World) :
    Calls Tryd.prog 113 #[.int .u64 hi, .int .u64 lo, .int .u64 y] w (QuoPost ((hi * 18446744073709551616 + lo) / y) w) := by
  obtain ⟨hb1, hs, hY0, hY1⟩ := shifted (y := y) (by omega) hy
  have hsn : (64 : Int) - (Lib.bitLen y : Int) = ((64 - Lib.bitLen y : Nat) : Int) := by omega
  have HSN := Lib.hid hsn
  clear hsn
  generalize 64 - Lib.bitLen y = s at *
  obtain ⟨hp1, hp2, hp3⟩ := shift_parts hs hl y rfl hh
  have hor : bits .or .u64 ((hi * 2 ^ s : Nat) : Int) ((lo / 2 ^ (64 - s) : Nat) : Int) = ((hi * 2 ^ s + lo / 2 ^ (64 - s) : Nat) : Int) := or_add hp2 (by have := Nat.zero_le (lo / 2 ^ (64 - s)); have := Nat.le_add_right (hi * 2 ^ s) (lo / 2 ^ (64 - s)); exact Nat.lt_of_le_of_lt this (Nat.lt_trans hp3 hY1)) (by have := Nat.div_le_self lo (2 ^ (64 - s)); omega)
  have e1 : IntKind.u64.wrap ((y : Int) * 2 ^ s) = ((y * 2 ^ s : Nat) : Int) := by
    rw [show (y : Int) * 2 ^ s = ((y * 2 ^ s : Nat) : Int) by push_cast; rfl, wrapL _ hY1]
  have e3 : IntKind.u64.wrap ((hi : Int) * 2 ^ s) = ((hi * 2 ^ s : Nat) : Int) := by
    rw [show (hi : Int) * 2 ^ s = ((hi * 2 ^ s : Nat) : Int) by push_cast; rfl, wrapL _ (Nat.lt_of_le_of_lt (Nat.le_add_right (hi * 2 ^ s) (lo / 2 ^ (64 - s))) (Nat.lt_trans hp3 hY1))]
  have e4 : (lo : Int) / 2 ^ (64 - s) = ((lo / 2 ^ (64 - s) : Nat) : Int) := by push_cast; rfl
  have e5 : IntKind.u64.wrap ((lo : Int) * 2 ^ s) = ((lo * 2 ^ s % 18446744073709551616 : Nat) : Int) := by
    rw [show (lo : Int) * 2 ^ s = ((lo * 2 ^ s : Nat) : Int) by push_cast; rfl, wrapU]
  have hm : lo * 2 ^ s % 18446744073709551616 < 18446744073709551616 := Nat.mod_lt _ (by omega)
  rw [← e4] at hor
  have HP := Lib.hid hp1
  clear hp1 hp2 e4
  generalize hi * 2 ^ s + lo / 2 ^ (64 - s) = U at *
  generalize lo * 2 ^ s % 18446744073709551616 = M at *
  generalize y * 2 ^ s = Y at *
  generalize hi * 2 ^ s = H at *
  -- the halves
  have a1 := and_low hY1
  have a2 := and_low hm
  obtain ⟨A, hA⟩ : ∃ A, A = Y / 4294967296 := ⟨_, rfl⟩
  obtain ⟨B, hB⟩ : ∃ B, B = Y % 4294967296 := ⟨_, rfl⟩
  obtain ⟨m1, hm1⟩ : ∃ A, A = M / 4294967296 := ⟨_, rfl⟩
  obtain ⟨m0, hm0⟩ : ∃ A, A = M % 4294967296 := ⟨_, rfl⟩
  have hAB : Y = A * 4294967296 + B := by omega
  have hMM : M = m1 * 4294967296 + m0 := by omega
  have hA0 : 2147483648 ≤ A := by omega
  have hA1 : A < 4294967296 := by omega
  have hB1 : B < 4294967296 := by omega
  have hm11 : m1 < 4294967296 := by omega
  have hm01 : m0 < 4294967296 := by omega
  have a3 : (Y : Int) / 4294967296 = (A : Int) := by omega
  have a4 : (M : Int) / 4294967296 = (m1 : Int) := by omega
  rw [← hB] at a1
  rw [← hm0] at a2
  have HY := Lib.hid hAB
  have HM := Lib.hid hMM
  clear hA hB hm1 hm0 hAB hMM hY0
  have hU64 : U < 18446744073709551616 := by omega
  have hq1 : U / A < 18446744073709551616 := Nat.lt_of_le_of_lt (Nat.div_le_self _ _) hU64
  have hq2 : U % A < 4294967296 := by have := Nat.mod_lt U (show 0 < A by omega); omega
  have e6 : IntKind.u64.wrap ((U : Int) / (A : Int)) = ((U / A : Nat) : Int) := by
    rw [← Int.natCast_ediv, wrapL _ hq1]
  have e7 : IntKind.u64.wrap ((U : Int) - IntKind.u64.wrap (((U / A : Nat) : Int) * (A : Int))) = ((U % A : Nat) : Int) := by
    have h1 := Nat.div_add_mod U A
    rw [show ((U / A : Nat) : Int) * (A : Int) = ((A * (U / A) : Nat) : Int) by push_cast; rw [Int.mul_comm], ← wrapL U hU64]
    exact wrapD (by omega) (by omega) (by omega)
  have HD1 : Hid (DigQ A B U m1 (U / A) (U % A)) := Lib.hid (DigQ.start hA0 hB1 hm11 (by rw [← HY.out]; exact hp3))
  have HUY := Lib.hid hp3
  clear hp3 hq1
  generalize U / A = q1 at *
  generalize U % A = r1 at *
  have hd1 := digit_lt HUY.out hm11
  have HT := Lib.hid (show (hi * 18446744073709551616 + lo) / y = (U * 4294967296 + m1) / Y * 4294967296 + ((U * 4294967296 + m1) % Y * 4294967296 + m0) / Y by
    rw [HP.out, HM.out, show U * 18446744073709551616 + (m1 * 4294967296 + m0) = (U * 4294967296 + m1) * 4294967296 + m0 by omega]
    exact two_digits U m1 m0 Y (by omega))
  have hvY := Nat.mod_lt (U * 4294967296 + m1) (show 0 < Y by omega)
  have f1 : IntKind.u64.wrap (IntKind.u64.wrap (IntKind.u64.wrap ((U : Int) * 4294967296) + (m1 : Int)) - IntKind.u64.wrap ((((U * 4294967296 + m1) / Y : Nat) : Int) * (Y : Int))) = (((U * 4294967296 + m1) % Y : Nat) : Int) := by
    have h1 := Nat.div_add_mod (U * 4294967296 + m1) Y
    rw [show (((U * 4294967296 + m1) / Y : Nat) : Int) * (Y : Int) = ((Y * ((U * 4294967296 + m1) / Y) : Nat) : Int) by rw [Int.mul_comm, ← Int.natCast_mul]]
    exact wrapT h1 (by omega)
  have hvD : (U * 4294967296 + m1) / Y = (U * 4294967296 + m1) / (A * 4294967296 + B) := by rw [← HY.out]
  obtain ⟨D1, hD1⟩ : ∃ D1, D1 = (U * 4294967296 + m1) / Y := ⟨_, rfl⟩
  obtain ⟨V, hV⟩ : ∃ V, V = (U * 4294967296 + m1) % Y := ⟨_, rfl⟩
  rw [← hD1] at hd1 HT f1 hvD
  rw [← hV] at HT hvY f1
  have HV1 := Lib.hid hvD
  clear hvD hD1 hV
  have hA2 : ¬ ((A : Int) = 0) := by omega
  go_enter Tryd.func113, Tryd.ntmps113
  go_wp2_with fail
  refine (Tryd.bits_LeadingZeros64 (y : Int) _ (by omega) (by omega)).mono ?_
  rintro e w1 ⟨rfl, rfl⟩
  rw [Int.toNat_natCast, HSN.out]
  go_upto_block 0 with fail
  go_cut [15] from 67 to 85 (fun q wx => q = .int .u64 (D1 : Int) ∧ wx = w1)
  case first =>
    go_wp2_with fail
    go_loop [15, 16] (DigS A B U m1) (fun q _ => (intOf q).toNat)
    case atStart => exact ⟨q1, r1, rfl, rfl, hq2, HD1⟩
    case round =>
      clear e1 e3 hor a1 a2 a3 a4 e5 e6 e7 hY1 hh h0 hl hs hb1 hm hU64 hq2 f1 hvY hd1
      obtain ⟨q, r, rfl, rfl, hr, HD⟩ := hrel
      have hqm : (q : Int) ≤ 4294967297 := by have := HD.out.2.2; omega
      have hr' : (r : Int) < 4294967296 := by omega
      clear hr
      by_cases hbig : 4294967296 ≤ q
      · have HN := Lib.hid (HD.out.down (by rw [← HY.out]; exact HUY.out) hm11 (.inl hbig))
        have hbig' : (4294967296 : Int) ≤ (q : Int) := by omega
        clear hbig
        have hq0 : (1 : Int) ≤ (q : Int) := by have := HN.out.1; omega
        by_cases hr2 : 4294967296 ≤ r + A
        · have HF : Hid (Value.int IntKind.u64 ((q : Int) - 1) = Value.int IntKind.u64 (D1 : Int)) := Lib.hid (by
            have h1 := HN.out.2.done hA0 (DigQ.past hB1 (by omega) hr2)
            rw [← HV1.out] at h1
            rw [← h1]
            congr 1
            omega)
          obtain ⟨R2, hR2⟩ : ∃ R2 : Nat, (r : Int) + (A : Int) = (R2 : Int) := ⟨r + A, by omega⟩
          have hr3 : (4294967296 : Int) ≤ (R2 : Int) := by omega
          clear hr2
          go_wp2_with fail
          go_meet
          exact ⟨HF.out, rfl⟩
        · have HM2 : Hid (DigS A B U m1 (.int .u64 ((q : Int) - 1)) (.int .u64 ((r + A : Nat) : Int))) := Lib.hid ⟨q - 1, r + A, by congr 1; omega, rfl, by omega, Lib.hid HN.out.2⟩
          obtain ⟨R2, hR2⟩ : ∃ R2 : Nat, (r : Int) + (A : Int) = (R2 : Int) := ⟨r + A, by omega⟩
          have hr3 : decide ((4294967296 : Int) ≤ (R2 : Int)) = false := decide_eq_false (by omega)
          clear hr2
          go_wp2_with fail
          go_round
          case rel => rw [show (r + A : Nat) = R2 by omega] at HM2; exact HM2.out
          case measure => simp [intOf]; omega
      · have hP : q * B ≤ 4294967295 * 4294967295 := Nat.mul_le_mul (by omega) (by omega)
        have e8 : IntKind.u64.wrap ((q : Int) * (B : Int)) = ((q * B : Nat) : Int) := by rw [← Int.natCast_mul, wrapL _ (by omega)]
        have hbig' : (q : Int) < 4294967296 := by omega
        by_cases hgt : r * 4294967296 + m1 < q * B
        · have HN := Lib.hid (HD.out.down (by rw [← HY.out]; exact HUY.out) hm11 (.inr hgt))
          have hgt' : 4294967296 * (r : Int) + (m1 : Int) < ((q * B : Nat) : Int) := by omega
          clear hgt hbig hP
          generalize q * B = P at *
          have hq0 : (1 : Int) ≤ (q : Int) := by have := HN.out.1; omega
          by_cases hr2 : 4294967296 ≤ r + A
          · have HF : Hid (Value.int IntKind.u64 ((q : Int) - 1) = Value.int IntKind.u64 (D1 : Int)) := Lib.hid (by
              have h1 := HN.out.2.done hA0 (DigQ.past hB1 (by omega) hr2)
              rw [← HV1.out] at h1
              rw [← h1]
              congr 1
              omega)
            obtain ⟨R2, hR2⟩ : ∃ R2 : Nat, (r : Int) + (A : Int) = (R2 : Int) := ⟨r + A, by omega⟩
            have hr3 : (4294967296 : Int) ≤ (R2 : Int) := by omega
            clear hr2
            go_wp2_with fail
            go_meet
            exact ⟨HF.out, rfl⟩
          · have HM2 : Hid (DigS A B U m1 (.int .u64 ((q : Int) - 1)) (.int .u64 ((r + A : Nat) : Int))) := Lib.hid ⟨q - 1, r + A, by congr 1; omega, rfl, by omega, Lib.hid HN.out.2⟩
            obtain ⟨R2, hR2⟩ : ∃ R2 : Nat, (r : Int) + (A : Int) = (R2 : Int) := ⟨r + A, by omega⟩
            have hr3 : decide ((4294967296 : Int) ≤ (R2 : Int)) = false := decide_eq_false (by omega)
            clear hr2
            go_wp2_with fail
            go_round
            case rel => rw [show (r + A : Nat) = R2 by omega] at HM2; exact HM2.out
            case measure => simp [intOf]; omega
        · have HF : Hid (q = D1) := Lib.hid (by rw [HV1.out]; exact HD.out.done hA0 (by omega))
          obtain ⟨T, hT⟩ : ∃ T : Nat, 4294967296 * (r : Int) + (m1 : Int) = (T : Int) := ⟨r * 4294967296 + m1, by omega⟩
          have hgt' : decide (T < q * B) = false := decide_eq_false (by omega)
          have hbig2 : decide ((4294967296 : Int) ≤ (q : Int)) = false := decide_eq_false (by omega)
          clear hgt hbig hP hbig'
          generalize q * B = P at *
          go_wp2_with fail
          go_meet
          exact ⟨by rw [← HF.out], rfl⟩
  case rest =>
    obtain ⟨hq, hw⟩ := hcut
    subst hq
    subst hw
    have HVY := Lib.hid hvY
    obtain ⟨D0, hD0⟩ : ∃ D0, D0 = (V * 4294967296 + m0) / Y := ⟨_, rfl⟩
    have hd0 := digit_lt HVY.out hm01
    have hvE : (V * 4294967296 + m0) / Y = (V * 4294967296 + m0) / (A * 4294967296 + B) := by rw [← HY.out]
    rw [← hD0] at hd0 HT hvE
    have HV0 := Lib.hid hvE
    clear hvE hD0
    have hV64 : V < 18446744073709551616 := by omega
    clear e6 e7 hq2 hU64
    have hq1 : V / A < 18446744073709551616 := Nat.lt_of_le_of_lt (Nat.div_le_self _ _) hV64
    have hq3 : V % A < 4294967296 := by have := Nat.mod_lt V (show 0 < A by omega); omega
    have e6 : IntKind.u64.wrap ((V : Int) / (A : Int)) = ((V / A : Nat) : Int) := by
      rw [← Int.natCast_ediv, wrapL _ hq1]
    have e7 : IntKind.u64.wrap ((V : Int) - IntKind.u64.wrap (((V / A : Nat) : Int) * (A : Int))) = ((V % A : Nat) : Int) := by
      have h1 := Nat.div_add_mod V A
      rw [show ((V / A : Nat) : Int) * (A : Int) = ((A * (V / A) : Nat) : Int) by push_cast; rw [Int.mul_comm], ← wrapL V hV64]
      exact wrapD (by omega) (by omega) (by omega)
    have HD2 : Hid (DigQ A B V m0 (V / A) (V % A)) := Lib.hid (DigQ.start hA0 hB1 hm01 (by rw [← HY.out]; exact hvY))
    clear hvY hq1
    generalize V / A = q2 at *
    generalize V % A = r2 at *
    have HTI := Lib.hid (show (((hi * 18446744073709551616 + lo) / y : Nat) : Int) = (D1 : Int) * 4294967296 + (D0 : Int) by rw [HT.out, Int.natCast_add, Int.natCast_mul]; rfl)
    go_upto_block 2 with fail
    go_cut [18] from 102 to 120 (fun q wx => q = .int .u64 (D0 : Int) ∧ wx = wc)
    case first =>
      go_wp2_with fail
      go_loop [18, 16] (DigS A B V m0) (fun q _ => (intOf q).toNat)
      case atStart => exact ⟨q2, r2, rfl, rfl, hq3, HD2⟩
      case round =>
        clear e6 e7 hY1 hh h0 hl hm hq3 hd1 hd0
        obtain ⟨q, r, rfl, rfl, hr, HD⟩ := hrel
        have hqm : (q : Int) ≤ 4294967297 := by have := HD.out.2.2; omega
        have hr' : (r : Int) < 4294967296 := by omega
        clear hr
        by_cases hbig : 4294967296 ≤ q
        · have HN := Lib.hid (HD.out.down (by rw [← HY.out]; exact HVY.out) hm01 (.inl hbig))
          have hbig' : (4294967296 : Int) ≤ (q : Int) := by omega
          clear hbig
          have hq0 : (1 : Int) ≤ (q : Int) := by have := HN.out.1; omega
          by_cases hr2 : 4294967296 ≤ r + A
          · have HF : Hid (Value.int IntKind.u64 ((q : Int) - 1) = Value.int IntKind.u64 (D0 : Int)) := Lib.hid (by
              have h1 := HN.out.2.done hA0 (DigQ.past hB1 (by omega) hr2)
              rw [← HV0.out] at h1
              rw [← h1]
              congr 1
              omega)
            obtain ⟨R2, hR2⟩ : ∃ R2 : Nat, (r : Int) + (A : Int) = (R2 : Int) := ⟨r + A, by omega⟩
            have hr3 : (4294967296 : Int) ≤ (R2 : Int) := by omega
            clear hr2
            go_wp2_with fail
            go_meet
            exact ⟨HF.out, rfl⟩
          · have HM2 : Hid (DigS A B V m0 (.int .u64 ((q : Int) - 1)) (.int .u64 ((r + A : Nat) : Int))) := Lib.hid ⟨q - 1, r + A, by congr 1; omega, rfl, by omega, Lib.hid HN.out.2⟩
            obtain ⟨R2, hR2⟩ : ∃ R2 : Nat, (r : Int) + (A : Int) = (R2 : Int) := ⟨r + A, by omega⟩
            have hr3 : decide ((4294967296 : Int) ≤ (R2 : Int)) = false := decide_eq_false (by omega)
            clear hr2
            go_wp2_with fail
            go_round
            case rel => rw [show (r + A : Nat) = R2 by omega] at HM2; exact HM2.out
            case measure => simp [intOf]; omega
        · have hP : q * B ≤ 4294967295 * 4294967295 := Nat.mul_le_mul (by omega) (by omega)
          have e8 : IntKind.u64.wrap ((q : Int) * (B : Int)) = ((q * B : Nat) : Int) := by rw [← Int.natCast_mul, wrapL _ (by omega)]
          have hbig' : (q : Int) < 4294967296 := by omega
          by_cases hgt : r * 4294967296 + m0 < q * B
          · have HN := Lib.hid (HD.out.down (by rw [← HY.out]; exact HVY.out) hm01 (.inr hgt))
            have hgt' : 4294967296 * (r : Int) + (m0 : Int) < ((q * B : Nat) : Int) := by omega
            clear hgt hbig hP
            generalize q * B = P at *
            have hq0 : (1 : Int) ≤ (q : Int) := by have := HN.out.1; omega
            by_cases hr2 : 4294967296 ≤ r + A
            · have HF : Hid (Value.int IntKind.u64 ((q : Int) - 1) = Value.int IntKind.u64 (D0 : Int)) := Lib.hid (by
                have h1 := HN.out.2.done hA0 (DigQ.past hB1 (by omega) hr2)
                rw [← HV0.out] at h1
                rw [← h1]
                congr 1
                omega)
              obtain ⟨R2, hR2⟩ : ∃ R2 : Nat, (r : Int) + (A : Int) = (R2 : Int) := ⟨r + A, by omega⟩
              have hr3 : (4294967296 : Int) ≤ (R2 : Int) := by omega
              clear hr2
              go_wp2_with fail
              go_meet
              exact ⟨HF.out, rfl⟩
            · have HM2 : Hid (DigS A B V m0 (.int .u64 ((q : Int) - 1)) (.int .u64 ((r + A : Nat) : Int))) := Lib.hid ⟨q - 1, r + A, by congr 1; omega, rfl, by omega, Lib.hid HN.out.2⟩
              obtain ⟨R2, hR2⟩ : ∃ R2 : Nat, (r : Int) + (A : Int) = (R2 : Int) := ⟨r + A, by omega⟩
              have hr3 : decide ((4294967296 : Int) ≤ (R2 : Int)) = false := decide_eq_false (by omega)
              clear hr2
              go_wp2_with fail
              go_round
              case rel => rw [show (r + A : Nat) = R2 by omega] at HM2; exact HM2.out
              case measure => simp [intOf]; omega
          · have HF : Hid (q = D0) := Lib.hid (by rw [HV0.out]; exact HD.out.done hA0 (by omega))
            obtain ⟨T, hT⟩ : ∃ T : Nat, 4294967296 * (r : Int) + (m0 : Int) = (T : Int) := ⟨r * 4294967296 + m0, by omega⟩
            have hgt' : decide (T < q * B) = false := decide_eq_false (by omega)
            have hbig2 : decide ((4294967296 : Int) ≤ (q : Int)) = false := decide_eq_false (by omega)
            clear hgt hbig hP hbig'
            generalize q * B = P at *
            go_wp2_with fail
            go_meet
            exact ⟨by rw [← HF.out], rfl⟩
    case rest =>
      obtain ⟨hq, hw⟩ := hcut
      subst hq
      subst hw
      go_wp2_with fail
      go_ret2
      unfold QuoPost
      rw [HTI.out]
      exact ⟨⟨_, rfl⟩, 0, rfl⟩
theorem div64_any (hi lo y : Nat) (hh : hi < y) (hl : lo < 18446744073709551616) (hy : y < 18446744073709551616) (w : World) :
    Calls Tryd.prog 113 #[.int .u64 hi, .int .u64 lo, .int .u64 y] w (QuoPost ((hi * 18446744073709551616 + lo) / y) w) := by
  rcases Nat.eq_zero_or_pos hi with h0 | h0
  · subst h0
    rw [Nat.zero_mul, Nat.zero_add]
    exact div64_small lo y hh hl hy w
  · exact div64_big hi lo y hh h0 hl hy w

end Go.Proofs.YtkkdlgiilhngcaaDoor
