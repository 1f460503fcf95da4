/-
  Plain facts: the text of limbs is the decimal numeral of their number; when a text of digits is a numeral.
-/
import Derived.Test.YtecaghbakjalgaaDoorNatText
import Derived.Test.YtecaghbakjalgaaDoorTextNat
import Derived.Test.YtecaghbakjalgaaDoorTextInt
import Derived.Test.YtecaghbakjalgaaDoorNatPow
namespace Go.Proofs.YtecaghbakjalgaaDoor
open Go.RowKit

theorem dec_len : ∀ (k u : Nat), u < 10 ^ (k + 1) → (Lib.decDigits u).length ≤ k + 1 := by
  intro k
  induction k with
  | zero => intro u hu; rw [dec_small u (by simpa using hu)]; simp
  | succ k ih =>
    intro u hu
    by_cases hs : u < 10
    · rw [dec_small u hs]; simp
    · rw [dec_big u hs, List.length_append]
      have := ih (u / 10) (by rw [Nat.pow_succ] at hu; omega)
      simp; omega
theorem num_list (d : Int) (h : 0 ≤ d) : (numB d).data.toList = Lib.decDigits d.toNat := by
  show Lib.itoa d = _
  unfold Lib.itoa
  rw [if_neg (by omega)]
theorem limb_nine {d : Int} (h : 0 ≤ d ∧ d ≤ 999999999) : (numB d).size ≤ 9 := by
  have := dec_len 8 d.toNat (by omega)
  rw [← num_list d h.1] at this
  exact this
theorem pad_nine {d : Int} (h : 0 ≤ d ∧ d ≤ 999999999) : (padB (numB d) 9).size = 9 := by
  have h9 := limb_nine h
  unfold padB
  show (List.toArray _).size = 9
  rw [List.size_toArray, List.length_append, List.length_replicate]
  have : (numB d).data.toList.length = (numB d).size := rfl
  have : (9 : Int).toNat = 9 := rfl
  omega
/-- how long the text of limbs is -/
theorem natT_len (a : List Int) (h : DigN a) (h0 : 0 < a.length) : (natT a).size = (a.length - 1) * 9 + (numB (a[a.length - 1]'(by omega))).size := by
  induction a with
  | nil => simp at h0
  | cons d r ih =>
    cases r with
    | nil => unfold natT; simp
    | cons e r =>
      have hi := ih (fun x hx => h x (by simp at hx ⊢; exact .inr hx)) (by simp)
      unfold natT
      rw [ByteArray.size_append, hi, pad_nine (h d (by simp))]
      simp only [List.length_cons]
      have e1 : (d :: e :: r)[r.length + 1 + 1 - 1] = (e :: r)[r.length + 1 - 1] := by simp
      rw [e1]
      omega

/-- the last k digits -/
def lastD : Nat → Nat → List UInt8
  | 0, _ => []
  | k + 1, u => lastD k (u / 10) ++ [UInt8.ofNat (48 + u % 10)]
theorem dec_split (k : Nat) : ∀ u : Nat, 10 ^ k ≤ u → Lib.decDigits u = Lib.decDigits (u / 10 ^ k) ++ lastD k u := by
  induction k with
  | zero => intro u _; simp [lastD]
  | succ k ih =>
    intro u hu
    rw [Nat.pow_succ] at hu
    have hp : 0 < 10 ^ k := Nat.pow_pos (by omega)
    have h10 : ¬ u < 10 := by omega
    have hk : 10 ^ k ≤ u / 10 := by omega
    rw [dec_big u h10, ih (u / 10) hk, Nat.div_div_eq_div_mul, Nat.mul_comm 10, ← Nat.pow_succ, List.append_assoc]
    rfl
theorem lastD_mod (k : Nat) : ∀ u : Nat, lastD k u = lastD k (u % 10 ^ k) := by
  induction k with
  | zero => intro u; rfl
  | succ k ih =>
    intro u
    have e1 : u % 10 ^ (k + 1) / 10 = u / 10 % 10 ^ k := by
      rw [Nat.pow_succ, Nat.mul_comm, Nat.mod_mul_right_div_self]
    have e2 : u % 10 ^ (k + 1) % 10 = u % 10 := by
      rw [Nat.pow_succ, Nat.mul_comm]
      exact Nat.mod_mul_right_mod _ _ _
    show lastD k (u / 10) ++ _ = lastD k (u % 10 ^ (k + 1) / 10) ++ _
    rw [e1, e2, ← ih (u / 10)]
theorem lastD_zero (k : Nat) : lastD k 0 = List.replicate k 48 := by
  induction k with
  | zero => rfl
  | succ k ih =>
    show lastD k (0 / 10) ++ [UInt8.ofNat (48 + 0 % 10)] = _
    rw [Nat.zero_div, ih, List.replicate_succ']
    rfl
theorem lastD_pad (k : Nat) : ∀ u : Nat, u < 10 ^ k → 0 < k → lastD k u = List.replicate (k - (Lib.decDigits u).length) 48 ++ Lib.decDigits u := by
  induction k with
  | zero => intro u _ h; omega
  | succ k ih =>
    intro u hu _
    show lastD k (u / 10) ++ [UInt8.ofNat (48 + u % 10)] = _
    by_cases h10 : u < 10
    · rw [dec_small u h10, show u / 10 = 0 by omega, lastD_zero, show u % 10 = u by omega]
      simp
    · rw [dec_big u h10]
      have hk : 0 < k := by
        rcases Nat.eq_zero_or_pos k with h | h
        · subst h; simp at hu; omega
        · exact h
      rw [ih (u / 10) (by rw [Nat.pow_succ] at hu; omega) hk, List.append_assoc]
      congr 2
      simp
/-- the text of the limbs of a number is its numeral -/
theorem natT_dec (n : Nat) : (natT (limbs n)).data.toList = Lib.decDigits n := by
  induction n using Nat.strongRecOn with
  | _ n ih =>
    by_cases h0 : n = 0
    · subst h0
      rw [limbs_none, dec_small 0 (by omega)]
      rfl
    · rw [limbs_pos n h0]
      by_cases hs : n / 1000000000 = 0
      · rw [hs, limbs_none]
        show (numB _).data.toList = _
        rw [num_list _ (by omega), show (((n % 1000000000 : Nat) : Int)).toNat = n by omega]
      · have hi := ih (n / 1000000000) (by omega)
        rw [limbs_pos _ hs] at hi ⊢
        show (natT _ ++ padB (numB _) 9).data.toList = _
        rw [ByteArray.data_append, Array.toList_append, hi, dec_split 9 n (by omega), lastD_mod 9 n, lastD_pad 9 (n % 10 ^ 9) (by omega) (by omega)]
        unfold padB
        rw [num_list _ (by omega)]
        have e : (numB ((n % 1000000000 : Nat) : Int)).size = (Lib.decDigits (n % 10 ^ 9)).length := by
          show (numB _).data.toList.length = _
          rw [num_list _ (by omega), show (((n % 1000000000 : Nat) : Int)).toNat = n % 10 ^ 9 by omega]
        rw [e, show (((n % 1000000000 : Nat) : Int)).toNat = n % 10 ^ 9 by omega]
        rfl

theorem limbs_dig (n : Nat) : DigN (limbs n) := by
  induction n using Nat.strongRecOn with
  | _ n ih =>
    by_cases h0 : n = 0
    · subst h0; rw [limbs_none]; exact fun d hd => by cases hd
    · rw [limbs_pos n h0]
      exact DigN.cons (by omega) (by omega) (ih _ (by omega))
theorem limbs_last (n : Nat) : (limbs n).getLastD 1 ≠ 0 := by
  induction n using Nat.strongRecOn with
  | _ n ih =>
    by_cases h0 : n = 0
    · subst h0; rw [limbs_none]; decide
    · rw [limbs_pos n h0]
      by_cases hs : n / 1000000000 = 0
      · rw [hs, limbs_none]
        show ((n % 1000000000 : Nat) : Int) ≠ 0
        omega
      · have hi := ih (n / 1000000000) (by omega)
        rw [limbs_pos _ hs] at hi ⊢
        simpa using hi
theorem limbs_ok (n : Nat) (h : (limbs n).length ≤ 50) : natOkB (limbs n) = true := by
  unfold natOkB
  rw [(all_dig _).2 (limbs_dig n), decide_eq_true h, decide_eq_true (limbs_last n)]
  rfl
theorem natText_limbs (n : Nat) (h : (limbs n).length ≤ 50) : (natTextB (limbs n)).data.toList = Lib.decDigits n := by
  unfold natTextB
  rw [if_pos (limbs_ok n h), natT_dec]
theorem groups_len (l : List UInt8) (e : Nat) : (groups l e).length ≤ (e + 8) / 9 := by
  induction e using Nat.strongRecOn with
  | _ e ih =>
    by_cases h0 : e = 0
    · subst h0; rw [groups_zero]; simp
    · rw [groups_pos l e h0, List.length_cons]
      have := ih (e - 9) (by omega)
      omega

/-! ### numerals -/
theorem dec_head (u : Nat) (h : 0 < u) : (Lib.decDigits u).headD 0 ≠ 48 := by
  induction u using Nat.strongRecOn with
  | _ u ih =>
    by_cases h10 : u < 10
    · rw [dec_small u h10]
      show UInt8.ofNat (48 + u) ≠ 48
      intro e
      have := congrArg UInt8.toNat e
      rw [UInt8.toNat_ofNat'] at this
      have h48 : (48 : UInt8).toNat = 48 := rfl
      omega
    · have hi := ih (u / 10) (by omega) (by omega)
      have hd := (dig_dec (u / 10)).2
      rw [dec_big u h10]
      cases hc : Lib.decDigits (u / 10) with
      | nil => exact absurd hc hd
      | cons c r => rw [hc] at hi; simpa using hi
theorem val_pos (l : List UInt8) (h : DigL l) (hne : l ≠ []) (hh : l.headD 0 ≠ 48) : 0 < valL l := by
  cases l with
  | nil => exact absurd rfl hne
  | cons c r =>
    have e : valL (c :: r) = ((c.toNat : Int) - 48) * 10 ^ r.length + valL r := by
      show List.foldl _ (0 * 10 + ((c.toNat : Int) - 48)) r = _
      rw [fold_app, Int.zero_mul, Int.zero_add]
    have hc := h c (by simp)
    have hc48 : c.toNat ≠ 48 := fun e2 => hh (by
      show c = 48
      apply UInt8.toNat_inj.1
      rw [e2]; rfl)
    have hr := valL_nonneg r (fun x hx => h x (by simp [hx]))
    have hp : (0 : Int) < 10 ^ r.length := Int.pow_pos (by omega)
    have hm := Int.mul_le_mul_of_nonneg_right (show (1 : Int) ≤ (c.toNat : Int) - 48 by omega) (Int.le_of_lt hp)
    omega
theorem dec_val_rev (l : List UInt8) (h : DigL l.reverse) (hne : l ≠ []) (hh : l.reverse.length = 1 ∨ l.reverse.headD 0 ≠ 48) : Lib.decDigits (valL l.reverse).toNat = l.reverse := by
  induction l with
  | nil => exact absurd rfl hne
  | cons c m ih =>
    rw [List.reverse_cons] at h hh ⊢
    have hc := h c (by simp)
    have ec : ∀ x : Nat, x = c.toNat - 48 → UInt8.ofNat (48 + x) = c := by
      intro x hx
      apply UInt8.toNat_inj.1
      rw [UInt8.toNat_ofNat', hx]
      omega
    have hm : DigL m.reverse := fun x hx => h x (by rw [List.mem_append]; exact .inl hx)
    rw [valL_snoc]
    by_cases hn : m = []
    · subst hn
      have e0 : valL ([] : List UInt8).reverse = 0 := rfl
      rw [e0, dec_small _ (by omega), ec _ (by omega)]
      rfl
    · have hh2 : m.reverse.headD 0 ≠ 48 := by
        have hr : m.reverse ≠ [] := by simpa using hn
        rcases hh with hh | hh
        · rw [List.length_append, List.length_singleton] at hh
          have : m.reverse.length ≠ 0 := fun e => hr (List.eq_nil_of_length_eq_zero e)
          omega
        · cases hcm : m.reverse with
          | nil => exact absurd hcm hr
          | cons x y => rw [hcm] at hh; simpa using hh
      have hp := val_pos m.reverse hm (by simpa using hn) hh2
      have hi := ih hm hn (.inr hh2)
      rw [dec_big _ (by omega), show (valL m.reverse * 10 + ((c.toNat : Int) - 48)).toNat / 10 = (valL m.reverse).toNat by omega, hi, ec _ (by omega)]
/-- a text of digits is the numeral of its value where it has no zero ahead -/
theorem dec_val (l : List UInt8) (h : DigL l) (hne : l ≠ []) : Lib.decDigits (valL l).toNat = l ↔ ¬ (1 < l.length ∧ l.headD 0 = 48) := by
  constructor
  · intro e ⟨h1, h2⟩
    by_cases h0 : 0 < (valL l).toNat
    · have := dec_head _ h0
      rw [e] at this
      exact this h2
    · rw [show (valL l).toNat = 0 by omega, dec_small 0 (by omega)] at e
      rw [← e] at h1
      simp at h1
  · intro hn
    have hl : 0 < l.length := List.length_pos_iff.2 hne
    have := dec_val_rev l.reverse (by rw [List.reverse_reverse]; exact h) (by simpa using hne) (by
      rw [List.reverse_reverse]
      by_cases h1 : l.length = 1
      · exact .inl h1
      · exact .inr (fun e => hn ⟨by omega, e⟩))
    rwa [List.reverse_reverse] at this
end Go.Proofs.YtecaghbakjalgaaDoor
