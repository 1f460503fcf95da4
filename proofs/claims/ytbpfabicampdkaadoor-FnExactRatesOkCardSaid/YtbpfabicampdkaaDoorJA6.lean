/-
  What spec.TextInt and impl.TextInt return: the int whose numeral the text is, if there is one.
  Plain facts: the text of limbs is the decimal numeral of their number; when a text of digits is a numeral.
  What NatDigits and NatText of package impl return.
  A part of a text, as a list of bytes.
  Numbers that are read from texts, in plain words.
  Chapter 5, signed numbers and their texts, in both packages.
  Comparing: a number with itself, and two numbers turned round.
  Plain facts: a short signed number is read back from its text.
  Texts of decimal numbers: what DecText writes, what TextDec reads, and that each undoes the other.
  Texts of decimal numbers as package impl reads them: cut at the minus and at the point, the noughts ahead trimmed off.
  Texts of rates in plain words.
  Chapter 11 of package impl: RatePut in plain words.
  Lists of rates that a call builds: one more at the end, another one in a place.
  What the methods of impl.nat do to a number of the call's own that is under construction.
  Chapter 11 of package impl: copies (copyRate, copyRates).
  Chapter 11 of package impl: where the rate of a pair stands.
-/
import Derived.Lib.IndexBytes
import Derived.Lib.IndexLaws
import Derived.Lib.TrimByte
import Derived.Lib.Builder
import Derived.Lib.SliceRun
import Derived.Shelf.Abstract
import Derived.Test.YtbpfabicampdkaaDoorJA5
namespace Go.Proofs.YtbpfabicampdkaaDoor
open Go.RowKit

theorem valL_dec (u : Nat) : valL (Lib.decDigits u) = u := by
  induction u using Nat.strongRecOn with
  | _ u ih =>
    by_cases h : u < 10
    · rw [dec_small u h]
      show (0 : Int) * 10 + (((UInt8.ofNat (48 + u)).toNat : Int) - 48) = u
      rw [UInt8.toNat_ofNat']
      omega
    · rw [dec_big u h, valL_snoc, ih (u / 10) (by omega), UInt8.toNat_ofNat']
      omega
theorem dig_dec (u : Nat) : DigL (Lib.decDigits u) ∧ Lib.decDigits u ≠ [] := by
  induction u using Nat.strongRecOn with
  | _ u ih =>
    by_cases h : u < 10
    · rw [dec_small u h]
      refine ⟨fun c hc => ?_, by simp⟩
      rw [List.mem_singleton.1 hc, UInt8.toNat_ofNat']
      omega
    · rw [dec_big u h]
      refine ⟨fun c hc => ?_, by simp⟩
      rcases List.mem_append.1 hc with hc | hc
      · exact (ih (u / 10) (by omega)).1 c hc
      · rw [List.mem_singleton.1 hc, UInt8.toNat_ofNat']
        omega
/-- s is the numeral of the int n -/
def IsNum (s : ByteArray) (n : Int) : Prop := numB n = s ∧ -9223372036854775808 ≤ n ∧ n ≤ 9223372036854775807

/-- without a leading '-' -/
def bareL (l : List UInt8) : List UInt8 := if l.headD 0 = 45 then l.tail else l
theorem isNum_parts (s : ByteArray) (n : Int) (h : IsNum s n) : DigL (bareL s.data.toList) ∧ bareL s.data.toList ≠ [] ∧ valL (bareL s.data.toList) = n.natAbs ∧ ((s.data.toList.headD 0 = 45) ↔ n < 0) ∧ (bareL s.data.toList).length ≤ 19 := by
  obtain ⟨rfl, h1, h2⟩ := h
  have hsz := numB_size n 18 (by omega)
  have e : (numB n).data.toList = Lib.itoa n := rfl
  have hsz' : (Lib.itoa n).length ≤ 20 := hsz
  rw [e]
  unfold Lib.itoa at hsz' ⊢
  by_cases hn : n < 0
  · rw [if_pos hn] at hsz' ⊢
    have hb : bareL (45 :: Lib.decDigits n.natAbs) = Lib.decDigits n.natAbs := rfl
    rw [hb]
    exact ⟨(dig_dec _).1, (dig_dec _).2, valL_dec _, by simp [hn], by simp at hsz'; omega⟩
  · rw [if_neg hn] at hsz' ⊢
    have hd := dig_dec n.toNat
    have hh : ¬ (Lib.decDigits n.toNat).headD 0 = 45 := by
      intro e2
      cases hc : Lib.decDigits n.toNat with
      | nil => exact hd.2 hc
      | cons c r =>
        rw [hc] at e2
        have h3 := hd.1 c (by rw [hc]; simp)
        have : c = 45 := e2
        rw [this] at h3
        simp at h3
    have hb : bareL (Lib.decDigits n.toNat) = Lib.decDigits n.toNat := by unfold bareL; rw [if_neg hh]
    rw [hb]
    refine ⟨hd.1, hd.2, by rw [valL_dec]; omega, ⟨fun e => absurd e hh, fun e => absurd e hn⟩, ?_⟩
    have h4 : ∀ (k u : Nat), u < 10 ^ (k + 1) → (Lib.decDigits u).length ≤ k + 1 := by
      intro k
      induction k with
      | zero => intro u hu; rw [dec_small u (by simpa using hu)]; simp
      | succ k ih =>
        intro u hu
        by_cases hs : u < 10
        · rw [dec_small u hs]; simp
        · rw [dec_big u hs, List.length_append]
          have := ih (u / 10) (by rw [Nat.pow_succ] at hu; omega)
          simp; omega
    exact h4 18 _ (by omega)
theorem isNum_inj (s : ByteArray) (n m : Int) (h : IsNum s n) (k : IsNum s m) : n = m := by
  obtain ⟨_, _, a1, a2, _⟩ := isNum_parts s n h
  obtain ⟨_, _, b1, b2, _⟩ := isNum_parts s m k
  rw [a1] at b1
  rw [a2] at b2
  omega

/-- what TextInt answers -/
def TIPost (s : ByteArray) (w : World) (e : Ending) (w' : World) : Prop :=
  Below w.heap.size w w' ∧ ((∃ n, IsNum s n ∧ e = .returned (.tuple #[.int .i64 n, .bool true])) ∨ ((∀ n, ¬ IsNum s n) ∧ e = .returned (.tuple #[.int .i64 0, .bool false])))

theorem wrap_step (a c : Int) : wrap64 (wrap64 (wrap64 a * 10) + c) = wrap64 (a * 10 + c) := by unfold wrap64; omega


theorem prefix_head (l : List UInt8) : Lib.hasPrefix l [45] = decide (l.headD 0 = 45) := by
  unfold Lib.hasPrefix
  cases l with
  | nil => rfl
  | cons c r =>
    show (List.isPrefixOf [45] (c :: r)) = decide (c = 45)
    simp [List.isPrefixOf]
    by_cases h : c = 45
    · subst h; simp
    · rw [decide_eq_false h, beq_eq_false_iff_ne]
      exact fun e => h e.symm
theorem trim_bare (l : List UInt8) : Lib.trimPrefix l [45] = bareL l := by
  unfold Lib.trimPrefix bareL
  rw [prefix_head]
  by_cases h : l.headD 0 = 45
  · rw [if_pos h, if_pos (by simpa using h), List.length_singleton, List.drop_one]
  · rw [if_neg h, if_neg (by simpa using h)]
/-- the digits of a text, and whether it has a '-' ahead -/
def bareB (s : ByteArray) : ByteArray := ⟨(bareL s.data.toList).toArray⟩
def negB (s : ByteArray) : Bool := decide (s.data.toList.headD 0 = 45)

/-- the int that impl.TextInt tries -/
def tryB (s : ByteArray) : Int := if negB s = true then wrap64 (-(wrap64 (valL (bareL s.data.toList)))) else wrap64 (valL (bareL s.data.toList))
theorem try_range (s : ByteArray) : -9223372036854775808 ≤ tryB s ∧ tryB s ≤ 9223372036854775807 := by
  unfold tryB
  split <;> (unfold wrap64; omega)
theorem try_is (s : ByteArray) (n : Int) (h : IsNum s n) : tryB s = n := by
  obtain ⟨_, _, h3, h4, _⟩ := isNum_parts s n h
  obtain ⟨_, h1, h2⟩ := h
  unfold tryB negB
  rw [h3]
  by_cases hn : n < 0
  · rw [if_pos (by rw [decide_eq_true_eq]; exact h4.2 hn)]
    unfold wrap64
    omega
  · rw [if_neg (by rw [decide_eq_true_eq]; exact fun e => hn (h4.1 e))]
    unfold wrap64
    omega
theorem no_num_digits (s : ByteArray) (h : digitsB (bareB s) = false) : ∀ n, ¬ IsNum s n := by
  intro n hn
  obtain ⟨h1, h2, _⟩ := isNum_parts s n hn
  rw [(digitsB_iff (bareB s)).2 ⟨h1, h2⟩] at h
  cases h
theorem no_num_try (s : ByteArray) (h : ¬ numB (tryB s) = s) : ∀ n, ¬ IsNum s n := by
  intro n hn
  apply h
  rw [try_is s n hn]
  exact hn.1
theorem bytes_ne' {a b : ByteArray} (h : ¬ a = b) : (a.toList == b.toList) = false := by
  rw [beq_eq_false_iff_ne, ByteArray.toList_eq, ByteArray.toList_eq]
  exact fun e => h (WideShapes.bytes_inj e)


theorem bareB_data (s : ByteArray) : (bareB s).data.toList = bareL s.data.toList := rfl
theorem negB_head (s : ByteArray) (h0 : 0 < s.size) : negB s = ((s[0].toNat : Int) == 45) := by
  unfold negB
  rw [head_get s h0]
  by_cases h : s[0] = 45
  · rw [h]; rfl
  · rw [decide_eq_false h]
    symm
    rw [beq_eq_false_iff_ne]
    intro e
    exact h (UInt8.toNat_inj.1 (by show s[0].toNat = 45; omega))
theorem bareB_tail (s : ByteArray) (h : negB s = true) : s.extract 1 s.size = bareB s := by
  apply WideShapes.bytes_inj
  rw [bareB_data, Lib.extract_to_end]
  unfold bareL
  rw [if_pos (by simpa [negB] using h), List.drop_one]
theorem bareB_self (s : ByteArray) (h : negB s = false) : bareB s = s := by
  apply WideShapes.bytes_inj
  rw [bareB_data]
  unfold bareL
  rw [if_neg (by simpa [negB] using h)]
theorem negB_nil (s : ByteArray) (h : ¬ 0 < s.size) : negB s = false := by
  obtain ⟨⟨l⟩⟩ := s
  cases l with
  | nil => rfl
  | cons a r => simp [ByteArray.size] at h
theorem no_num_long (s : ByteArray) (h : 19 < (bareB s).size) : ∀ n, ¬ IsNum s n := by
  intro n hn
  obtain ⟨_, _, _, _, h5⟩ := isNum_parts s n hn
  have : (bareB s).size = (bareL s.data.toList).length := rfl
  omega
theorem no_num_big (s : ByteArray) (k : Nat) (hd : DigL (bareB s).data.toList) (h : 9223372036854775808 < valL ((bareB s).data.toList.take k)) : ∀ n, ¬ IsNum s n := by
  intro n hn
  obtain ⟨_, _, h3, _, _⟩ := isNum_parts s n hn
  obtain ⟨_, h1, h2⟩ := hn
  have hm := valL_mono ((bareB s).data.toList.take k) ((bareB s).data.toList.drop k) (by rw [List.take_append_drop]; exact hd)
  rw [List.take_append_drop, bareB_data, h3] at hm
  rw [bareB_data] at h
  omega
theorem no_num_min (s : ByteArray) (hn : negB s = false) (h : valL (bareB s).data.toList = 9223372036854775808) : ∀ n, ¬ IsNum s n := by
  intro n hx
  obtain ⟨_, _, h3, h4, _⟩ := isNum_parts s n hx
  obtain ⟨_, h1, h2⟩ := hx
  rw [bareB_data, h3] at h
  have : ¬ n < 0 := fun e => by have h5 := h4.2 e; unfold negB at hn; rw [decide_eq_true h5] at hn; cases hn
  omega
/-- the int that spec.TextInt tries -/
theorem try_neg (s : ByteArray) (hn : negB s = true) (h0 : 0 ≤ valL (bareB s).data.toList) (h : valL (bareB s).data.toList ≤ 9223372036854775808) : -valL (bareB s).data.toList = tryB s := by
  rw [bareB_data] at h h0 ⊢
  unfold tryB
  rw [if_pos hn]
  unfold wrap64
  omega
theorem try_pos (s : ByteArray) (hn : negB s = false) (h0 : 0 ≤ valL (bareB s).data.toList) (h : valL (bareB s).data.toList ≤ 9223372036854775807) : valL (bareB s).data.toList = tryB s := by
  rw [bareB_data] at h h0 ⊢
  unfold tryB
  rw [if_neg (by simp [hn])]
  unfold wrap64
  omega
theorem take_all (t : ByteArray) : t.data.toList.take t.size = t.data.toList := List.take_of_length_le (Nat.le_refl _)
/-- the bound that the loop of spec.TextInt asks -/
theorem quo_bound (v d : Int) (hd : 0 ≤ d) (hd9 : d ≤ 9) : (-v < (-9223372036854775808 + d).tdiv 10) ↔ 9223372036854775808 < v * 10 + d := by
  have h := quo_rem (-9223372036854775808 + d) (by omega)
  omega






end Go.Proofs.YtbpfabicampdkaaDoor

namespace Go.Proofs.YtbpfabicampdkaaDoor
open Go.RowKit

theorem dec_len : ∀ (k u : Nat), u < 10 ^ (k + 1) → (Lib.decDigits u).length ≤ k + 1 := by
  intro k
  induction k with
  | zero => intro u hu; rw [dec_small u (by simpa using hu)]; simp
  | succ k ih =>
    intro u hu
    by_cases hs : u < 10
    · rw [dec_small u hs]; simp
    · rw [dec_big u hs, List.length_append]
      have := ih (u / 10) (by rw [Nat.pow_succ] at hu; omega)
      simp; omega
theorem num_list (d : Int) (h : 0 ≤ d) : (numB d).data.toList = Lib.decDigits d.toNat := by
  show Lib.itoa d = _
  unfold Lib.itoa
  rw [if_neg (by omega)]
theorem limb_nine {d : Int} (h : 0 ≤ d ∧ d ≤ 999999999) : (numB d).size ≤ 9 := by
  have := dec_len 8 d.toNat (by omega)
  rw [← num_list d h.1] at this
  exact this
theorem pad_nine {d : Int} (h : 0 ≤ d ∧ d ≤ 999999999) : (padB (numB d) 9).size = 9 := by
  have h9 := limb_nine h
  unfold padB
  show (List.toArray _).size = 9
  rw [List.size_toArray, List.length_append, List.length_replicate]
  have : (numB d).data.toList.length = (numB d).size := rfl
  have : (9 : Int).toNat = 9 := rfl
  omega
/-- how long the text of limbs is -/
theorem natT_len (a : List Int) (h : DigN a) (h0 : 0 < a.length) : (natT a).size = (a.length - 1) * 9 + (numB (a[a.length - 1]'(by omega))).size := by
  induction a with
  | nil => simp at h0
  | cons d r ih =>
    cases r with
    | nil => unfold natT; simp
    | cons e r =>
      have hi := ih (fun x hx => h x (by simp at hx ⊢; exact .inr hx)) (by simp)
      unfold natT
      rw [ByteArray.size_append, hi, pad_nine (h d (by simp))]
      simp only [List.length_cons]
      have e1 : (d :: e :: r)[r.length + 1 + 1 - 1] = (e :: r)[r.length + 1 - 1] := by simp
      rw [e1]
      omega

/-- the last k digits -/
def lastD : Nat → Nat → List UInt8
  | 0, _ => []
  | k + 1, u => lastD k (u / 10) ++ [UInt8.ofNat (48 + u % 10)]
theorem dec_split (k : Nat) : ∀ u : Nat, 10 ^ k ≤ u → Lib.decDigits u = Lib.decDigits (u / 10 ^ k) ++ lastD k u := by
  induction k with
  | zero => intro u _; simp [lastD]
  | succ k ih =>
    intro u hu
    rw [Nat.pow_succ] at hu
    have hp : 0 < 10 ^ k := Nat.pow_pos (by omega)
    have h10 : ¬ u < 10 := by omega
    have hk : 10 ^ k ≤ u / 10 := by omega
    rw [dec_big u h10, ih (u / 10) hk, Nat.div_div_eq_div_mul, Nat.mul_comm 10, ← Nat.pow_succ, List.append_assoc]
    rfl
theorem lastD_mod (k : Nat) : ∀ u : Nat, lastD k u = lastD k (u % 10 ^ k) := by
  induction k with
  | zero => intro u; rfl
  | succ k ih =>
    intro u
    have e1 : u % 10 ^ (k + 1) / 10 = u / 10 % 10 ^ k := by
      rw [Nat.pow_succ, Nat.mul_comm, Nat.mod_mul_right_div_self]
    have e2 : u % 10 ^ (k + 1) % 10 = u % 10 := by
      rw [Nat.pow_succ, Nat.mul_comm]
      exact Nat.mod_mul_right_mod _ _ _
    show lastD k (u / 10) ++ _ = lastD k (u % 10 ^ (k + 1) / 10) ++ _
    rw [e1, e2, ← ih (u / 10)]
theorem lastD_zero (k : Nat) : lastD k 0 = List.replicate k 48 := by
  induction k with
  | zero => rfl
  | succ k ih =>
    show lastD k (0 / 10) ++ [UInt8.ofNat (48 + 0 % 10)] = _
    rw [Nat.zero_div, ih, List.replicate_succ']
    rfl
theorem lastD_pad (k : Nat) : ∀ u : Nat, u < 10 ^ k → 0 < k → lastD k u = List.replicate (k - (Lib.decDigits u).length) 48 ++ Lib.decDigits u := by
  induction k with
  | zero => intro u _ h; omega
  | succ k ih =>
    intro u hu _
    show lastD k (u / 10) ++ [UInt8.ofNat (48 + u % 10)] = _
    by_cases h10 : u < 10
    · rw [dec_small u h10, show u / 10 = 0 by omega, lastD_zero, show u % 10 = u by omega]
      simp
    · rw [dec_big u h10]
      have hk : 0 < k := by
        rcases Nat.eq_zero_or_pos k with h | h
        · subst h; simp at hu; omega
        · exact h
      rw [ih (u / 10) (by rw [Nat.pow_succ] at hu; omega) hk, List.append_assoc]
      congr 2
      simp
/-- the text of the limbs of a number is its numeral -/
theorem natT_dec (n : Nat) : (natT (limbs n)).data.toList = Lib.decDigits n := by
  induction n using Nat.strongRecOn with
  | _ n ih =>
    by_cases h0 : n = 0
    · subst h0
      rw [limbs_none, dec_small 0 (by omega)]
      rfl
    · rw [limbs_pos n h0]
      by_cases hs : n / 1000000000 = 0
      · rw [hs, limbs_none]
        show (numB _).data.toList = _
        rw [num_list _ (by omega), show (((n % 1000000000 : Nat) : Int)).toNat = n by omega]
      · have hi := ih (n / 1000000000) (by omega)
        rw [limbs_pos _ hs] at hi ⊢
        show (natT _ ++ padB (numB _) 9).data.toList = _
        rw [ByteArray.data_append, Array.toList_append, hi, dec_split 9 n (by omega), lastD_mod 9 n, lastD_pad 9 (n % 10 ^ 9) (by omega) (by omega)]
        unfold padB
        rw [num_list _ (by omega)]
        have e : (numB ((n % 1000000000 : Nat) : Int)).size = (Lib.decDigits (n % 10 ^ 9)).length := by
          show (numB _).data.toList.length = _
          rw [num_list _ (by omega), show (((n % 1000000000 : Nat) : Int)).toNat = n % 10 ^ 9 by omega]
        rw [e, show (((n % 1000000000 : Nat) : Int)).toNat = n % 10 ^ 9 by omega]
        rfl

theorem limbs_dig (n : Nat) : DigN (limbs n) := by
  induction n using Nat.strongRecOn with
  | _ n ih =>
    by_cases h0 : n = 0
    · subst h0; rw [limbs_none]; exact fun d hd => by cases hd
    · rw [limbs_pos n h0]
      exact DigN.cons (by omega) (by omega) (ih _ (by omega))
theorem limbs_last (n : Nat) : (limbs n).getLastD 1 ≠ 0 := by
  induction n using Nat.strongRecOn with
  | _ n ih =>
    by_cases h0 : n = 0
    · subst h0; rw [limbs_none]; decide
    · rw [limbs_pos n h0]
      by_cases hs : n / 1000000000 = 0
      · rw [hs, limbs_none]
        show ((n % 1000000000 : Nat) : Int) ≠ 0
        omega
      · have hi := ih (n / 1000000000) (by omega)
        rw [limbs_pos _ hs] at hi ⊢
        simpa using hi
theorem limbs_ok (n : Nat) (h : (limbs n).length ≤ 50) : natOkB (limbs n) = true := by
  unfold natOkB
  rw [(all_dig _).2 (limbs_dig n), decide_eq_true h, decide_eq_true (limbs_last n)]
  rfl
theorem natText_limbs (n : Nat) (h : (limbs n).length ≤ 50) : (natTextB (limbs n)).data.toList = Lib.decDigits n := by
  unfold natTextB
  rw [if_pos (limbs_ok n h), natT_dec]
theorem groups_len (l : List UInt8) (e : Nat) : (groups l e).length ≤ (e + 8) / 9 := by
  induction e using Nat.strongRecOn with
  | _ e ih =>
    by_cases h0 : e = 0
    · subst h0; rw [groups_zero]; simp
    · rw [groups_pos l e h0, List.length_cons]
      have := ih (e - 9) (by omega)
      omega

/-! ### numerals -/
theorem dec_head (u : Nat) (h : 0 < u) : (Lib.decDigits u).headD 0 ≠ 48 := by
  induction u using Nat.strongRecOn with
  | _ u ih =>
    by_cases h10 : u < 10
    · rw [dec_small u h10]
      show UInt8.ofNat (48 + u) ≠ 48
      intro e
      have := congrArg UInt8.toNat e
      rw [UInt8.toNat_ofNat'] at this
      have h48 : (48 : UInt8).toNat = 48 := rfl
      omega
    · have hi := ih (u / 10) (by omega) (by omega)
      have hd := (dig_dec (u / 10)).2
      rw [dec_big u h10]
      cases hc : Lib.decDigits (u / 10) with
      | nil => exact absurd hc hd
      | cons c r => rw [hc] at hi; simpa using hi
theorem val_pos (l : List UInt8) (h : DigL l) (hne : l ≠ []) (hh : l.headD 0 ≠ 48) : 0 < valL l := by
  cases l with
  | nil => exact absurd rfl hne
  | cons c r =>
    have e : valL (c :: r) = ((c.toNat : Int) - 48) * 10 ^ r.length + valL r := by
      show List.foldl _ (0 * 10 + ((c.toNat : Int) - 48)) r = _
      rw [fold_app, Int.zero_mul, Int.zero_add]
    have hc := h c (by simp)
    have hc48 : c.toNat ≠ 48 := fun e2 => hh (by
      show c = 48
      apply UInt8.toNat_inj.1
      rw [e2]; rfl)
    have hr := valL_nonneg r (fun x hx => h x (by simp [hx]))
    have hp : (0 : Int) < 10 ^ r.length := Int.pow_pos (by omega)
    have hm := Int.mul_le_mul_of_nonneg_right (show (1 : Int) ≤ (c.toNat : Int) - 48 by omega) (Int.le_of_lt hp)
    omega
theorem dec_val_rev (l : List UInt8) (h : DigL l.reverse) (hne : l ≠ []) (hh : l.reverse.length = 1 ∨ l.reverse.headD 0 ≠ 48) : Lib.decDigits (valL l.reverse).toNat = l.reverse := by
  induction l with
  | nil => exact absurd rfl hne
  | cons c m ih =>
    rw [List.reverse_cons] at h hh ⊢
    have hc := h c (by simp)
    have ec : ∀ x : Nat, x = c.toNat - 48 → UInt8.ofNat (48 + x) = c := by
      intro x hx
      apply UInt8.toNat_inj.1
      rw [UInt8.toNat_ofNat', hx]
      omega
    have hm : DigL m.reverse := fun x hx => h x (by rw [List.mem_append]; exact .inl hx)
    rw [valL_snoc]
    by_cases hn : m = []
    · subst hn
      have e0 : valL ([] : List UInt8).reverse = 0 := rfl
      rw [e0, dec_small _ (by omega), ec _ (by omega)]
      rfl
    · have hh2 : m.reverse.headD 0 ≠ 48 := by
        have hr : m.reverse ≠ [] := by simpa using hn
        rcases hh with hh | hh
        · rw [List.length_append, List.length_singleton] at hh
          have : m.reverse.length ≠ 0 := fun e => hr (List.eq_nil_of_length_eq_zero e)
          omega
        · cases hcm : m.reverse with
          | nil => exact absurd hcm hr
          | cons x y => rw [hcm] at hh; simpa using hh
      have hp := val_pos m.reverse hm (by simpa using hn) hh2
      have hi := ih hm hn (.inr hh2)
      rw [dec_big _ (by omega), show (valL m.reverse * 10 + ((c.toNat : Int) - 48)).toNat / 10 = (valL m.reverse).toNat by omega, hi, ec _ (by omega)]
/-- a text of digits is the numeral of its value where it has no zero ahead -/
theorem dec_val (l : List UInt8) (h : DigL l) (hne : l ≠ []) : Lib.decDigits (valL l).toNat = l ↔ ¬ (1 < l.length ∧ l.headD 0 = 48) := by
  constructor
  · intro e ⟨h1, h2⟩
    by_cases h0 : 0 < (valL l).toNat
    · have := dec_head _ h0
      rw [e] at this
      exact this h2
    · rw [show (valL l).toNat = 0 by omega, dec_small 0 (by omega)] at e
      rw [← e] at h1
      simp at h1
  · intro hn
    have hl : 0 < l.length := List.length_pos_iff.2 hne
    have := dec_val_rev l.reverse (by rw [List.reverse_reverse]; exact h) (by simpa using hne) (by
      rw [List.reverse_reverse]
      by_cases h1 : l.length = 1
      · exact .inl h1
      · exact .inr (fun e => hn ⟨by omega, e⟩))
    rwa [List.reverse_reverse] at this
end Go.Proofs.YtbpfabicampdkaaDoor

namespace Go.Proofs.YtbpfabicampdkaaDoor
open Go.RowKit

theorem strInfoD : (Tryd.prog.info? 9).map (fun i => (i.zero, i.size, i.bytes)) = some (some (.string ⟨#[]⟩), 1, 16) := by kernel_rfl
theorem joinTo_leftD (b : ByteArray) (l : List ByteArray) (x : ByteArray) : ∀ k, k ≤ l.length → joinTo b (l ++ [x]) k = joinTo b l k := by
  intro k
  induction k with
  | zero => intro _; rfl
  | succ k ih =>
    intro hk
    have e : (l ++ [x]).getD k ByteArray.empty = l.getD k ByteArray.empty := by
      rw [List.getD_eq_getElem?_getD, List.getD_eq_getElem?_getD, List.getElem?_append_left (by omega)]
    rw [joinTo, joinTo, ih (by omega), e]
/-- nothing between the parts: one part more is laid behind -/
theorem joinB_snoc (l : List ByteArray) (x : ByteArray) : joinB ⟨#[]⟩ (l ++ [x]) = joinB ⟨#[]⟩ l ++ x := by
  have e : (l ++ [x]).getD l.length ByteArray.empty = x := by simp
  apply ByteArray.ext
  unfold joinB
  rw [List.length_append, List.length_singleton, joinTo, joinTo_leftD _ l x _ (Nat.le_refl _), e, ByteArray.data_append]
  simp
theorem joinB_one (x : ByteArray) : joinB ⟨#[]⟩ [x] = x := by
  apply ByteArray.ext
  simp [joinB, joinTo]


/-- the parts so far are the text of the limbs from k on -/
def PartsR (a : List Int) (k : Nat) (ss : List ByteArray) : Prop := joinB ⟨#[]⟩ ss = natT (a.drop k) ∧ (∀ s ∈ ss, s.size ≤ 1048576) ∧ ss.length + k ≤ a.length
theorem PartsR.next {a : List Int} {j : Nat} {ss : List ByteArray} (h : PartsR a (j + 1) ss) (hj : j + 1 < a.length) (hd : DigN a) : PartsR a j (ss ++ [padB (numB a[j]) 9]) := by
  obtain ⟨h1, h2, h3⟩ := h
  refine ⟨by rw [joinB_snoc, h1, natT_step a j hj], ?_, by simp; omega⟩
  intro s hs
  rcases List.mem_append.1 hs with hs | hs
  · exact h2 s hs
  · rw [List.mem_singleton.1 hs, pad_nine (hd.at_ j (by omega))]
    omega
set_option maxHeartbeats 1000000 in
set_option maxRecDepth 100000 in
theorem implNatText_any (v : Value) (a : List Int) (lo hi : Nat) (w : World) (hl : a.length ≤ 1048576) (hhi : hi ≤ w.heap.size) (hr : Row w lo hi v (intsV a)) (ht : Tab w) :
    Calls Tryd.prog 73 #[v] w fun e w' => e = .returned (.string (natTextB a)) ∧ Below w.heap.size w w' := by
  obtain ⟨i0, hi0, hz0, hz1, hz2⟩ := info_parts strInfoD
  have hr0 := hr
  obtain ⟨A, c, rfl, hA⟩ := hr
  rw [intsV_length] at hr0 ⊢
  by_cases ok : natOkB a = true
  · have HV := Lib.hid (show natTextB a = natT a by unfold natTextB; rw [if_pos ok])
    by_cases h0 : a.length = 0
    · have HA := Lib.hid (show a = [] from List.length_eq_zero_iff.1 h0)
      have H0 := Lib.hid h0
      clear h0
      go_enter Tryd.func73, Tryd.ntmps73
      go_wp2_with fail
      refine (implNatOk_same _ a lo hi _ (by omega) hr0).mono ?_
      rintro e w' ⟨rfl, rfl⟩
      rw [ok]
      have h0 := H0.out
      go_wp2
      go_ret
      exact ⟨by rw [HV.out, HA.out]; rfl, Below.refl _ _⟩
    · have hpos : 0 < a.length := by omega
      obtain ⟨ad, rfl, hlo, hbh, hc1⟩ := hA (a.length - 1) _ (intsV_at a (a.length - 1) (by omega))
      have HA := Lib.hid hA
      have PA := Lib.hid (natOk_parts ok).1
      have hlim := (natOk_parts ok).1.at_ (a.length - 1) (by omega)
      have h50 := (natOk_parts ok).2.1
      have hls := limb_nine hlim
      have hix : ((a.length : Int) - 1).toNat = a.length - 1 := by omega
      have hz : ((a.length : Int) == 0) = false := by rw [beq_eq_false_iff_ne]; omega
      have HL : Hid (PartsR a (a.length - 1) [numB a[a.length - 1]]) := Lib.hid ⟨by rw [joinB_one, natT_last a hpos], (fun s hs => by rw [List.mem_singleton.1 hs]; omega), by simp; omega⟩
      clear hA h0
      go_enter Tryd.func73, Tryd.ntmps73
      go_wp2_with fail
      refine (implNatOk_same _ a lo hi _ (by omega) hr0).mono ?_
      rintro e w' ⟨rfl, rfl⟩
      rw [ok]
      go_wp2_with fail
      refine (implIntText_any _ _ (by omega) (by omega) ht).mono ?_
      rintro e w1 ⟨rfl, b1⟩
      go_wp2
      go_loopw [4, 5] (fun s i wr => ∃ (k : Nat) (ss : List ByteArray), k < a.length ∧ i = .int .i64 ((k : Int) - 1) ∧ Hid (PartsR a k ss) ∧ wr.ownsRow w.heap.size 9 1 s ss.length (ss.map Value.string) ∧ Below w.heap.size w wr) (fun _ i _ => (intOf i + 1).toNat)
      case atStart => exact ⟨a.length - 1, [numB a[a.length - 1]], by omega, by congr 1; omega, HL, ⟨rfl, .inr ⟨w1.heap.size, 1, _, rfl, b1.size, heap_alloc_new w1 _, Nat.le_refl _, by unfold maxLen; omega, rfl, rfl⟩⟩, b1.alloc b1.size _⟩
      case round =>
        obtain ⟨k, ss, hk, rfl, HP, hown, hb⟩ := hrel
        have hsl : ss.length ≤ 50 := by have := HP.out.2.2; omega
        by_cases hk0 : 0 < k
        · obtain ⟨j, rfl⟩ : ∃ j, k = j + 1 := ⟨k - 1, by omega⟩
          have hcj : wr.cell? (ad.add j) = some (.int .i64 a[j]) := by
            obtain ⟨_, e, _, _, h⟩ := HA.out j _ (intsV_at a j (by omega))
            cases e
            exact (hb.cell (by rw [block_add]; omega)).trans h
          have hj := PA.out.at_ j (by omega)
          have hlj := limb_nine hj
          have HN := Lib.hid (HP.out.next hk PA.out)
          have e1 : (((j + 1 : Nat) : Int) - 1) = (j : Int) := by omega
          rw [e1]
          clear e1 hk0
          go_wp2_with fail
          refine (implIntText_any _ _ (by omega) (by omega) (ht.below hb)).mono ?_
          rintro e w2 ⟨rfl, b2⟩
          go_wp2_with fail
          refine (implPad_any _ _ _ (by omega) (by omega) (by omega)).mono ?_
          rintro e w3 ⟨rfl, b3⟩
          have hown3 := own_below (own_below hown b2) b3
          have hb3 : Below w.heap.size w w3 := Below.next (Below.next hb b2) b3
          go_wp2_with (at_builtin; refine wpList_append_own _ rfl _ _ 78 rfl w.heap.size 9 i0 (.string ⟨#[]⟩) 1 16 Tryd.underlying78 hi0 hz0 hz1 hz2 rfl (by decide) _ _ _ rfl (own_alloc hown3 _) ⟨w3.heap.size, 0, none⟩ 1 1 [.string (padB (numB a[j]) 9)] rfl rfl (one_new _ _ _) ?c2 ?c3 ?c4 ?c5 ?_)
          case c2 => first | (intro u hu; simp at hu; subst hu; rfl) | rfl
          case c3 => unfold maxLen; omega
          case c4 => omega
          case c5 => have := hb3.size; simp; omega
          intro v1 w4 hown4 hg4 _
          have hb4 := below_push hb3 (Nat.le_refl _) hown3 hg4
          go_wp2
          exact ⟨⟨j, ss ++ [padB (numB a[j]) 9], by omega, rfl, HN, by simpa using hown4, hb4⟩, by simp [intOf]⟩
        · obtain rfl : k = 0 := by omega
          go_wp2_with fail
          refine (implJoin_any _ ⟨#[]⟩ ss w.heap.size _ _ (Nat.le_refl _) (by omega) (by decide) HP.out.2.1 (Row.of_own hown)).mono ?_
          rintro e w2 ⟨rfl, b2⟩
          go_wp2
          go_ret
          exact ⟨ret_str (by rw [HV.out, HP.out.1]; rfl), Below.next hb b2⟩
  · have okf : natOkB a = false := by simpa using ok
    have HV := Lib.hid (show natTextB a = ⟨#[]⟩ by unfold natTextB; rw [if_neg ok])
    clear hA ok
    go_enter Tryd.func73, Tryd.ntmps73
    go_wp2_with fail
    refine (implNatOk_same _ a lo hi _ (by omega) hr0).mono ?_
    rintro e w' ⟨rfl, rfl⟩
    rw [okf]
    go_wp2
    go_ret
    exact ⟨ret_str HV.out.symm, Below.refl _ _⟩
end Go.Proofs.YtbpfabicampdkaaDoor

namespace Go.Proofs.YtbpfabicampdkaaDoor
open Go.RowKit

theorem extract_listD (s : ByteArray) (a b : Nat) : (s.extract a b).data.toList = (s.data.toList.take b).drop a := by
  simp [ByteArray.data_extract, List.drop_take]
end Go.Proofs.YtbpfabicampdkaaDoor

namespace Go.Proofs.YtbpfabicampdkaaDoor
open Go.RowKit

/-- the limbs that are read are those of the value -/
theorem read_limbs (s : ByteArray) (hd : DigL s.data.toList) : trimL (groups s.data.toList s.size) = limbs (valL s.data.toList).toNat := by
  have hv := groups_val s.data.toList hd s.size (Nat.le_refl _)
  rw [take_full] at hv
  rw [← hv.1, trim_limbs _ hv.2.1]
theorem read_len (s : ByteArray) (hd : DigL s.data.toList) (h : s.size ≤ 450) : (limbs (valL s.data.toList).toNat).length ≤ 50 := by
  rw [← read_limbs s hd]
  have h1 := trimL_length (groups s.data.toList s.size)
  have h2 := groups_len s.data.toList s.size
  omega
/-- the number is written as it was read where the text is a numeral -/
theorem read_text (s : ByteArray) (hd : digitsB s = true) (h : s.size ≤ 450) : natTextB (limbs (valL s.data.toList).toNat) = s ↔ decOk s = true := by
  obtain ⟨h1, h2⟩ := (digitsB_iff s).1 hd
  have hne : s.data.toList ≠ [] := h2
  have e := natText_limbs _ (read_len s h1 h)
  have hdv := dec_val s.data.toList h1 hne
  have hsz : s.data.toList.length = s.size := rfl
  constructor
  · intro hs
    rw [hs] at e
    have hn := hdv.1 e.symm
    unfold decOk
    rw [hd, decide_eq_true h]
    by_cases hc : 1 < s.size
    · have : ¬ s.data.toList.headD 0 = 48 := fun e2 => hn ⟨by omega, e2⟩
      rw [decide_eq_false this]
      simp
    · rw [decide_eq_false hc]
      simp
  · intro ho
    apply WideShapes.bytes_inj
    rw [e]
    apply hdv.2
    rintro ⟨hc1, hc2⟩
    unfold decOk at ho
    rw [decide_eq_true (show 1 < s.size by omega), decide_eq_true hc2] at ho
    simp at ho
end Go.Proofs.YtbpfabicampdkaaDoor

namespace Go.Proofs.YtbpfabicampdkaaDoor
open Go.RowKit

/-- the text of a signed number -/
def intStrB (x : SI) : ByteArray := if okS x = true then (if x.1 = true then ⟨#[45]⟩ ++ natTextB x.2 else natTextB x.2) else ⟨#[]⟩
/-- the number that a text is read as, and whether it is one -/
def siR (s : ByteArray) : SI := if decOk (bareB s) = true ∧ ¬ (negB s = true ∧ (tnR (bareB s)).length = 0) then (negB s, tnR (bareB s)) else zeroS
def siB (s : ByteArray) : Bool := decide (decOk (bareB s) = true ∧ ¬ (negB s = true ∧ (tnR (bareB s)).length = 0))
theorem tnR_ok {s : ByteArray} (h : decOk s = true) : natOkB (tnR s) = true := by
  have hd : digitsB s = true := by
    by_cases hd : digitsB s = true
    · exact hd
    · rw [decOk_dig s (by simpa using hd)] at h; exact absurd h (by decide)
  have h4 : s.size ≤ 450 := by
    by_cases h4 : s.size ≤ 450
    · exact h4
    · rw [decOk_long s h4] at h; exact absurd h (by decide)
  unfold tnR
  rw [if_pos h]
  exact limbs_okL _ (read_len s ((digitsB_iff s).1 hd).1 h4)
theorem tnR_bad {s : ByteArray} (h : ¬ decOk s = true) : tnR s = [] := by unfold tnR; rw [if_neg h]
theorem bareB_le (s : ByteArray) : (bareB s).size ≤ s.size := by
  cases h : negB s with
  | true => rw [← bareB_tail s h, ByteArray.size_extract]; omega
  | false => rw [bareB_self s h]; exact Nat.le_refl _
/-- a new signed number, and a bool -/
def NewSb (x : SI) (b : Bool) (w : World) (e : Ending) (w' : World) : Prop := ∃ u, e = .returned (.tuple #[.agg #[.bool x.1, u], .bool b]) ∧ w'.ownsRow w.heap.size 3 1 u x.2.length (intsV x.2) ∧ Below w.heap.size w w'
theorem newSb_ret {r : Nat} {u c0 c1 : Value} {x : SI} {b : Bool} {w W : World} {B : Nat} (hb : BoxAt r #[c0, c1] 31 W) (o : W.ownsRow B 3 1 u x.2.length (intsV x.2)) (hB : w.heap.size ≤ B) (hr : w.heap.size ≤ r) (hW : Below w.heap.size w W) :
    NewSb x b w (.returned (.tuple #[.agg #[.bool x.1, u], .bool b])) ((W.setCell ⟨r, 0, none⟩ (.bool x.1)).setCell ⟨r, 1, none⟩ u) := by
  have hne := Lib.ownBlock_ne o hb (by decide)
  refine ⟨u, rfl, own_low (own_stays o fun i hi => ?_) hB, below_set2 hW hr⟩
  have : i ≠ r := fun e => hne (by rw [hi, e])
  exact (Below.heap_setCell _ _ _ _ this).trans (Below.heap_setCell _ _ _ _ this)
theorem newSb_zeroT {b : Bool} {w W : World} (hW : Below w.heap.size w W) : NewSb zeroS b w (.returned (.tuple #[.agg #[.bool false, .slice none 0 0], .bool b])) W := ⟨_, rfl, World.ownsRow_nil _ _ _ _, hW⟩

set_option maxHeartbeats 1000000 in
set_option maxRecDepth 100000 in
theorem implIntStr_any (v : Value) (x : SI) (w : World) (hl : x.2.length ≤ 1048576) (h : RdS w v x) (ht : Tab w) :
    Calls Tryd.prog 71 #[v] w fun e w' => e = .returned (.string (intStrB x)) ∧ Below w.heap.size w w' := by
  obtain ⟨u, rfl, hp⟩ := h
  obtain ⟨A, c, rfl⟩ := row_form hp
  rw [intsV_length] at hp
  rw [intsV_length]
  have hbx : Below w.heap.size w (w.alloc (.cells #[.bool x.1, .slice A x.2.length c] 31)) := below_al (Below.refl _ _) _
  have kb := box_new w #[.bool x.1, .slice A x.2.length c] 31
  have hrd := rdS_below hp hbx
  by_cases okx : okS x = true
  · have HV := Lib.hid (show intStrB x = if x.1 = true then ⟨#[45]⟩ ++ natTextB x.2 else natTextB x.2 by unfold intStrB; rw [if_pos okx])
    have hts := natTextB_size x.2
    go_enter Tryd.func71, Tryd.ntmps71
    go_wp2_with fail
    refine (implIntOk_any _ x _ hl hrd).mono ?_
    rintro e w1 ⟨rfl, b1⟩
    rw [okx]
    have bb1 := Below.next hbx b1
    replace kb := kb.below b1
    have hrow : Row w1 0 w.heap.size (.slice A x.2.length c) (intsV x.2) := hp.below bb1 (Nat.le_refl _)
    have hsz := bb1.size
    have cb0 := kb.here.cell 0 _ rfl
    have cb1 := kb.here.cell 1 _ rfl
    clear hrd okx hp
    cases hn : x.1 with
    | true =>
      rw [hn] at cb0 HV
      clear hn
      go_wp2_with fail
      refine (implNatText_any _ x.2 0 w.heap.size _ hl hsz hrow (ht.below bb1)).mono ?_
      rintro e w2 ⟨rfl, b2⟩
      have bb2 := Below.next bb1 b2
      generalize natTextB x.2 = t at *
      clear hrow
      go_wp2
      go_ret
      exact ⟨ret_str (by rw [HV.out]; rfl), bb2⟩
    | false =>
      rw [hn] at cb0 HV
      clear hn
      go_wp2_with fail
      refine (implNatText_any _ x.2 0 w.heap.size _ hl hsz hrow (ht.below bb1)).mono ?_
      rintro e w2 ⟨rfl, b2⟩
      have bb2 := Below.next bb1 b2
      generalize natTextB x.2 = t at *
      clear hrow
      go_wp2
      go_ret
      exact ⟨ret_str (by rw [HV.out]; rfl), bb2⟩
  · have okx' : okS x = false := by simpa using okx
    have HV := Lib.hid (show intStrB x = ⟨#[]⟩ by unfold intStrB; rw [if_neg okx])
    clear okx
    go_enter Tryd.func71, Tryd.ntmps71
    go_wp2_with fail
    refine (implIntOk_any _ x _ hl hrd).mono ?_
    rintro e w1 ⟨rfl, b1⟩
    rw [okx']
    have bb1 := Below.next hbx b1
    clear kb hrd
    go_wp2
    go_ret
    exact ⟨ret_str HV.out.symm, bb1⟩


end Go.Proofs.YtbpfabicampdkaaDoor

namespace Go.Proofs.YtbpfabicampdkaaDoor
open Go.RowKit

theorem cmpI_self (X : Int) : cmpI X X = 0 := by unfold cmpI; rw [if_neg (by omega), if_neg (by omega)]
theorem cmpI_turn (X Y : Int) : cmpI X Y = -cmpI Y X := by unfold cmpI; split <;> split <;> (try split) <;> (try split) <;> omega
end Go.Proofs.YtbpfabicampdkaaDoor

namespace Go.Proofs.YtbpfabicampdkaaDoor
open Go.RowKit

theorem cmpI_range (X Y : Int) : -1 ≤ cmpI X Y ∧ cmpI X Y ≤ 1 := by unfold cmpI; split <;> (try split) <;> omega
theorem text_backI {X : Nat} (hx : (X : Int) < bp 5) : decOk (natTextB (limbs X)) = true ∧ tnR (natTextB (limbs X)) = limbs X ∧ digitsB (natTextB (limbs X)) = true := by
  have h5 : (limbs X).length ≤ 5 := limbs_length_le X 5 hx
  have e : (natTextB (limbs X)).data.toList = Lib.decDigits X := natText_limbs X (by omega)
  have hd := dig_dec X
  have hdig : digitsB (natTextB (limbs X)) = true := by rw [digitsB_iff, e]; exact hd
  have hsz : (natTextB (limbs X)).size ≤ 450 := by
    have h1 : natTextB (limbs X) = natT (limbs X) := by unfold natTextB; rw [if_pos (limbs_okL X (by omega))]
    rw [h1]
    have := natT_size (limbs X) (limbs_digN X)
    omega
  have hok : decOk (natTextB (limbs X)) = true := by
    rw [← read_text _ hdig hsz, e, valL_dec, Int.toNat_natCast]
  refine ⟨hok, ?_, hdig⟩
  unfold tnR
  rw [if_pos hok, e, valL_dec, Int.toNat_natCast]
theorem neg_of_digits {t : ByteArray} (h : digitsB t = true) : negB t = false := by
  have h2 := (digitsB_iff t).1 h
  unfold negB
  rw [decide_eq_false_iff_not]
  intro e
  cases hl : t.data.toList with
  | nil => exact h2.2 hl
  | cons c r =>
    rw [hl] at e
    have := h2.1 c (by rw [hl]; exact List.mem_cons_self ..)
    simp at e
    subst e
    revert this
    decide
theorem minus_bare (t : ByteArray) : negB (⟨#[45]⟩ ++ t) = true ∧ bareB (⟨#[45]⟩ ++ t) = t := by
  have e : ((⟨#[45]⟩ : ByteArray) ++ t).data.toList = 45 :: t.data.toList := by simp
  constructor
  · unfold negB; rw [e]; rfl
  · apply WideShapes.bytes_inj
    rw [bareB_data, e]
    rfl
/-- a short right number is read back from its text -/
theorem str_back {x : SI} (h : okS x = true) (hl : x.2.length ≤ 4) : siR (intStrB x) = x ∧ siB (intStrB x) = true := by
  have hp := okS_parts h
  have hx := natOk_limbs hp.1
  have h1 := nval_lt x.2 (natOk_parts hp.1).1
  have h0 := nval_ok hp.1
  have h2 := bp_mono (show x.2.length ≤ 5 by omega)
  have ht := text_backI (X := (nval x.2).toNat) (by omega)
  rw [← hx] at ht
  have hc : ¬ (x.1 = true ∧ x.2.length = 0) := fun hh => by have := hp.2 hh.1; omega
  have both : negB (intStrB x) = x.1 ∧ bareB (intStrB x) = natTextB x.2 := by
    unfold intStrB
    rw [if_pos h]
    cases hn : x.1 with
    | true => rw [if_pos rfl]; exact minus_bare _
    | false => rw [if_neg (by decide)]; exact ⟨neg_of_digits ht.2.2, bareB_self _ (neg_of_digits ht.2.2)⟩
  unfold siR siB
  rw [both.1, both.2, ht.2.1, if_pos ⟨ht.1, hc⟩]
  exact ⟨rfl, decide_eq_true ⟨ht.1, hc⟩⟩
end Go.Proofs.YtbpfabicampdkaaDoor

namespace Go.Proofs.YtbpfabicampdkaaDoor
open Go.RowKit

/-- a point ahead of the last k digits -/
def pointB (s : ByteArray) (k : Int) : ByteArray := if 0 < k then s.extract 0 (s.size - k.toNat) ++ ⟨#[46]⟩ ++ s.extract (s.size - k.toNat) s.size else s
/-- the digits, at least one ahead of the point -/
def bodyD (d : DI) : ByteArray := padB (natTextB d.1.2) (d.2 + 1)
/-- DecText -/
def textD (d : DI) : ByteArray := if okD d = true then (if d.1.1 = true then (⟨#[45]⟩ : ByteArray) ++ pointB (bodyD d) d.2 else pointB (bodyD d) d.2) else ⟨#[]⟩
/-- the bytes that are neither a point nor a minus -/
def rawL (l : List UInt8) : List UInt8 := l.filter fun c => c != 46 && c != 45
/-- how many bytes stand behind the last point -/
def scaleF (l : List UInt8) : Nat → Int
  | 0 => 0
  | k + 1 => if l.getD k 0 = 46 then (l.length : Int) - 1 - k else scaleF l k
/-- noughts ahead are left out, as long as a digit stays -/
def stripL : List UInt8 → List UInt8
  | c :: e :: r => if c = 48 then stripL (e :: r) else c :: e :: r
  | l => l
def rawB (s : ByteArray) : ByteArray := ⟨(stripL (rawL s.data.toList)).toArray⟩
def scaleB (s : ByteArray) : Int := scaleF s.data.toList s.size
/-- what a text is read as -/
def parseD (s : ByteArray) : DI := ((decide (s.data.toList.headD 0 = 45), tnR (rawB s)), scaleB s)
def readD (s : ByteArray) : Bool := decOk (rawB s) && (okD (parseD s) && decide (textD (parseD s) = s))
/-- TextDec -/
def trD (s : ByteArray) : DI × Bool := if readD s = true then (parseD s, true) else (zeroD, false)

theorem listB {s t : ByteArray} (h : s.data.toList = t.data.toList) : s = t := by
  cases s with
  | mk a => cases t with
    | mk b => exact congrArg ByteArray.mk (Array.toList_inj.1 h)
theorem listB_len (s : ByteArray) : s.data.toList.length = s.size := rfl
theorem pad_list (s : ByteArray) (n : Int) : (padB s n).data.toList = List.replicate (n.toNat - s.size) 48 ++ s.data.toList := rfl
theorem point_list (s : ByteArray) (k : Int) : (pointB s k).data.toList = if 0 < k then s.data.toList.take (s.size - k.toNat) ++ 46 :: s.data.toList.drop (s.size - k.toNat) else s.data.toList := by
  unfold pointB
  split
  · rw [ByteArray.data_append, ByteArray.data_append, Array.toList_append, Array.toList_append, extract_listD, extract_listD, List.drop_zero, List.take_of_length_le (Nat.le_of_eq (listB_len s))]
    show s.data.toList.take _ ++ [46] ++ _ = _
    rw [List.append_assoc]
    rfl
  · rfl
/-- the digits of a right number -/
structure BodyD (d : DI) (n m : Nat) : Prop where
  mag : d.1.2 = limbs n
  digits : (natTextB d.1.2).data.toList = Lib.decDigits n
  list : (bodyD d).data.toList = List.replicate m 48 ++ Lib.decDigits n
  dig : DigL (bodyD d).data.toList
  long : d.2.toNat < (bodyD d).size
  size : (bodyD d).size ≤ 100
  short : (natTextB d.1.2).size ≤ 61
theorem body_of {d : DI} (h : okD d = true) : ∃ n m, BodyD d n m := by
  have p := partsD h
  have hp := okS_parts p.ok
  have e : d.1.2 = limbs (nval d.1.2).toNat := natOk_limbs hp.1
  have hl := p.len
  have ed : (natTextB d.1.2).data.toList = Lib.decDigits (nval d.1.2).toNat := by
    rw [e, limbs_val, Int.toNat_natCast]
    exact natText_limbs _ (by rw [← e]; omega)
  have hs : (natTextB d.1.2).size ≤ 61 := by
    unfold natTextB
    rw [if_pos hp.1]
    have := natT_size d.1.2 (natOk_parts hp.1).1
    omega
  have hlist : (bodyD d).data.toList = List.replicate ((d.2 + 1).toNat - (natTextB d.1.2).size) 48 ++ Lib.decDigits (nval d.1.2).toNat := by
    unfold bodyD
    rw [pad_list, ed]
  have hsz : (bodyD d).size = (d.2 + 1).toNat - (natTextB d.1.2).size + (natTextB d.1.2).size := by
    unfold bodyD
    rw [← listB_len, pad_list, List.length_append, List.length_replicate, listB_len]
  have hlo := p.lo
  have hhi := p.hi
  refine ⟨(nval d.1.2).toNat, _, e, ed, hlist, ?_, by omega, by omega, hs⟩
  rw [hlist]
  intro c hc
  rcases List.mem_append.1 hc with hc | hc
  · rw [(List.mem_replicate.1 hc).2]; decide
  · exact (dig_dec _).1 c hc
theorem raw_dig {l : List UInt8} (h : DigL l) : rawL l = l := by
  refine List.filter_eq_self.2 fun c hc => ?_
  have := h c hc
  rw [Bool.and_eq_true, bne_iff_ne, bne_iff_ne]
  refine ⟨fun e => ?_, fun e => ?_⟩
  · subst e; exact absurd this.1 (by decide)
  · subst e; exact absurd this.1 (by decide)
theorem raw_app (a b : List UInt8) : rawL (a ++ b) = rawL a ++ rawL b := List.filter_append ..
theorem dig_take {l : List UInt8} (h : DigL l) (k : Nat) : DigL (l.take k) := fun c hc => h c (List.mem_of_mem_take hc)
theorem dig_drop {l : List UInt8} (h : DigL l) (k : Nat) : DigL (l.drop k) := fun c hc => h c (List.mem_of_mem_drop hc)
theorem raw_point {l : List UInt8} (h : DigL l) (k : Nat) : rawL (l.take k ++ 46 :: l.drop k) = l := by
  rw [raw_app, raw_dig (dig_take h k), show (46 :: l.drop k : List UInt8) = [46] ++ l.drop k from rfl, raw_app, raw_dig (dig_drop h k)]
  show l.take k ++ ([] ++ l.drop k) = l
  rw [List.nil_append, List.take_append_drop]
theorem strip_dec (n : Nat) : stripL (Lib.decDigits n) = Lib.decDigits n := by
  by_cases h : n < 10
  · rw [dec_small n h]; rfl
  · have hh := dec_head n (by omega)
    have hne := (dig_dec n).2
    cases hl : Lib.decDigits n with
    | nil => exact absurd hl hne
    | cons c r =>
      rw [hl] at hh
      cases r with
      | nil => rfl
      | cons e r =>
        have : ¬ c = 48 := hh
        show (if c = 48 then _ else _) = _
        rw [if_neg this]
theorem strip_zero (l : List UInt8) (h : l ≠ []) : stripL (48 :: l) = stripL l := by
  cases l with
  | nil => exact absurd rfl h
  | cons c r => rfl
theorem strip_pad (n m : Nat) : stripL (List.replicate m 48 ++ Lib.decDigits n) = Lib.decDigits n := by
  induction m with
  | zero => exact strip_dec n
  | succ m ih =>
    rw [List.replicate_succ, List.cons_append, strip_zero _ (fun e => (dig_dec n).2 (List.append_eq_nil_iff.1 e).2)]
    exact ih
theorem scale_dig {l : List UInt8} {a b : Nat} (hab : a ≤ b) (h : ∀ k, a ≤ k → k < b → l.getD k 0 ≠ 46) : scaleF l b = scaleF l a := by
  induction b with
  | zero => rw [show a = 0 by omega]
  | succ b ih =>
    rcases Nat.eq_or_lt_of_le hab with e | hlt
    · rw [e]
    · show (if l.getD b 0 = 46 then _ else _) = _
      rw [if_neg (h b (by omega) (by omega))]
      exact ih (by omega) (fun k h1 h2 => h k h1 (by omega))
theorem scale_hit {l : List UInt8} {k : Nat} (h : l.getD k 0 = 46) : scaleF l (k + 1) = (l.length : Int) - 1 - k := if_pos h
theorem getD_of {l : List UInt8} {k : Nat} {c : UInt8} (h : l[k]? = some c) : l.getD k 0 = c := by
  rw [List.getD_eq_getElem?_getD, h]; rfl
theorem getD_mem {l : List UInt8} {k : Nat} (h : k < l.length) : l.getD k 0 ∈ l := by
  rw [List.getD_eq_getElem?_getD, List.getElem?_eq_getElem h]; exact List.getElem_mem h
/-- in digits with a minus ahead, or none, no point stands -/
theorem scale_none {l : List UInt8} (h : ∀ c ∈ l, c ≠ 46) : scaleF l l.length = 0 :=
  scale_dig (a := 0) (Nat.zero_le _) (fun _ _ h2 => h _ (getD_mem h2))
theorem scale_one {a b : List UInt8} (h : ∀ c ∈ b, c ≠ 46) : scaleF (a ++ 46 :: b) (a ++ 46 :: b).length = b.length := by
  have hlen : (a ++ 46 :: b).length = a.length + 1 + b.length := by rw [List.length_append, List.length_cons]; omega
  have hit : (a ++ 46 :: b).getD a.length 0 = 46 := getD_of (by rw [List.getElem?_append_right (Nat.le_refl _), Nat.sub_self]; rfl)
  rw [scale_dig (a := a.length + 1) (by omega) (fun k h1 h2 => ?_), scale_hit hit, hlen]
  · omega
  · have hk : (a ++ 46 :: b).getD k 0 = b.getD (k - a.length - 1) 0 := by
      rw [List.getD_eq_getElem?_getD, List.getD_eq_getElem?_getD, List.getElem?_append_right (by omega), show k - a.length = (k - a.length - 1) + 1 by omega, List.getElem?_cons_succ]
      congr 2
    rw [hk]
    exact h _ (getD_mem (by omega))
theorem dig_no {l : List UInt8} (h : DigL l) : ∀ c ∈ l, c ≠ 46 := fun c hc e => by
  subst e
  exact absurd (h _ hc).1 (by decide)
theorem dig_no' {l : List UInt8} (h : DigL l) : ∀ c ∈ l, c ≠ 45 := fun c hc e => by
  subst e
  exact absurd (h _ hc).1 (by decide)
/-- the text of a right number as a list -/
theorem text_list {d : DI} (h : okD d = true) : (textD d).data.toList = (if d.1.1 = true then [45] else []) ++ (if 0 < d.2 then (bodyD d).data.toList.take ((bodyD d).size - d.2.toNat) ++ 46 :: (bodyD d).data.toList.drop ((bodyD d).size - d.2.toNat) else (bodyD d).data.toList) := by
  unfold textD
  rw [if_pos h]
  have e := point_list (bodyD d) d.2
  split
  · rw [ByteArray.data_append, Array.toList_append, e]
  · rw [e]; rfl
theorem text_size {d : DI} (h : okD d = true) : (textD d).size ≤ 102 := by
  obtain ⟨n, m, b⟩ := body_of h
  have e := text_list h
  have := b.size
  rw [← listB_len, e, List.length_append]
  have h1 : (if d.1.1 = true then [45] else ([] : List UInt8)).length ≤ 1 := by split <;> decide
  have h2 : (if 0 < d.2 then (bodyD d).data.toList.take ((bodyD d).size - d.2.toNat) ++ 46 :: (bodyD d).data.toList.drop ((bodyD d).size - d.2.toNat) else (bodyD d).data.toList).length ≤ 101 := by
    split
    · rw [List.length_append, List.length_cons, List.length_take, List.length_drop, listB_len]; omega
    · rw [listB_len]; omega
  omega
theorem textD_size (d : DI) : (textD d).size ≤ 102 := by
  by_cases h : okD d = true
  · exact text_size h
  · unfold textD
    rw [if_neg h]
    decide
/-- what is read out of a written number -/
theorem parse_text {d : DI} (h : okD d = true) : parseD (textD d) = d ∧ decOk (rawB (textD d)) = true := by
  obtain ⟨n, m, b⟩ := body_of h
  have p := partsD h
  have hp := okS_parts p.ok
  have hlo := p.lo
  have e := text_list h
  have hdig := b.dig
  have hlong := b.long
  have hraw : rawL (textD d).data.toList = (bodyD d).data.toList := by
    rw [e, raw_app]
    have h1 : rawL (if d.1.1 = true then [45] else []) = [] := by split <;> rfl
    rw [h1, List.nil_append]
    split
    · exact raw_point hdig _
    · exact raw_dig hdig
  have hst : (rawB (textD d)).data.toList = Lib.decDigits n := by
    show stripL (rawL (textD d).data.toList) = _
    rw [hraw, b.list]
    exact strip_pad n m
  have hnt : rawB (textD d) = natTextB d.1.2 := listB (by rw [hst, b.digits])
  have hdd : digitsB (rawB (textD d)) = true := by rw [digitsB_iff, hst]; exact dig_dec n
  have hsz : (rawB (textD d)).size ≤ 450 := by rw [hnt]; have := b.short; omega
  have hok : decOk (rawB (textD d)) = true := by
    rw [← read_text _ hdd hsz, hst, valL_dec, Int.toNat_natCast, hnt, b.mag]
  have hval : tnR (rawB (textD d)) = d.1.2 := by
    unfold tnR
    rw [if_pos hok, hst, valL_dec, Int.toNat_natCast]
    exact b.mag.symm
  have hscale : scaleB (textD d) = d.2 := by
    unfold scaleB
    rw [← listB_len, e]
    by_cases h0 : 0 < d.2
    · rw [if_pos h0, ← List.append_assoc, scale_one (dig_no (dig_drop hdig _)), List.length_drop, listB_len]
      omega
    · rw [if_neg h0, scale_none (fun c hc => ?_)]
      · omega
      · rcases List.mem_append.1 hc with hc | hc
        · split at hc
          · rw [List.mem_singleton.1 hc]; decide
          · cases hc
        · exact dig_no hdig c hc
  have hneg : decide ((textD d).data.toList.headD 0 = 45) = d.1.1 := by
    rw [e]
    cases hs : d.1.1 with
    | true => rfl
    | false =>
      rw [decide_eq_false_iff_not]
      show ¬ ([] ++ _ : List UInt8).headD 0 = 45
      rw [List.nil_append]
      intro h45
      have hne : (bodyD d).data.toList ≠ [] := fun e0 => by
        have h5 := listB_len (bodyD d)
        rw [e0] at h5
        simp at h5
        omega
      have hfirst : ∀ l : List UInt8, DigL l → l ≠ [] → ¬ l.headD 0 = 45 := fun l hl hn h4 => by
        cases l with
        | nil => exact hn rfl
        | cons c r => exact dig_no' hl c (List.mem_cons_self ..) h4
      split at h45
      · have hk : (bodyD d).data.toList.take ((bodyD d).size - d.2.toNat) ≠ [] := fun e0 => by
          have h5 := congrArg List.length e0
          rw [List.length_take, listB_len] at h5
          simp at h5
          omega
        cases ht : (bodyD d).data.toList.take ((bodyD d).size - d.2.toNat) with
        | nil => exact hk ht
        | cons c r =>
          rw [ht] at h45
          exact hfirst _ (dig_take hdig _) hk (by rw [ht]; exact h45)
      · exact hfirst _ hdig hne h45
  refine ⟨?_, hok⟩
  unfold parseD
  rw [hneg, hval, hscale]
/-- TextDec answers the number whose text it is -/
theorem trD_text {d : DI} (h : okD d = true) : trD (textD d) = (d, true) := by
  have p := parse_text h
  unfold trD readD
  rw [p.2, p.1, h, decide_eq_true rfl]
  rfl
theorem trD_yes {s : ByteArray} (h : (trD s).2 = true) : okD (trD s).1 = true ∧ textD (trD s).1 = s := by
  unfold trD at h ⊢
  split at h
  · rename_i hr
    rw [if_pos hr]
    unfold readD at hr
    rw [Bool.and_eq_true, Bool.and_eq_true, decide_eq_true_eq] at hr
    exact hr.2
  · exact absurd h (by decide)
theorem trD_iff (s : ByteArray) (d : DI) : trD s = (d, true) ↔ okD d = true ∧ textD d = s := by
  constructor
  · intro h
    have := trD_yes (s := s) (by rw [h])
    rw [h] at this
    exact this
  · intro ⟨h1, h2⟩
    rw [← h2]
    exact trD_text h1
theorem trD_no {s : ByteArray} (h : ∀ d, okD d = true → ¬ textD d = s) : trD s = (zeroD, false) := by
  unfold trD
  rw [if_neg]
  intro hr
  have : (trD s).2 = true := by unfold trD; rw [if_pos hr]
  have y := trD_yes this
  exact h _ y.1 y.2
theorem trD_sz (s : ByteArray) : szD (trD s).1 ≤ 1048576 := by
  by_cases h : (trD s).2 = true
  · have := (partsD (trD_yes h).1).len
    unfold szD szS szI
    omega
  · unfold trD at h ⊢
    split at h
    · exact absurd rfl h
    · rename_i hr
      rw [if_neg hr]
      exact zeroD_sz
end Go.Proofs.YtbpfabicampdkaaDoor

namespace Go.Proofs.YtbpfabicampdkaaDoor
open Go.RowKit

def pointAt (s : ByteArray) : Int := Lib.indexByte s.data.toList 46
/-- what stands ahead of the first point, and behind it -/
def preB (s : ByteArray) : ByteArray := if pointAt s < 0 then s else s.extract 0 (pointAt s).toNat
def postB (s : ByteArray) : ByteArray := if pointAt s < 0 then ⟨#[]⟩ else s.extract ((pointAt s).toNat + 1) s.size
def magB (s : ByteArray) : ByteArray := ⟨(Lib.trimLeftB (preB s ++ postB s).data.toList 48).toArray⟩
/-- the number that package impl reads -/
def parseI (s : ByteArray) : DI := ((negB s, tnR (magB (bareB s))), ((postB (bareB s)).size : Int))
theorem index_hitP (a b : List UInt8) (h : ∀ c ∈ a, c ≠ 46) : Lib.indexByte (a ++ 46 :: b) 46 = a.length := by
  have hg := Lib.indexByte_ge (a ++ 46 :: b) 46
  have hat : (a ++ 46 :: b)[a.length]? = some 46 := by rw [List.getElem?_append_right (Nat.le_refl _), Nat.sub_self]; rfl
  by_cases e : Lib.indexByte (a ++ 46 :: b) 46 = -1
  · exact absurd hat (Lib.indexByte_none e _)
  · have ho : Lib.indexByte (a ++ 46 :: b) 46 = ((Lib.indexByte (a ++ 46 :: b) 46).toNat : Nat) := by omega
    obtain ⟨h1, h2⟩ := Lib.indexByte_some ho
    generalize (Lib.indexByte (a ++ 46 :: b) 46).toNat = o at *
    rcases Nat.lt_trichotomy o a.length with hl | hl | hl
    · rw [List.getElem?_append_left hl] at h1
      exact absurd rfl (h 46 (List.mem_of_getElem? h1))
    · rw [ho, hl]
    · exact absurd hat (h2 _ hl)
theorem index_noneP (a : List UInt8) (h : ∀ c ∈ a, c ≠ 46) : Lib.indexByte a 46 = -1 := by
  have hg := Lib.indexByte_ge a 46
  by_cases e : Lib.indexByte a 46 = -1
  · exact e
  · have ho : Lib.indexByte a 46 = ((Lib.indexByte a 46).toNat : Nat) := by omega
    obtain ⟨h1, _⟩ := Lib.indexByte_some ho
    exact absurd rfl (h 46 (List.mem_of_getElem? h1))
theorem chr_eqT {k : Nat} (h : k < 10) : (UInt8.ofNat (48 + k) = 48) ↔ k = 0 := by
  constructor
  · intro e
    have e2 := congrArg UInt8.toNat e
    rw [UInt8.toNat_ofNat'] at e2
    have : (48 : UInt8).toNat = 48 := rfl
    omega
  · rintro rfl; rfl
theorem parts_some (s : ByteArray) (a b : List UInt8) (hs : s.data.toList = a ++ 46 :: b) (h : ∀ c ∈ a, c ≠ 46) : (preB s).data.toList = a ∧ (postB s).data.toList = b := by
  have hp : pointAt s = a.length := by unfold pointAt; rw [hs]; exact index_hitP a b h
  have hn : ¬ pointAt s < 0 := by omega
  unfold preB postB
  rw [if_neg hn, if_neg hn, hp, Int.toNat_natCast, extract_listD, extract_listD, List.drop_zero, hs]
  refine ⟨List.take_left .., ?_⟩
  have hsz : s.size = (a ++ 46 :: b).length := by rw [← listB_len, hs]
  rw [hsz, List.take_length]
  have : (a ++ 46 :: b).drop (a.length + 1) = b := by
    rw [List.drop_append, List.drop_of_length_le (by omega), show a.length + 1 - a.length = 1 by omega]
    rfl
  exact this
theorem parts_none (s : ByteArray) (h : ∀ c ∈ s.data.toList, c ≠ 46) : preB s = s ∧ postB s = ⟨#[]⟩ := by
  have hp : pointAt s = -1 := index_noneP _ h
  unfold preB postB
  rw [if_pos (by omega), if_pos (by omega)]
  exact ⟨rfl, rfl⟩
theorem bare_text {d : DI} (h : okD d = true) : negB (textD d) = d.1.1 ∧ (bareB (textD d)).data.toList = if 0 < d.2 then (bodyD d).data.toList.take ((bodyD d).size - d.2.toNat) ++ 46 :: (bodyD d).data.toList.drop ((bodyD d).size - d.2.toNat) else (bodyD d).data.toList := by
  have hp := (parse_text h).1
  have hn : negB (textD d) = d.1.1 := congrArg (fun x : DI => x.1.1) hp
  have e := text_list h
  refine ⟨hn, ?_⟩
  cases hs : d.1.1 with
  | true =>
    rw [hs] at e hn
    rw [if_pos rfl] at e
    rw [bareB_data, e]
    rfl
  | false =>
    rw [hs] at e hn
    rw [if_neg (by decide), List.nil_append] at e
    rw [bareB_self _ hn, e]
theorem trim_pad (n m : Nat) : Lib.trimLeftB (List.replicate m 48 ++ Lib.decDigits n) 48 = if n = 0 then [] else Lib.decDigits n := by
  unfold Lib.trimLeftB
  induction m with
  | zero =>
    rw [List.replicate_zero, List.nil_append]
    by_cases h0 : n = 0
    · subst h0
      rw [if_pos rfl, dec_small 0 (by omega)]
      rfl
    · rw [if_neg h0]
      have hh : ∃ c r, Lib.decDigits n = c :: r ∧ ¬ c = 48 := by
        by_cases hs : n < 10
        · refine ⟨_, _, dec_small n hs, ?_⟩
          rw [chr_eqT hs]
          exact h0
        · have hd := dec_head n (by omega)
          cases hl : Lib.decDigits n with
          | nil => exact absurd hl (dig_dec n).2
          | cons c r =>
            rw [hl] at hd
            exact ⟨c, r, rfl, hd⟩
      obtain ⟨c, r, e, hc⟩ := hh
      rw [e]
      exact List.dropWhile_cons_of_neg (by simpa using hc)
  | succ m ih =>
    rw [List.replicate_succ, List.cons_append, List.dropWhile_cons_of_pos (by rfl)]
    exact ih
theorem tn_empty : tnR ⟨#[]⟩ = [] := by
  unfold tnR
  rw [if_neg]
  intro h
  rw [decOk_dig ⟨#[]⟩ (by
    by_cases hd : digitsB ⟨#[]⟩ = true
    · exact absurd rfl ((digitsB_iff _).1 hd).2
    · simpa using hd)] at h
  exact absurd h (by decide)
/-- a written number is read back -/
theorem parseI_text {d : DI} (h : okD d = true) : parseI (textD d) = d := by
  obtain ⟨n, m, b⟩ := body_of h
  have p := partsD h
  have hlo := p.lo
  have hb := bare_text h
  have pt := parse_text h
  have hlong := b.long
  have key : (preB (bareB (textD d)) ++ postB (bareB (textD d))).data.toList = (bodyD d).data.toList ∧ ((postB (bareB (textD d))).size : Int) = d.2 := by
    have hl := hb.2
    by_cases h0 : 0 < d.2
    · rw [if_pos h0] at hl
      have q := parts_some _ _ _ hl (dig_no (dig_take b.dig _))
      constructor
      · rw [ByteArray.data_append, Array.toList_append, q.1, q.2, List.take_append_drop]
      · rw [← listB_len, q.2, List.length_drop, listB_len]
        omega
    · rw [if_neg h0] at hl
      have q := parts_none (bareB (textD d)) (by rw [hl]; exact dig_no b.dig)
      constructor
      · rw [ByteArray.data_append, Array.toList_append, q.1, q.2, hl]
        exact List.append_nil _
      · rw [q.2]
        show (0 : Int) = _
        omega
  have hmag : tnR (magB (bareB (textD d))) = d.1.2 := by
    have hl : (magB (bareB (textD d))).data.toList = if n = 0 then [] else Lib.decDigits n := by
      show Lib.trimLeftB _ 48 = _
      rw [key.1, b.list, trim_pad]
    by_cases hn : n = 0
    · rw [if_pos hn] at hl
      have e : magB (bareB (textD d)) = ⟨#[]⟩ := listB (by rw [hl])
      rw [e, tn_empty, b.mag, hn, limbs_zero]
    · rw [if_neg hn] at hl
      have hr : magB (bareB (textD d)) = rawB (textD d) := listB (by
        rw [hl]
        show _ = stripL (rawL (textD d).data.toList)
        have hraw : rawL (textD d).data.toList = (bodyD d).data.toList := by
          rw [text_list h, raw_app]
          have h1 : rawL (if d.1.1 = true then [45] else []) = [] := by split <;> rfl
          rw [h1, List.nil_append]
          split
          · exact raw_point b.dig _
          · exact raw_dig b.dig
        rw [hraw, b.list]
        exact (strip_pad n m).symm)
      rw [hr]
      exact congrArg (fun x : DI => x.1.2) pt.1
  unfold parseI
  rw [hb.1, hmag, key.2]
theorem parseI_empty : parseI ⟨#[]⟩ = zeroD := by
  have hn : negB ⟨#[]⟩ = false := negB_nil _ (by decide)
  have hb : bareB ⟨#[]⟩ = ⟨#[]⟩ := bareB_self _ hn
  have q := parts_none ⟨#[]⟩ (fun c hc => by cases hc)
  unfold parseI
  rw [hn, hb, q.2]
  have e : magB ⟨#[]⟩ = ⟨#[]⟩ := by unfold magB; rw [q.1, q.2]; rfl
  rw [e, tn_empty]
  rfl
/-- TextDec as package impl reckons it -/
theorem trD_impl (s : ByteArray) : (if textD (parseI s) = s then (parseI s, true) else (zeroD, false)) = trD s := by
  by_cases hx : textD (parseI s) = s
  · rw [if_pos hx]
    by_cases ok : okD (parseI s) = true
    · have := trD_text ok
      rw [hx] at this
      exact this.symm
    · exfalso
      have e : textD (parseI s) = ⟨#[]⟩ := by unfold textD; rw [if_neg ok]
      rw [e] at hx
      rw [← hx, parseI_empty] at ok
      exact ok (by decide)
  · rw [if_neg hx]
    refine (trD_no fun d hd he => hx ?_).symm
    rw [← he, parseI_text hd]
end Go.Proofs.YtbpfabicampdkaaDoor

namespace Go.Proofs.YtbpfabicampdkaaDoor
open Go.RowKit

theorem known_sizeE {s : ByteArray} (hk : knownC s = true) : s.size ≤ 3 := by
  obtain ⟨r, hr, e, _⟩ := known_row hk
  rw [← e]
  have h : (specT.all fun r => decide (r.1.size ≤ 3)) = true := by decide +kernel
  exact of_decide_eq_true (List.all_eq_true.1 h r hr)
def textE (r : EI) : ByteArray := if okE r = true then r.1 ++ ⟨#[32]⟩ ++ r.2.1 ++ ⟨#[32]⟩ ++ textD r.2.2 else ⟨#[]⟩
theorem textE_yes {r : EI} (h : okE r = true) : textE r = r.1 ++ ⟨#[32]⟩ ++ r.2.1 ++ ⟨#[32]⟩ ++ textD r.2.2 := by unfold textE; rw [if_pos h]
theorem textE_no {r : EI} (h : ¬ okE r = true) : textE r = ⟨#[]⟩ := by unfold textE; rw [if_neg h]
theorem textE_sizes {r : EI} (h : okE r = true) : r.1.size ≤ 3 ∧ r.2.1.size ≤ 3 ∧ (textD r.2.2).size ≤ 102 :=
  ⟨known_sizeE (okE_parts h).1, known_sizeE (okE_parts h).2.1, textD_size _⟩
theorem textE_size (r : EI) : (textE r).size ≤ 110 := by
  by_cases h : okE r = true
  · have h1 := textE_sizes h
    rw [textE_yes h, ByteArray.size_append, ByteArray.size_append, ByteArray.size_append, ByteArray.size_append]
    show r.1.size + 1 + r.2.1.size + 1 + _ ≤ 110
    omega
  · rw [textE_no h]; decide
end Go.Proofs.YtbpfabicampdkaaDoor

namespace Go.Proofs.YtbpfabicampdkaaDoor
open Go.RowKit

theorem okT_mem' {t : TI} (h : okT t = true) {x : EI} (hx : x ∈ t.2) : okE x = true := by
  rw [okT_pairs, Bool.and_eq_true, Bool.and_eq_true, Bool.and_eq_true] at h
  exact List.all_eq_true.1 h.2.2.1 x hx
theorem szEL_bound {l : List EI} {m : Int} (h : ∀ x ∈ l, szE x ≤ m) : szEL l ≤ l.length * m := by
  induction l with
  | nil => show (0 : Int) ≤ (0 : Nat) * m; omega
  | cons x l ih =>
    have h1 := h x (List.mem_cons_self ..)
    have h2 := ih fun y hy => h y (List.mem_cons_of_mem _ hy)
    show szE x + szEL l ≤ ((l.length + 1 : Nat) : Int) * m
    rw [show (((l.length + 1 : Nat) : Int)) = (l.length : Int) + 1 by omega, Int.add_mul]
    omega
/-- a right table is small -/
theorem okT_small {t : TI} (h : okT t = true) : szT t ≤ 1000 := by
  have hm : ∀ x ∈ t.2, szE x ≤ 20 := fun x hx => by
    have hp := okE_parts (okT_mem' h hx)
    have h1 := known_sizeE hp.1
    have h2 := known_sizeE hp.2.1
    have h3 := hp.2.2.2.2.2
    unfold szE szD szS szI
    omega
  have hb := szEL_bound hm
  rw [okT_pairs, Bool.and_eq_true, Bool.and_eq_true, decide_eq_true_eq] at h
  have h1 := known_sizeE h.1
  have h2 := h.2.1
  unfold szT
  omega
/-- the table that a rate is put into -/
def newT (t : TI) (r : EI) : TI := if posE t.2 r.1 r.2.1 < 0 then (t.1, t.2 ++ [r]) else (t.1, t.2.set (posE t.2 r.1 r.2.1).toNat r)
theorem putT_bad {t : TI} {r : EI} (h : ¬ okT t = true) : putT t r = (zeroT, false) := by
  unfold putT
  rw [if_neg (fun hh => h hh.1)]
  rfl
theorem posE_lt (l : List EI) (a b : ByteArray) : posE l a b < l.length := by
  unfold posE
  split <;> omega
theorem newT_mem (t : TI) (r : EI) : r ∈ (newT t r).2 := by
  unfold newT
  split
  · exact List.mem_append_right _ (List.mem_singleton.2 rfl)
  · rename_i h
    have hl := posE_lt t.2 r.1 r.2.1
    refine List.mem_of_getElem? (i := (posE t.2 r.1 r.2.1).toNat) ?_
    exact List.getElem?_set_self (by omega)
theorem newT_all {t : TI} {r : EI} {p : EI → Prop} (h : ∀ x ∈ t.2, p x) (hr : p r) : ∀ x ∈ (newT t r).2, p x := by
  intro x hx
  unfold newT at hx
  split at hx
  · rcases List.mem_append.1 hx with hx | hx
    · exact h x hx
    · rw [List.mem_singleton.1 hx]; exact hr
  · rcases List.mem_or_eq_of_mem_set hx with hx | hx
    · exact h x hx
    · rw [hx]; exact hr
theorem newT_len (t : TI) (r : EI) : (newT t r).2.length ≤ t.2.length + 1 := by
  unfold newT
  split
  · exact Nat.le_of_eq (List.length_append ..)
  · show (t.2.set _ r).length ≤ _
    rw [List.length_set]
    omega
theorem putT_good {t : TI} {r : EI} (h : okT t = true) : putT t r = if okT (newT t r) = true then (newT t r, true) else (zeroT, false) := by
  unfold putT
  by_cases hr : okE r = true
  · rw [if_pos ⟨h, hr⟩]
    rfl
  · rw [if_neg (fun hh => hr hh.2), if_neg (fun hn => hr (okT_mem' hn (newT_mem t r)))]
    rfl
theorem newT_app {t : TI} {r : EI} (h : posE t.2 r.1 r.2.1 < 0) : newT t r = (t.1, t.2 ++ [r]) := by unfold newT; rw [if_pos h]
theorem newT_set {t : TI} {r : EI} {n : Nat} (h : posE t.2 r.1 r.2.1 = n) : newT t r = (t.1, t.2.set n r) := by unfold newT; rw [if_neg (by omega), h, Int.toNat_natCast]
theorem putT_sz (t : TI) (r : EI) : szT (putT t r).1 ≤ 1048576 := by
  by_cases ho : okT t = true
  · rw [putT_good ho]
    split
    · rename_i hn
      have hk := okT_small hn
      exact Int.le_trans hk (by decide)
    · decide
  · rw [putT_bad ho]; decide
end Go.Proofs.YtbpfabicampdkaaDoor

namespace Go.Proofs.YtbpfabicampdkaaDoor
open Go.RowKit

theorem own_types {w : World} {b1 b2 s1 s2 n m b : Nat} {T1 T2 : TypeId} {v u : Value} {xs ys : List Value} (h1 : w.ownsRow b1 T1 s1 v n xs) (h2 : w.ownsRow b2 T2 s2 u m ys) (hT : ¬ T1 = T2) (e1 : v.ownBlock = some b) (e2 : u.ownBlock = some b) : False := by
  obtain ⟨_, ⟨rfl, _⟩ | ⟨g, cap, cur, rfl, _, hh, _⟩⟩ := h1
  · cases e1
  · obtain ⟨_, ⟨rfl, _⟩ | ⟨g', cap', cur', rfl, _, hh', _⟩⟩ := h2
    · cases e2
    · cases e1
      cases e2
      have hh1 : w.heap[g]? = some (.cells cur T1 (0, 0)) := hh
      have hh2 : w.heap[g]? = some (.cells cur' T2 (0, 0)) := hh'
      rw [hh1] at hh2
      injection hh2 with hh2
      injection hh2 with _ e
      exact hT e
/-- as CellE, with where the limbs lie -/
def CellB (B : Nat) (p : CE) (x : EI) (w : World) : Prop := p.1 = x.1 ∧ p.2.1 = x.2.1 ∧ p.2.2.1 = x.2.2.1.1 ∧ p.2.2.2.2 = x.2.2.2 ∧ w.ownsRow B 3 1 p.2.2.2.1 x.2.2.1.2.length (intsV x.2.2.1.2)
/-- a list of the call's own, all of it from B on -/
def RowB (B : Nat) (u : Value) (l : List EI) (W : World) : Prop :=
  ∃ e : List CE, W.ownsRow B 35 5 u l.length (flatE e) ∧ e.length = l.length ∧ (∀ (j : Nat) x p, l[j]? = some x → e[j]? = some p → CellB B p x W) ∧ ∀ (i j : Nat) p q b, e[i]? = some p → e[j]? = some q → p.2.2.2.1.ownBlock = some b → q.2.2.2.1.ownBlock = some b → i = j
theorem rowB_nil (B : Nat) (W : World) : RowB B (.slice none 0 0) [] W := ⟨[], World.ownsRow_nil _ _ _ _, rfl, fun j x p hx => by simp at hx, fun i j p q b hp => by simp at hp⟩
theorem RowB.stays {B : Nat} {u : Value} {l : List EI} {w w' : World} (h : RowB B u l w) (hk : ∀ i, B ≤ i → i < w.heap.size → w'.heap[i]? = w.heap[i]?) : RowB B u l w' := by
  obtain ⟨e, h1, h2, h3, h4⟩ := h
  refine ⟨e, own_stays h1 fun g hg => hk g (own_lt h1 hg).1 (own_lt h1 hg).2, h2, fun j x p hx hp => ?_, h4⟩
  obtain ⟨a1, a2, a3, a4, a5⟩ := h3 j x p hx hp
  exact ⟨a1, a2, a3, a4, own_stays a5 fun g hg => hk g (own_lt a5 hg).1 (own_lt a5 hg).2⟩
theorem RowB.below {B : Nat} {u : Value} {l : List EI} {w w' : World} (h : RowB B u l w) (hb : Below w.heap.size w w') : RowB B u l w' := h.stays fun i _ hi => hb.block i hi
theorem rowB_at {B : Nat} {u : Value} {l : List EI} {w : World} (h : RowB B u l w) : ∃ S, At S (OwnEP u l) w ∧ At S (RowB B u l) w ∧ Within S B w.heap.size := by
  obtain ⟨e, h1, h2, h3, h4⟩ := h
  have hx : ∀ (i : Nat) p, e[i]? = some p → ∃ x, l[i]? = some x := fun i p hp => ⟨_, List.getElem?_eq_getElem (by have := (List.getElem?_eq_some_iff.1 hp).1; omega)⟩
  have hat := ownEP_at (own_lowE h1 (Nat.zero_le _)) h2 (fun j x p hx hp => by
    obtain ⟨a1, a2, a3, a4, a5⟩ := h3 j x p hx hp
    exact ⟨a1, a2, a3, a4, own_zero a5⟩) ⟨h4, fun i p b hp hb hv => by
      obtain ⟨x, hx⟩ := hx i p hp
      exact own_types h1 (h3 i x p hx hp).2.2.2.2 (by decide) hv hb⟩
  refine ⟨blocksE u e, hat, ⟨⟨e, h1, h2, h3, h4⟩, hat.lt, fun w' hk => ⟨e, own_stays h1 fun g hg => hk g (blocksE_v hg), h2, fun j x p hx hp => ?_, h4⟩⟩, fun g hg => ?_⟩
  · obtain ⟨a1, a2, a3, a4, a5⟩ := h3 j x p hx hp
    exact ⟨a1, a2, a3, a4, own_stays a5 fun g hg => hk g (blocksE_e (List.mem_of_getElem? hp) hg)⟩
  · rcases blocksE_mem hg with h | ⟨j, p, hp, h⟩
    · exact own_lt h1 h
    · obtain ⟨x, hx⟩ := hx j p hp
      exact own_lt (h3 j x p hx hp).2.2.2.2 h
theorem RowB.own {B : Nat} {u : Value} {l : List EI} {w : World} (h : RowB B u l w) : OwnEP u l w := by
  obtain ⟨S, h1, _⟩ := rowB_at h
  exact h1.here
/-- behind an append -/
theorem rowB_snoc {B N : Nat} {l : List EI} {e : List CE} {x : EI} {u un v2 : Value} {W1 W2 : World} (hl : e.length = l.length) (h1 : W1.ownsRow B 35 5 u l.length (flatE e)) (h3 : ∀ (j : Nat) y p, l[j]? = some y → e[j]? = some p → CellB B p y W1)
    (h4 : ∀ (i j : Nat) p q b, e[i]? = some p → e[j]? = some q → p.2.2.2.1.ownBlock = some b → q.2.2.2.1.ownBlock = some b → i = j) (hN : ∀ p ∈ e, ∀ b, p.2.2.2.1.ownBlock = some b → b < N) (on : W1.ownsRow N 3 1 un x.2.2.1.2.length (intsV x.2.2.1.2)) (hBN : B ≤ N)
    (ho2 : W2.ownsRow B 35 5 v2 (l.length + 1) (flatE e ++ [.string x.1, .string x.2.1, .bool x.2.2.1.1, un, .int .i64 x.2.2.2])) (hg : W1.grownBy W2 u.ownBlock) : RowB B v2 (l ++ [x]) W2 := by
  have keep : ∀ {B' n : Nat} {v : Value} {ys : List Value}, W1.ownsRow B' 3 1 v n ys → W2.ownsRow B' 3 1 v n ys := fun o => own_stays o fun g hv => hg.block g (own_lt o hv).2 fun e => own_types h1 o (by decide) e.symm hv
  refine ⟨e ++ [(x.1, x.2.1, x.2.2.1.1, un, x.2.2.2)], by rw [List.length_append, flatE_append]; exact ho2, by rw [List.length_append, List.length_append, hl]; rfl, fun j y p hy hp => ?_, fun i j p q b hp hq hpb hqb => ?_⟩
  · by_cases hj : j < l.length
    · rw [List.getElem?_append_left hj] at hy
      rw [List.getElem?_append_left (by omega)] at hp
      obtain ⟨a1, a2, a3, a4, a5⟩ := h3 j y p hy hp
      exact ⟨a1, a2, a3, a4, keep a5⟩
    · rw [List.getElem?_append_right (by omega)] at hy hp
      have hj0 : j - l.length = 0 := by have := (List.getElem?_eq_some_iff.1 hy).1; simp at this; omega
      rw [hj0] at hy
      rw [hl, hj0] at hp
      cases hy
      cases hp
      exact ⟨rfl, rfl, rfl, rfl, own_low (keep on) hBN⟩
  · have hin : ∀ (i : Nat) p, (e ++ [(x.1, x.2.1, x.2.2.1.1, un, x.2.2.2)])[i]? = some p → (i < e.length ∧ e[i]? = some p) ∨ (i = e.length ∧ p.2.2.2.1 = un) := fun i p hp => by
      by_cases hi : i < e.length
      · rw [List.getElem?_append_left hi] at hp
        exact .inl ⟨hi, hp⟩
      · rw [List.getElem?_append_right (by omega)] at hp
        have hi0 : i - e.length = 0 := by have := (List.getElem?_eq_some_iff.1 hp).1; simp at this; omega
        rw [hi0] at hp
        cases hp
        exact .inr ⟨by omega, rfl⟩
    rcases hin i p hp with ⟨_, hp⟩ | ⟨hi, ep⟩ <;> rcases hin j q hq with ⟨_, hq⟩ | ⟨hj, eq⟩
    · exact h4 i j p q b hp hq hpb hqb
    · exfalso
      rw [eq] at hqb
      have := hN p (List.mem_of_getElem? hp) b hpb
      have := (own_lt on hqb).1
      omega
    · exfalso
      rw [ep] at hpb
      have := hN q (List.mem_of_getElem? hq) b hqb
      have := (own_lt on hpb).1
      omega
    · omega
theorem rowB_len {B : Nat} {u : Value} {l : List EI} {w : World} (h : RowB B u l w) : ∃ A c, u = .slice A l.length c := by
  obtain ⟨_, h1, _⟩ := h
  exact own_lenE h1
theorem flatE_set5 {e : List CE} {k : Nat} (h : k < e.length) (a b : ByteArray) (c : Bool) (u : Value) (n : Int) :
    (((((flatE e).set (k * 5) (.string a)).set (k * 5 + 1) (.string b)).set (k * 5 + 2) (.bool c)).set (k * 5 + 3) u).set (k * 5 + 4) (.int .i64 n) = flatE (e.set k (a, b, c, u, n)) := by
  induction e generalizing k with
  | nil => exact absurd h (Nat.not_lt_zero _)
  | cons q e ih =>
    cases k with
    | zero => rfl
    | succ k =>
      have := ih (k := k) (by simpa using h)
      rw [show (k + 1) * 5 = k * 5 + 1 + 1 + 1 + 1 + 1 by omega, List.set_cons_succ]
      show _ = _ :: _ :: _ :: _ :: _ :: flatE (e.set k _)
      rw [← this]
      rfl
/-- another rate in place k: its cells are written, its limbs are new -/
theorem rowB_set {B N k g c : Nat} {l : List EI} {x : EI} {un : Value} {W0 W : World} (h : RowB B (.slice (some ⟨g, 0, none⟩) l.length c) l W0) (hk : k < l.length) (hW : ∀ i, i < W0.heap.size → W.heap[i]? = W0.heap[i]?) (hN0 : W0.heap.size ≤ N)
    (on : W.ownsRow N 3 1 un x.2.2.1.2.length (intsV x.2.2.1.2)) (hBN : B ≤ N) :
    RowB B (.slice (some ⟨g, 0, none⟩) l.length c) (l.set k x) (((((W.setCell ⟨g, k * 5, none⟩ (.string x.1)).setCell ⟨g, k * 5 + 1, none⟩ (.string x.2.1)).setCell ⟨g, k * 5 + 2, none⟩ (.bool x.2.2.1.1)).setCell ⟨g, k * 5 + 3, none⟩ un).setCell ⟨g, k * 5 + 4, none⟩ (.int .i64 x.2.2.2)) := by
  obtain ⟨e, h01, h2, h03, h4⟩ := h
  have hN : ∀ p ∈ e, ∀ b, p.2.2.2.1.ownBlock = some b → b < N := fun p hp b hb => by
    obtain ⟨j, hj⟩ := List.mem_iff_getElem?.1 hp
    obtain ⟨y, hy⟩ : ∃ y, l[j]? = some y := ⟨_, List.getElem?_eq_getElem (by have := (List.getElem?_eq_some_iff.1 hj).1; omega)⟩
    have := (own_lt (h03 j y p hy hj).2.2.2.2 hb).2
    omega
  have h1 := own_stays h01 fun i hi => hW i (own_lt h01 hi).2
  have h3 : ∀ (j : Nat) y p, l[j]? = some y → e[j]? = some p → CellB B p y W := fun j y p hy hp => by
    obtain ⟨a1, a2, a3, a4, a5⟩ := h03 j y p hy hp
    exact ⟨a1, a2, a3, a4, own_stays a5 fun i hi => hW i (own_lt a5 hi).2⟩
  have hc : Chg [g] W (((((W.setCell ⟨g, k * 5, none⟩ (.string x.1)).setCell ⟨g, k * 5 + 1, none⟩ (.string x.2.1)).setCell ⟨g, k * 5 + 2, none⟩ (.bool x.2.2.1.1)).setCell ⟨g, k * 5 + 3, none⟩ un).setCell ⟨g, k * 5 + 4, none⟩ (.int .i64 x.2.2.2)) :=
    (((((Chg.refl _ _).setCell (by simp) _).setCell (by simp) _).setCell (by simp) _).setCell (by simp) _).setCell (by simp) _
  obtain ⟨o1, _⟩ := h1.stored (k * 5) (.string x.1)
  obtain ⟨o2, _⟩ := o1.stored (k * 5 + 1) (.string x.2.1)
  obtain ⟨o3, _⟩ := o2.stored (k * 5 + 2) (.bool x.2.2.1.1)
  obtain ⟨o4, _⟩ := o3.stored (k * 5 + 3) un
  obtain ⟨o5, _⟩ := o4.stored (k * 5 + 4) (.int .i64 x.2.2.2)
  rw [flatE_set5 (by omega)] at o5
  have keep : ∀ {B' n : Nat} {v : Value} {ys : List Value}, W.ownsRow B' 3 1 v n ys → (((((W.setCell ⟨g, k * 5, none⟩ (.string x.1)).setCell ⟨g, k * 5 + 1, none⟩ (.string x.2.1)).setCell ⟨g, k * 5 + 2, none⟩ (.bool x.2.2.1.1)).setCell ⟨g, k * 5 + 3, none⟩ un).setCell ⟨g, k * 5 + 4, none⟩ (.int .i64 x.2.2.2)).ownsRow B' 3 1 v n ys :=
    fun o => own_stays o fun b hv => hc.block b (own_lt o hv).2 fun hm => own_types h1 o (by decide) (by rw [List.mem_singleton.1 hm]; rfl) hv
  refine ⟨e.set k (x.1, x.2.1, x.2.2.1.1, un, x.2.2.2), by rw [List.length_set]; exact o5, by rw [List.length_set, List.length_set, h2], fun j y p hy hp => ?_, fun i j p q b hp hq hpb hqb => ?_⟩
  · by_cases hj : k = j
    · subst hj
      rw [List.getElem?_set_self hk] at hy
      rw [List.getElem?_set_self (by omega)] at hp
      cases hy
      cases hp
      exact ⟨rfl, rfl, rfl, rfl, own_low (keep on) hBN⟩
    · rw [List.getElem?_set_ne hj] at hy hp
      obtain ⟨a1, a2, a3, a4, a5⟩ := h3 j y p hy hp
      exact ⟨a1, a2, a3, a4, keep a5⟩
  · have hin : ∀ (i : Nat) p, (e.set k (x.1, x.2.1, x.2.2.1.1, un, x.2.2.2))[i]? = some p → (¬ k = i ∧ e[i]? = some p) ∨ (k = i ∧ p.2.2.2.1 = un) := fun i p hp => by
      by_cases hi : k = i
      · subst hi
        rw [List.getElem?_set_self (by omega)] at hp
        cases hp
        exact .inr ⟨rfl, rfl⟩
      · rw [List.getElem?_set_ne hi] at hp
        exact .inl ⟨hi, hp⟩
    rcases hin i p hp with ⟨_, hp⟩ | ⟨hi, ep⟩ <;> rcases hin j q hq with ⟨_, hq⟩ | ⟨hj, eq⟩
    · exact h4 i j p q b hp hq hpb hqb
    · exfalso
      rw [eq] at hqb
      have := hN p (List.mem_of_getElem? hp) b hpb
      have := (own_lt on hqb).1
      omega
    · exfalso
      rw [ep] at hpb
      have := hN q (List.mem_of_getElem? hq) b hqb
      have := (own_lt on hpb).1
      omega
    · omega
theorem five_new (w : World) (a b c d e : Value) (t : TypeId) : ∀ (j : Nat) (u : Value), [a, b, c, d, e][j]? = some u → (w.alloc (.cells #[a, b, c, d, e] t)).cell? (Addr.add ⟨w.heap.size, 0, none⟩ j) = some u := by
  intro j u h
  rw [add_ownE]
  match j, h with
  | 0, h => rw [World.cell?_alloc_at _ _ _ _ rfl]; simpa using h
  | 1, h => rw [World.cell?_alloc_at _ _ _ _ rfl]; simpa using h
  | 2, h => rw [World.cell?_alloc_at _ _ _ _ rfl]; simpa using h
  | 3, h => rw [World.cell?_alloc_at _ _ _ _ rfl]; simpa using h
  | 4, h => rw [World.cell?_alloc_at _ _ _ _ rfl]; simpa using h
  | j + 5, h => simp at h
/-- a list as far as it is built, and one more: with its cells in view -/
theorem rowB_open {B : Nat} {u : Value} {l : List EI} {w : World} (h : RowB B u l w) : ∃ e : List CE, w.ownsRow B 35 5 u l.length (flatE e) ∧ ∀ (W1 W2 : World) (N : Nat) (x : EI) (un v2 : Value), (∀ i, i < w.heap.size → W1.heap[i]? = w.heap[i]?) → w.heap.size ≤ N → B ≤ N → W1.ownsRow N 3 1 un x.2.2.1.2.length (intsV x.2.2.1.2) →
    W2.ownsRow B 35 5 v2 (l.length + 1) (flatE e ++ [.string x.1, .string x.2.1, .bool x.2.2.1.1, un, .int .i64 x.2.2.2]) → W1.grownBy W2 u.ownBlock → RowB B v2 (l ++ [x]) W2 := by
  obtain ⟨e, h1, h2, h3, h4⟩ := h
  refine ⟨e, h1, fun W1 W2 N x un v2 hk hN hB on ho hg => ?_⟩
  refine rowB_snoc h2 (own_stays h1 fun g hg => hk g (own_lt h1 hg).2) (fun j y p hy hp => ?_) h4 (fun p hp b hb => ?_) on hB ho hg
  · obtain ⟨a1, a2, a3, a4, a5⟩ := h3 j y p hy hp
    exact ⟨a1, a2, a3, a4, own_stays a5 fun g hg => hk g (own_lt a5 hg).2⟩
  · obtain ⟨j, hj⟩ := List.mem_iff_getElem?.1 hp
    obtain ⟨x, hx⟩ : ∃ x, l[j]? = some x := ⟨_, List.getElem?_eq_getElem (by have := (List.getElem?_eq_some_iff.1 hj).1; omega)⟩
    have := (own_lt (h3 j x p hx hj).2.2.2.2 hb).2
    omega
end Go.Proofs.YtbpfabicampdkaaDoor

namespace Go.Proofs.YtbpfabicampdkaaDoor
open Go.RowKit

/-- what a nat lies in: the cells behind its limbs, and the type of the block (a nat alone, or the head of an integer) -/
structure NatK where
  rest : List Value
  ty : TypeId
  ne : ty ≠ 3
/-- the pointer at block b leads to a nat of the call's own whose limbs are xs -/
def NatX (K : NatK) (B b : Nat) (xs : List Int) (w : World) : Prop :=
  B ≤ b ∧ ∃ v, w.heap[b]? = some (.cells (v :: K.rest).toArray K.ty (0, 0)) ∧ w.ownsRow B 3 1 v xs.length (intsV xs) ∧ v.ownBlock ≠ some b


theorem NatX.lt {K : NatK} {B b : Nat} {xs : List Int} {w : World} (h : NatX K B b xs w) : b < w.heap.size := by
  obtain ⟨_, v, hb, _⟩ := h
  exact (Array.getElem?_eq_some_iff.1 hb).1
theorem NatX.cell {K : NatK} {v : Value} {b : Nat} {w : World} (hb : w.heap[b]? = some (.cells (v :: K.rest).toArray K.ty (0, 0))) : w.cell? ⟨b, 0, none⟩ = some v := by
  rw [Lib.cell_of_heap hb]; simp
theorem NatX.cell1 {K : NatK} {v u : Value} {b : Nat} {w : World} (hb : w.heap[b]? = some (.cells (v :: K.rest).toArray K.ty (0, 0))) (j : Nat) (hj : K.rest[j]? = some u) : w.cell? ⟨b, j + 1, none⟩ = some u := by
  rw [Lib.cell_of_heap hb]; simpa using hj
/-- new limbs laid into it -/
theorem NatX.put {K : NatK} {B b : Nat} {v v' : Value} {ys : List Int} {w : World} (hB : B ≤ b) (hb : w.heap[b]? = some (.cells (v :: K.rest).toArray K.ty (0, 0))) (hown : w.ownsRow B 3 1 v' ys.length (intsV ys)) :
    NatX K B b ys (w.setCell ⟨b, 0, none⟩ v') := by
  have hne := Lib.ownBlock_ne hown hb K.ne
  refine ⟨hB, v', ?_, ?_, hne⟩
  · simp [World.setCell, Array.getElem?_modify, hb]
  · exact hown.kept (row := some b) ⟨rfl, rfl, rfl, by simp [World.setCell], fun k _ hk => Below.heap_setCell _ _ _ _ (fun e => hk (by simp [e]))⟩ (Or.inr hne)
theorem NatX.new {K : NatK} {B : Nat} {v : Value} {xs : List Int} {w : World} (hB : B ≤ w.heap.size) (hown : w.ownsRow B 3 1 v xs.length (intsV xs)) : NatX K B w.heap.size xs (w.alloc (.cells (v :: K.rest).toArray K.ty)) := by
  refine ⟨hB, v, heap_alloc_new w _, own_alloc hown _, fun h => ?_⟩
  have := (own_lt hown h).2
  omega

set_option maxHeartbeats 1000000 in
set_option maxRecDepth 100000 in
theorem cloneI_any (v : Value) (xs : List Int) (lo hi : Nat) (w : World) (hl : xs.length ≤ 1048576) (hr : Row w lo hi v (intsV xs)) :
    Calls Tryd.prog 63 #[v] w (NewInts xs w) := by
  obtain ⟨i0, hi0, hz0, hz1, hz2⟩ := info_parts intInfo
  obtain ⟨A, c, rfl, hA⟩ := hr
  have q22 : ∀ (w : World) (a : Option Addr) (n c n' c' : Nat), (binOp .eql 22 (.slice a n c) (.slice none n' c')).run Tryd.prog w = .ok (.bool a.isNone) w := fun w a n c n' c' => Lib.run_eql_slice_nil w _ _ a n c n' c' Tryd.underlying22
  cases A with
  | none =>
    obtain rfl : xs = [] := by
      cases xs with
      | nil => rfl
      | cons x r =>
        obtain ⟨a, e, _⟩ := hA 0 _ rfl
        cases e
    clear hA
    go_enter Tryd.func63, Tryd.ntmps63
    go_wp2
    go_ret
    exact ⟨_, rfl, World.ownsRow_nil _ _ _ _, Below.refl _ _⟩
  | some a =>
    have HA := Lib.hid hA
    clear hA
    rw [intsV_length]
    go_enter Tryd.func63, Tryd.ntmps63
    go_wp2_with (at_builtin; refine wpList_append_own _ rfl _ _ 22 rfl w.heap.size 3 i0 (.int .i64 0) 1 8 Tryd.underlying22 hi0 hz0 hz1 hz2 rfl (by decide) _ _ _ rfl (World.ownsRow_made w #[] 0 (Nat.le_refl _) (Nat.zero_le _) rfl) a xs.length c (intsV xs) rfl ?qc1 ?qc2 ?qc3 ?qc4 ?qc5 ?qc6 ?_)
    case qc1 => simp [intsV_length]
    case qc2 =>
      intro j u hj
      obtain ⟨p, e, h1, h2, h3⟩ := HA.out j u hj
      cases e
      exact Lib.cell?_alloc_some _ h3
    case qc3 => intro u hu; obtain ⟨x, _, rfl⟩ := List.mem_map.1 hu; rfl
    case qc4 => unfold maxLen; omega
    case qc5 => omega
    case qc6 => simp
    intro v' w1 hown hgrow hnil
    go_wp2
    go_ret
    exact ⟨v', rfl, by simpa using hown, ((Below.refl _ w).alloc (Nat.le_refl _) _).grown hgrow (by simp) (by intro k hk; simp [Value.ownBlock] at hk; omega)⟩



end Go.Proofs.YtbpfabicampdkaaDoor

namespace Go.Proofs.YtbpfabicampdkaaDoor
open Go.RowKit

set_option maxHeartbeats 2000000 in
set_option maxRecDepth 100000 in
theorem copyRate_any (vr : Value) (r : EI) (w : World) (hl : r.2.2.1.2.length ≤ 1048576) (hr : OwnE vr r w) :
    Calls Tryd.prog 43 #[vr] w (NewV (fun v => OwnE v r) w) := by
  have Hr := Lib.hid hr
  obtain ⟨Ar, cr, rfl⟩ := ownE_form hr
  have OEr := Lib.hid (show ∀ W, Below w.heap.size w W → OwnE (.agg #[.string r.1, .string r.2.1, .bool r.2.2.1.1, .slice Ar r.2.2.1.2.length cr, .int .i64 r.2.2.2]) r W from fun W hb => OwnE.below Hr.out hb)
  have OIr := Lib.hid (show ∀ W, Below w.heap.size w W → OwnI (.slice Ar r.2.2.1.2.length cr) r.2.2.1.2 W from fun W hb => ownE_open (OEr.out W hb))
  have ODr := Lib.hid (show ∀ W, Below w.heap.size w W → OwnD (.agg #[.bool r.2.2.1.1, .slice Ar r.2.2.1.2.length cr, .int .i64 r.2.2.2]) r.2.2 W from fun W hb => OwnD.mk (OIr.out W hb))
  have OSr := Lib.hid (show ∀ W, Below w.heap.size w W → OwnS (.agg #[.bool r.2.2.1.1, .slice Ar r.2.2.1.2.length cr]) r.2.2.1 W from fun W hb => OwnS.mk (OIr.out W hb))
  clear hr
  have bb0 : Below w.heap.size w ((w.alloc (.cells #[.string r.1, .string r.2.1, .bool r.2.2.1.1, .slice Ar r.2.2.1.2.length cr, .int .i64 r.2.2.2] 35)).alloc (.cells #[.string ⟨#[]⟩, .string ⟨#[]⟩, .bool false, .slice none 0 0, .int .i64 0] 35)) := below_al (below_al (Below.refl _ _) _) _
  have kr := (box_new w #[.string r.1, .string r.2.1, .bool r.2.2.1.1, .slice Ar r.2.2.1.2.length cr, .int .i64 r.2.2.2] 35).below (below_al (Below.refl _ _) (.cells #[.string ⟨#[]⟩, .string ⟨#[]⟩, .bool false, .slice none 0 0, .int .i64 0] 35))
  have ko := (box_new (w.alloc (.cells #[.string r.1, .string r.2.1, .bool r.2.2.1.1, .slice Ar r.2.2.1.2.length cr, .int .i64 r.2.2.2] 35)) #[.string ⟨#[]⟩, .string ⟨#[]⟩, .bool false, .slice none 0 0, .int .i64 0] 35)
  rw [show (w.alloc (.cells #[.string r.1, .string r.2.1, .bool r.2.2.1.1, .slice Ar r.2.2.1.2.length cr, .int .i64 r.2.2.2] 35)).heap.size = w.heap.size + 1 by simp] at ko
  have ks := box_new (((w.alloc (.cells #[.string r.1, .string r.2.1, .bool r.2.2.1.1, .slice Ar r.2.2.1.2.length cr, .int .i64 r.2.2.2] 35)).alloc (.cells #[.string ⟨#[]⟩, .string ⟨#[]⟩, .bool false, .slice none 0 0, .int .i64 0] 35))) #[.string r.1, .string r.2.1, .bool r.2.2.1.1, .slice Ar r.2.2.1.2.length cr, .int .i64 r.2.2.2] 35
  have als := below_al (Below.refl (((w.alloc (.cells #[.string r.1, .string r.2.1, .bool r.2.2.1.1, .slice Ar r.2.2.1.2.length cr, .int .i64 r.2.2.2] 35)).alloc (.cells #[.string ⟨#[]⟩, .string ⟨#[]⟩, .bool false, .slice none 0 0, .int .i64 0] 35))).heap.size (((w.alloc (.cells #[.string r.1, .string r.2.1, .bool r.2.2.1.1, .slice Ar r.2.2.1.2.length cr, .int .i64 r.2.2.2] 35)).alloc (.cells #[.string ⟨#[]⟩, .string ⟨#[]⟩, .bool false, .slice none 0 0, .int .i64 0] 35)))) (.cells #[.string r.1, .string r.2.1, .bool r.2.2.1.1, .slice Ar r.2.2.1.2.length cr, .int .i64 r.2.2.2] 35)
  have bbs := Below.next bb0 als
  replace kr := kr.below als
  replace ko := ko.below als
  rw [show ((w.alloc (.cells #[.string r.1, .string r.2.1, .bool r.2.2.1.1, .slice Ar r.2.2.1.2.length cr, .int .i64 r.2.2.2] 35)).alloc (.cells #[.string ⟨#[]⟩, .string ⟨#[]⟩, .bool false, .slice none 0 0, .int .i64 0] 35)).heap.size = w.heap.size + 1 + 1 by simp] at ks
  go_enter Tryd.func43, Tryd.ntmps43
  have kr_c0 := kr.here.cell 0 _ rfl
  have kr_c1 := kr.here.cell 1 _ rfl
  have kr_c2 := kr.here.cell 2 _ rfl
  have kr_c3 := kr.here.cell 3 _ rfl
  have kr_c4 := kr.here.cell 4 _ rfl
  have ks_c0 := ks.here.cell 0 _ rfl
  have ks_c1 := ks.here.cell 1 _ rfl
  have ks_c2 := ks.here.cell 2 _ rfl
  have ks_c3 := ks.here.cell 3 _ rfl
  have ks_c4 := ks.here.cell 4 _ rfl
  go_wp2_with fail
  clear kr_c0 kr_c1 kr_c2 kr_c3 kr_c4 ks_c0 ks_c1 ks_c2 ks_c3 ks_c4
  refine ((cloneI_any _ r.2.2.1.2 0 _ _ hl (OwnI.row (OIr.out _ bbs))).mono fun _ _ h => NewInts.newV h).mono ?_
  rintro e w1 ⟨un, Sn, rfl, on, ln, b1⟩
  obtain ⟨An, cn, rfl⟩ := own_len on.here
  have bb1 := Below.next bbs b1
  replace kr := kr.below b1
  replace ko := ko.below b1
  replace ks := ks.below b1
  have hz1 : w.heap.size + 1 + 1 + 1 ≤ w1.heap.size := by have := b1.size; simp at this; omega
  have hlo : ∀ i ∈ Sn, w.heap.size + 1 + 1 + 1 ≤ i := fun i hi => by have := (ln i hi).1; simp at this; omega
  have HW := Lib.hid (newV_chgM (φ := fun v => OwnE v r) (v := .agg #[.string r.1, .string r.2.1, .bool r.2.2.1.1, .slice An r.2.2.1.2.length cn, .int .i64 r.2.2.2]) (T := [w.heap.size + 1, w.heap.size + 1 + 1]) (on.imp fun _ h => (OwnE.mk h : OwnE _ r _)) (fun i hi hm => by have := hlo i hi; simp at hm; omega) (fun i hi => by simp at hi; omega) (fun i hi => by have := hlo i hi; omega) bb1)
  have cz0 := ko.here.cell 0 _ rfl
  have fz0 := Lib.frozen_of_heap ko.here 0
  have cz1 := ko.here.cell 1 _ rfl
  have fz1 := Lib.frozen_of_heap ko.here 1
  have cz2 := ko.here.cell 2 _ rfl
  have fz2 := Lib.frozen_of_heap ko.here 2
  have cz3 := ko.here.cell 3 _ rfl
  have fz3 := Lib.frozen_of_heap ko.here 3
  have cz4 := ko.here.cell 4 _ rfl
  have fz4 := Lib.frozen_of_heap ko.here 4
  have cs0 := ks.here.cell 0 _ rfl
  have fs0 := Lib.frozen_of_heap ks.here 0
  have cs1 := ks.here.cell 1 _ rfl
  have fs1 := Lib.frozen_of_heap ks.here 1
  have cs2 := ks.here.cell 2 _ rfl
  have fs2 := Lib.frozen_of_heap ks.here 2
  have cs3 := ks.here.cell 3 _ rfl
  have fs3 := Lib.frozen_of_heap ks.here 3
  have cs4 := ks.here.cell 4 _ rfl
  have fs4 := Lib.frozen_of_heap ks.here 4
  clear on ln hlo kr ko ks
  go_wp2
  refine bodyPost_ret (v := .agg #[.string r.1, .string r.2.1, .bool r.2.2.1.1, .slice An r.2.2.1.2.length cn, .int .i64 r.2.2.2]) (by simp [results, Tryd.results43, go_sem, cz0, cz1, cz2, cz3, cz4]) rfl ?_
  refine HW.out _ ?_
  repeat (first | with_reducible exact Chg.refl _ _ | with_reducible refine Chg.setCell ?_ (by simp) _)
/-- what copies a list: a new one of the same rates -/
def NewEL2 (l : List EI) (w : World) (e : Ending) (w' : World) : Prop := ∃ v, e = .returned v ∧ RowB w.heap.size v l w' ∧ Below w.heap.size w w'
theorem take_snocE {l : List EI} {k : Nat} {x : EI} (h : l[k]? = some x) : l.take (k + 1) = l.take k ++ [x] := by
  have hj := (List.getElem?_eq_some_iff.1 h).1
  rw [List.take_succ_eq_append_getElem hj, (List.getElem?_eq_some_iff.1 h).2]
/-- the world behind the two literals and the append -/
theorem below_app {w wr w2 w3 : World} {B : Nat} {v : Value} {o : Obj} (hb : Below B w wr) (hB : B ≤ wr.heap.size) (b2 : Below wr.heap.size wr w2) (hg : (w2.alloc o).grownBy w3 v.ownBlock) (hv : ∀ b, v.ownBlock = some b → B ≤ b) : Below B w w3 := by
  have h1 : Below B w w2 := hb.trans (b2.mono hB)
  exact (h1.alloc (Nat.le_trans hB b2.size) o).grown hg (Nat.le_trans hB (Nat.le_trans b2.size (by simp))) hv
set_option maxHeartbeats 4000000 in
set_option maxRecDepth 100000 in
theorem copyRates_any (v : Value) (l : List EI) (w : World) (hl : l.length ≤ 1099511627776) (hx : ∀ x ∈ l, x.2.2.1.2.length ≤ 1048576) (h : OwnER w v l) :
    Calls Tryd.prog 40 #[v] w (NewEL2 l w) := by
  obtain ⟨i0, hi0, hz0, hz1, hz2⟩ := info_parts infoEL
  obtain ⟨A, c, rfl, hc⟩ := h
  have HC := Lib.hid hc
  clear hc
  go_enter Tryd.func40, Tryd.ntmps40
  go_wp2
  go_loopw [3, 8] (fun uw i wr => ∃ (uv : Value) (k : Nat), uv = uw ∧ k ≤ l.length ∧ i = .int .i64 k ∧ RowB w.heap.size uv (l.take k) wr ∧ Below w.heap.size w wr) (fun _ i _ => l.length - (intOf i).toNat)
  case atStart => exact ⟨_, 0, rfl, Nat.zero_le _, rfl, rowB_nil _ _, Below.refl _ _⟩
  case round =>
    obtain ⟨uv, k, rfl, hk, rfl, ho, hb⟩ := hrel
    by_cases hlt : k < l.length
    · obtain ⟨x, hxk⟩ : ∃ x, l[k]? = some x := ⟨_, List.getElem?_eq_getElem hlt⟩
      obtain ⟨a, ux, rfl, ha, hc0, hc1, hc2, hc3, hc4, hox⟩ := HC.out k x hxk
      obtain ⟨A1, c1x, rfl⟩ := own_len hox
      have k0 := (cell_keep5' hb ha k).trans hc0
      have k1 := (cell_keep5 hb ha k 1).trans hc1
      have k2 := (cell_keep5 hb ha k 2).trans hc2
      have k3 := (cell_keep5 hb ha k 3).trans hc3
      have k4 := (cell_keep5 hb ha k 4).trans hc4
      have hxl := hx x (List.mem_of_getElem? hxk)
      have hbx := below_al (Below.refl wr.heap.size wr) (.cells #[.string x.1, .string x.2.1, .bool x.2.2.1.1, .slice A1 x.2.2.1.2.length c1x, .int .i64 x.2.2.2] 35)
      have kx := box_new wr #[.string x.1, .string x.2.1, .bool x.2.2.1.1, .slice A1 x.2.2.1.2.length c1x, .int .i64 x.2.2.2] 35
      have OX := Lib.hid (show OwnE (.agg #[.string x.1, .string x.2.1, .bool x.2.2.1.1, .slice A1 x.2.2.1.2.length c1x, .int .i64 x.2.2.2]) x (wr.alloc (.cells #[.string x.1, .string x.2.1, .bool x.2.2.1.1, .slice A1 x.2.2.1.2.length c1x, .int .i64 x.2.2.2] 35)) from OwnE.mk (own_below (own_below hox hb) hbx))
      have HTK := Lib.hid (take_snocE hxk)
      have hlk : (l.take k).length = k := by rw [List.length_take]; omega
      obtain ⟨e, ho1, hnext⟩ := rowB_open ho
      rw [hlk] at ho1
      have HNX := Lib.hid hnext
      have HVB := Lib.hid (show ∀ b, uv.ownBlock = some b → w.heap.size ≤ b from fun b hb => (own_lt ho1 hb).1)
      have hwz := hb.size
      have HB := Lib.hid hb
      have HO1 := Lib.hid ho1
      have cx0 := kx.here.cell 0 _ rfl
      have cx1 := kx.here.cell 1 _ rfl
      have cx2 := kx.here.cell 2 _ rfl
      have cx3 := kx.here.cell 3 _ rfl
      have cx4 := kx.here.cell 4 _ rfl
      clear ho hb hc0 hc1 hc2 hc3 hc4 hox ha hxk hnext ho1 kx
      go_wp2_with fail
      refine (copyRate_any _ x _ hxl OX.out).mono ?_
      rintro e2 w2 ⟨u2, Sn, rfl, on, ln, b2⟩
      obtain ⟨An, cn, rfl⟩ := ownE_form on.here
      obtain ⟨orow, _⟩ := newE_own on ln
      have hb2 : Below wr.heap.size wr w2 := hbx.trans (b2.mono (by simp))
      have hz2' : wr.heap.size + 1 ≤ w2.heap.size := by have := b2.size; simp at this; omega
      have hnew := five_new w2 (.string x.1) (.string x.2.1) (.bool x.2.2.1.1) (.slice An x.2.2.1.2.length cn) (.int .i64 x.2.2.2) 35
      have HON := Lib.hid (own_alloc orow (.cells #[.string x.1, .string x.2.1, .bool x.2.2.1.1, .slice An x.2.2.1.2.length cn, .int .i64 x.2.2.2] 35))
      have HOA := Lib.hid (own_alloc (own_below HO1.out hb2) (.cells #[.string x.1, .string x.2.1, .bool x.2.2.1.1, .slice An x.2.2.1.2.length cn, .int .i64 x.2.2.2] 35))
      have HB2 := Lib.hid hb2
      clear on ln orow b2 hb2 cx0 cx1 cx2 cx3 cx4 k0 k1 k2 k3 k4
      go_wp2_with (at_builtin; refine wpList_append_own _ rfl _ _ 44 rfl w.heap.size 35 i0 (.agg #[.string ⟨#[]⟩, .string ⟨#[]⟩, .bool false, .slice none 0 0, .int .i64 0]) 5 72 Tryd.underlying44 hi0 hz0 hz1 hz2 rfl (by decide) uv k (flatE e) rfl HOA.out ⟨w2.heap.size, 0, none⟩ 1 1 [.string x.1, .string x.2.1, .bool x.2.2.1.1, .slice An x.2.2.1.2.length cn, .int .i64 x.2.2.2] rfl rfl hnew ?c2 ?c3 ?c4 ?c5 ?_)
      case c2 => intro u hu; simp at hu; rcases hu with rfl | rfl | rfl | rfl | rfl <;> rfl
      case c3 => unfold maxLen; omega
      case c4 => omega
      case c5 => simp; omega
      intro v2 w3 hown2 hg2 _
      have hrow := HNX.out _ w3 _ x _ v2 (fun i hi => ((Below.refl w2.heap.size w2).alloc (Nat.le_refl _) _).block i (by omega) |>.trans (HB2.out.block i hi)) (show wr.heap.size ≤ (wr.alloc (.cells #[.string x.1, .string x.2.1, .bool x.2.2.1.1, .slice A1 x.2.2.1.2.length c1x, .int .i64 x.2.2.2] 35)).heap.size by simp) (by simp; omega) HON.out (by rw [hlk]; exact hown2) hg2
      rw [← HTK.out] at hrow
      have hb3 := below_app HB.out (by omega) HB2.out hg2 HVB.out
      have HR3 := Lib.hid hrow
      have HB3 := Lib.hid hb3
      clear hown2 hg2 hrow hb3 hnew HON HOA HB HB2 HVB HNX HO1 HTK
      go_wp2
      exact ⟨⟨v2, k + 1, rfl, by omega, by go_num, HR3.out, HB3.out⟩, by simp [intOf]; omega⟩
    · obtain rfl : k = l.length := by omega
      rw [List.take_length] at ho
      go_wp2
      go_ret
      exact ⟨_, rfl, ho, hb⟩
end Go.Proofs.YtbpfabicampdkaaDoor

namespace Go.Proofs.YtbpfabicampdkaaDoor
open Go.RowKit

set_option maxHeartbeats 2000000 in
set_option maxRecDepth 100000 in
theorem rateAt1_any (vr : Value) (r : EI) (B : Nat) (p q : ByteArray) (w : World) (hr : RdE w vr r) (kp : At [B] (BoxAt B #[.string p, .string q] 72) w) :
    Calls Tryd.prog 62 #[vr, .pointer (some ⟨B, 0, none⟩)] w (Postb (decide (r.1 = p) && decide (r.2.1 = q)) w) := by
  have HR := Lib.hid (show ∀ W, Below w.heap.size w W → RdE W vr r from fun W hb => hr.below hb)
  obtain ⟨Ar, cr, rfl⟩ := rdE_form hr
  clear hr
  have hB := kp.lt B (by simp)
  have bb0 : Below w.heap.size w (w.alloc (.cells #[.string r.1, .string r.2.1, .bool r.2.2.1.1, .slice Ar r.2.2.1.2.length cr, .int .i64 r.2.2.2] 35)) := below_al (Below.refl _ _) _
  have kr := (box_new w #[.string r.1, .string r.2.1, .bool r.2.2.1.1, .slice Ar r.2.2.1.2.length cr, .int .i64 r.2.2.2] 35)
  replace kp := kp.below bb0
  by_cases h1 : r.1 = p
  · have e1 : (r.1.toList == p.toList) = true := by rw [h1]; exact beq_self_eq_true _
    by_cases h2 : r.2.1 = q
    · have e2 : (r.2.1.toList == q.toList) = true := by rw [h2]; exact beq_self_eq_true _
      have HV := Lib.hid (show (decide (r.1 = p) && decide (r.2.1 = q)) = true by rw [decide_eq_true h1, decide_eq_true h2]; rfl)
      clear h1 h2
      go_enter Tryd.func62, Tryd.ntmps62
      have kr_c0 := kr.here.cell 0 _ rfl
      have kr_c1 := kr.here.cell 1 _ rfl
      have kr_c2 := kr.here.cell 2 _ rfl
      have kr_c3 := kr.here.cell 3 _ rfl
      have kr_c4 := kr.here.cell 4 _ rfl
      have kp_c0 := kp.here.cell 0 _ rfl
      have kp_c1 := kp.here.cell 1 _ rfl
      go_wp2_with fail
      have HC0 := Lib.hid (show Chg [] (w.alloc (.cells #[.string r.1, .string r.2.1, .bool r.2.2.1.1, .slice Ar r.2.2.1.2.length cr, .int .i64 r.2.2.2] 35)) (w.alloc (.cells #[.string r.1, .string r.2.1, .bool r.2.2.1.1, .slice Ar r.2.2.1.2.length cr, .int .i64 r.2.2.2] 35)).drew from (Chg.refl _ _).drew1)
      have HCr := Lib.hid (show Chg [] (w.alloc (.cells #[.string r.1, .string r.2.1, .bool r.2.2.1.1, .slice Ar r.2.2.1.2.length cr, .int .i64 r.2.2.2] 35)) (w.alloc (.cells #[.string r.1, .string r.2.1, .bool r.2.2.1.1, .slice Ar r.2.2.1.2.length cr, .int .i64 r.2.2.2] 35)) from Chg.refl _ _)
      have KL := Lib.hid (show ∀ W, Chg [] (w.alloc (.cells #[.string r.1, .string r.2.1, .bool r.2.2.1.1, .slice Ar r.2.2.1.2.length cr, .int .i64 r.2.2.2] 35)) W → W.cell? ⟨w.heap.size, 0, none⟩ = some (.string r.1) ∧ W.cell? ⟨w.heap.size, 1, none⟩ = some (.string r.2.1) ∧ W.cell? ⟨w.heap.size, 2, none⟩ = some (.bool r.2.2.1.1) ∧ W.cell? ⟨w.heap.size, 3, none⟩ = some (.slice Ar r.2.2.1.2.length cr) ∧ W.cell? ⟨w.heap.size, 4, none⟩ = some (.int .i64 r.2.2.2) ∧ W.cell? ⟨B, 0, none⟩ = some (.string p) ∧ W.cell? ⟨B, 1, none⟩ = some (.string q) ∧ Hid (Chg [] (w.alloc (.cells #[.string r.1, .string r.2.1, .bool r.2.2.1.1, .slice Ar r.2.2.1.2.length cr, .int .i64 r.2.2.2] 35)) W) from fun W hc => ⟨(kr.chg hc (fun i hi hm => by simp at hm)).here.cell 0 _ rfl, (kr.chg hc (fun i hi hm => by simp at hm)).here.cell 1 _ rfl, (kr.chg hc (fun i hi hm => by simp at hm)).here.cell 2 _ rfl, (kr.chg hc (fun i hi hm => by simp at hm)).here.cell 3 _ rfl, (kr.chg hc (fun i hi hm => by simp at hm)).here.cell 4 _ rfl, (kp.chg hc (fun i hi hm => by simp at hm)).here.cell 0 _ rfl, (kp.chg hc (fun i hi hm => by simp at hm)).here.cell 1 _ rfl, Lib.hid hc⟩)
      have BBF := Lib.hid (show ∀ W, Chg [] (w.alloc (.cells #[.string r.1, .string r.2.1, .bool r.2.2.1.1, .slice Ar r.2.2.1.2.length cr, .int .i64 r.2.2.2] 35)) W → Below w.heap.size w W from fun W hc => below_chg bb0 hc bb0.size (fun i hi => by simp at hi))
      clear kr_c0 kr_c1 kr_c2 kr_c3 kr_c4 kp_c0 kp_c1
      go_region_held3 (fun W => W.cell? ⟨w.heap.size, 0, none⟩ = some (.string r.1) ∧ W.cell? ⟨w.heap.size, 1, none⟩ = some (.string r.2.1) ∧ W.cell? ⟨w.heap.size, 2, none⟩ = some (.bool r.2.2.1.1) ∧ W.cell? ⟨w.heap.size, 3, none⟩ = some (.slice Ar r.2.2.1.2.length cr) ∧ W.cell? ⟨w.heap.size, 4, none⟩ = some (.int .i64 r.2.2.2) ∧ W.cell? ⟨B, 0, none⟩ = some (.string p) ∧ W.cell? ⟨B, 1, none⟩ = some (.string q) ∧ Hid (Chg [] (w.alloc (.cells #[.string r.1, .string r.2.1, .bool r.2.2.1.1, .slice Ar r.2.2.1.2.length cr, .int .i64 r.2.2.2] 35)) W))
        ((refine KL.out _ ?_; (first | exact HC1.out | exact HCr.out | exact HC0.out | exact HC1.out.drew1 | exact HCr.out.drew1 | exact HC0.out.drew1 | exact HC1.out.trans (Chg.of_below (below_al (Below.refl _ _) _)) | exact HCr.out.trans (Chg.of_below (below_al (Below.refl _ _) _)) | exact HC0.out.trans (Chg.of_below (below_al (Below.refl _ _) _)) | fail)))
        (first
          | (go_at_call 42; (have hBB := (‹_ ∧ _ ∧ _ ∧ _ ∧ _ ∧ _ ∧ _ ∧ Hid (Chg [] (w.alloc (.cells #[.string r.1, .string r.2.1, .bool r.2.2.1.1, .slice Ar r.2.2.1.2.length cr, .int .i64 r.2.2.2] 35)) _)›).2.2.2.2.2.2.2); (with_reducible refine (pairOf_any _ r _ (HR.out _ (BBF.out _ hBB.out))).mono ?_); rintro e w1 ⟨rfl, b1⟩; have HC1 := Lib.hid (hBB.out.trans (Chg.of_below b1)); have HBZ1 := Lib.hid hBB.out.size; clear hBB))
      have bb1 := BBF.out _ HC1.out
      replace kr := kr.chg HC1.out (fun i hi hm => by simp at hm)
      replace kp := kp.chg HC1.out (fun i hi hm => by simp at hm)
      clear HC0 HCr KL BBF kr kp
      go_wp2
      go_ret
      exact ⟨ret_bool HV.out.symm, bb1⟩
    · have e2 := bytes_neC h2
      have HV := Lib.hid (show (decide (r.1 = p) && decide (r.2.1 = q)) = false by rw [decide_eq_false h2, Bool.and_false])
      clear h1 h2
      go_enter Tryd.func62, Tryd.ntmps62
      have kr_c0 := kr.here.cell 0 _ rfl
      have kr_c1 := kr.here.cell 1 _ rfl
      have kr_c2 := kr.here.cell 2 _ rfl
      have kr_c3 := kr.here.cell 3 _ rfl
      have kr_c4 := kr.here.cell 4 _ rfl
      have kp_c0 := kp.here.cell 0 _ rfl
      have kp_c1 := kp.here.cell 1 _ rfl
      go_wp2_with fail
      have HC0 := Lib.hid (show Chg [] (w.alloc (.cells #[.string r.1, .string r.2.1, .bool r.2.2.1.1, .slice Ar r.2.2.1.2.length cr, .int .i64 r.2.2.2] 35)) (w.alloc (.cells #[.string r.1, .string r.2.1, .bool r.2.2.1.1, .slice Ar r.2.2.1.2.length cr, .int .i64 r.2.2.2] 35)).drew from (Chg.refl _ _).drew1)
      have HCr := Lib.hid (show Chg [] (w.alloc (.cells #[.string r.1, .string r.2.1, .bool r.2.2.1.1, .slice Ar r.2.2.1.2.length cr, .int .i64 r.2.2.2] 35)) (w.alloc (.cells #[.string r.1, .string r.2.1, .bool r.2.2.1.1, .slice Ar r.2.2.1.2.length cr, .int .i64 r.2.2.2] 35)) from Chg.refl _ _)
      have KL := Lib.hid (show ∀ W, Chg [] (w.alloc (.cells #[.string r.1, .string r.2.1, .bool r.2.2.1.1, .slice Ar r.2.2.1.2.length cr, .int .i64 r.2.2.2] 35)) W → W.cell? ⟨w.heap.size, 0, none⟩ = some (.string r.1) ∧ W.cell? ⟨w.heap.size, 1, none⟩ = some (.string r.2.1) ∧ W.cell? ⟨w.heap.size, 2, none⟩ = some (.bool r.2.2.1.1) ∧ W.cell? ⟨w.heap.size, 3, none⟩ = some (.slice Ar r.2.2.1.2.length cr) ∧ W.cell? ⟨w.heap.size, 4, none⟩ = some (.int .i64 r.2.2.2) ∧ W.cell? ⟨B, 0, none⟩ = some (.string p) ∧ W.cell? ⟨B, 1, none⟩ = some (.string q) ∧ Hid (Chg [] (w.alloc (.cells #[.string r.1, .string r.2.1, .bool r.2.2.1.1, .slice Ar r.2.2.1.2.length cr, .int .i64 r.2.2.2] 35)) W) from fun W hc => ⟨(kr.chg hc (fun i hi hm => by simp at hm)).here.cell 0 _ rfl, (kr.chg hc (fun i hi hm => by simp at hm)).here.cell 1 _ rfl, (kr.chg hc (fun i hi hm => by simp at hm)).here.cell 2 _ rfl, (kr.chg hc (fun i hi hm => by simp at hm)).here.cell 3 _ rfl, (kr.chg hc (fun i hi hm => by simp at hm)).here.cell 4 _ rfl, (kp.chg hc (fun i hi hm => by simp at hm)).here.cell 0 _ rfl, (kp.chg hc (fun i hi hm => by simp at hm)).here.cell 1 _ rfl, Lib.hid hc⟩)
      have BBF := Lib.hid (show ∀ W, Chg [] (w.alloc (.cells #[.string r.1, .string r.2.1, .bool r.2.2.1.1, .slice Ar r.2.2.1.2.length cr, .int .i64 r.2.2.2] 35)) W → Below w.heap.size w W from fun W hc => below_chg bb0 hc bb0.size (fun i hi => by simp at hi))
      clear kr_c0 kr_c1 kr_c2 kr_c3 kr_c4 kp_c0 kp_c1
      go_region_held3 (fun W => W.cell? ⟨w.heap.size, 0, none⟩ = some (.string r.1) ∧ W.cell? ⟨w.heap.size, 1, none⟩ = some (.string r.2.1) ∧ W.cell? ⟨w.heap.size, 2, none⟩ = some (.bool r.2.2.1.1) ∧ W.cell? ⟨w.heap.size, 3, none⟩ = some (.slice Ar r.2.2.1.2.length cr) ∧ W.cell? ⟨w.heap.size, 4, none⟩ = some (.int .i64 r.2.2.2) ∧ W.cell? ⟨B, 0, none⟩ = some (.string p) ∧ W.cell? ⟨B, 1, none⟩ = some (.string q) ∧ Hid (Chg [] (w.alloc (.cells #[.string r.1, .string r.2.1, .bool r.2.2.1.1, .slice Ar r.2.2.1.2.length cr, .int .i64 r.2.2.2] 35)) W))
        ((refine KL.out _ ?_; (first | exact HC1.out | exact HCr.out | exact HC0.out | exact HC1.out.drew1 | exact HCr.out.drew1 | exact HC0.out.drew1 | exact HC1.out.trans (Chg.of_below (below_al (Below.refl _ _) _)) | exact HCr.out.trans (Chg.of_below (below_al (Below.refl _ _) _)) | exact HC0.out.trans (Chg.of_below (below_al (Below.refl _ _) _)) | fail)))
        (first
          | (go_at_call 42; (have hBB := (‹_ ∧ _ ∧ _ ∧ _ ∧ _ ∧ _ ∧ _ ∧ Hid (Chg [] (w.alloc (.cells #[.string r.1, .string r.2.1, .bool r.2.2.1.1, .slice Ar r.2.2.1.2.length cr, .int .i64 r.2.2.2] 35)) _)›).2.2.2.2.2.2.2); (with_reducible refine (pairOf_any _ r _ (HR.out _ (BBF.out _ hBB.out))).mono ?_); rintro e w1 ⟨rfl, b1⟩; have HC1 := Lib.hid (hBB.out.trans (Chg.of_below b1)); have HBZ1 := Lib.hid hBB.out.size; clear hBB))
      have bb1 := BBF.out _ HC1.out
      replace kr := kr.chg HC1.out (fun i hi hm => by simp at hm)
      replace kp := kp.chg HC1.out (fun i hi hm => by simp at hm)
      clear HC0 HCr KL BBF kr kp
      go_wp2
      go_ret
      exact ⟨ret_bool HV.out.symm, bb1⟩
  · have e1 := bytes_neC h1
    have HV := Lib.hid (show (decide (r.1 = p) && decide (r.2.1 = q)) = false by rw [decide_eq_false h1, Bool.false_and])
    clear h1
    go_enter Tryd.func62, Tryd.ntmps62
    have kr_c0 := kr.here.cell 0 _ rfl
    have kr_c1 := kr.here.cell 1 _ rfl
    have kr_c2 := kr.here.cell 2 _ rfl
    have kr_c3 := kr.here.cell 3 _ rfl
    have kr_c4 := kr.here.cell 4 _ rfl
    have kp_c0 := kp.here.cell 0 _ rfl
    have kp_c1 := kp.here.cell 1 _ rfl
    go_wp2_with fail
    have HC0 := Lib.hid (show Chg [] (w.alloc (.cells #[.string r.1, .string r.2.1, .bool r.2.2.1.1, .slice Ar r.2.2.1.2.length cr, .int .i64 r.2.2.2] 35)) (w.alloc (.cells #[.string r.1, .string r.2.1, .bool r.2.2.1.1, .slice Ar r.2.2.1.2.length cr, .int .i64 r.2.2.2] 35)).drew from (Chg.refl _ _).drew1)
    have HCr := Lib.hid (show Chg [] (w.alloc (.cells #[.string r.1, .string r.2.1, .bool r.2.2.1.1, .slice Ar r.2.2.1.2.length cr, .int .i64 r.2.2.2] 35)) (w.alloc (.cells #[.string r.1, .string r.2.1, .bool r.2.2.1.1, .slice Ar r.2.2.1.2.length cr, .int .i64 r.2.2.2] 35)) from Chg.refl _ _)
    have KL := Lib.hid (show ∀ W, Chg [] (w.alloc (.cells #[.string r.1, .string r.2.1, .bool r.2.2.1.1, .slice Ar r.2.2.1.2.length cr, .int .i64 r.2.2.2] 35)) W → W.cell? ⟨w.heap.size, 0, none⟩ = some (.string r.1) ∧ W.cell? ⟨w.heap.size, 1, none⟩ = some (.string r.2.1) ∧ W.cell? ⟨w.heap.size, 2, none⟩ = some (.bool r.2.2.1.1) ∧ W.cell? ⟨w.heap.size, 3, none⟩ = some (.slice Ar r.2.2.1.2.length cr) ∧ W.cell? ⟨w.heap.size, 4, none⟩ = some (.int .i64 r.2.2.2) ∧ W.cell? ⟨B, 0, none⟩ = some (.string p) ∧ W.cell? ⟨B, 1, none⟩ = some (.string q) ∧ Hid (Chg [] (w.alloc (.cells #[.string r.1, .string r.2.1, .bool r.2.2.1.1, .slice Ar r.2.2.1.2.length cr, .int .i64 r.2.2.2] 35)) W) from fun W hc => ⟨(kr.chg hc (fun i hi hm => by simp at hm)).here.cell 0 _ rfl, (kr.chg hc (fun i hi hm => by simp at hm)).here.cell 1 _ rfl, (kr.chg hc (fun i hi hm => by simp at hm)).here.cell 2 _ rfl, (kr.chg hc (fun i hi hm => by simp at hm)).here.cell 3 _ rfl, (kr.chg hc (fun i hi hm => by simp at hm)).here.cell 4 _ rfl, (kp.chg hc (fun i hi hm => by simp at hm)).here.cell 0 _ rfl, (kp.chg hc (fun i hi hm => by simp at hm)).here.cell 1 _ rfl, Lib.hid hc⟩)
    have BBF := Lib.hid (show ∀ W, Chg [] (w.alloc (.cells #[.string r.1, .string r.2.1, .bool r.2.2.1.1, .slice Ar r.2.2.1.2.length cr, .int .i64 r.2.2.2] 35)) W → Below w.heap.size w W from fun W hc => below_chg bb0 hc bb0.size (fun i hi => by simp at hi))
    clear kr_c0 kr_c1 kr_c2 kr_c3 kr_c4 kp_c0 kp_c1
    go_region_held3 (fun W => W.cell? ⟨w.heap.size, 0, none⟩ = some (.string r.1) ∧ W.cell? ⟨w.heap.size, 1, none⟩ = some (.string r.2.1) ∧ W.cell? ⟨w.heap.size, 2, none⟩ = some (.bool r.2.2.1.1) ∧ W.cell? ⟨w.heap.size, 3, none⟩ = some (.slice Ar r.2.2.1.2.length cr) ∧ W.cell? ⟨w.heap.size, 4, none⟩ = some (.int .i64 r.2.2.2) ∧ W.cell? ⟨B, 0, none⟩ = some (.string p) ∧ W.cell? ⟨B, 1, none⟩ = some (.string q) ∧ Hid (Chg [] (w.alloc (.cells #[.string r.1, .string r.2.1, .bool r.2.2.1.1, .slice Ar r.2.2.1.2.length cr, .int .i64 r.2.2.2] 35)) W))
      ((refine KL.out _ ?_; (first | exact HC1.out | exact HCr.out | exact HC0.out | exact HC1.out.drew1 | exact HCr.out.drew1 | exact HC0.out.drew1 | exact HC1.out.trans (Chg.of_below (below_al (Below.refl _ _) _)) | exact HCr.out.trans (Chg.of_below (below_al (Below.refl _ _) _)) | exact HC0.out.trans (Chg.of_below (below_al (Below.refl _ _) _)) | fail)))
      (first
        | (go_at_call 42; (have hBB := (‹_ ∧ _ ∧ _ ∧ _ ∧ _ ∧ _ ∧ _ ∧ Hid (Chg [] (w.alloc (.cells #[.string r.1, .string r.2.1, .bool r.2.2.1.1, .slice Ar r.2.2.1.2.length cr, .int .i64 r.2.2.2] 35)) _)›).2.2.2.2.2.2.2); (with_reducible refine (pairOf_any _ r _ (HR.out _ (BBF.out _ hBB.out))).mono ?_); rintro e w1 ⟨rfl, b1⟩; have HC1 := Lib.hid (hBB.out.trans (Chg.of_below b1)); have HBZ1 := Lib.hid hBB.out.size; clear hBB))
    have bb1 := BBF.out _ HC1.out
    replace kr := kr.chg HC1.out (fun i hi hm => by simp at hm)
    replace kp := kp.chg HC1.out (fun i hi hm => by simp at hm)
    clear HC0 HCr KL BBF kr kp
    go_wp2
    go_ret
    exact ⟨ret_bool HV.out.symm, bb1⟩
theorem rateAt1_enters : ∀ (args : Array Value) (w : World), (callFunc 62 args).run Tryd.prog w = .ok (.enter 62 args) w := enters_of Tryd.func62 (by kernel_rfl) rfl
set_option maxHeartbeats 4000000 in
set_option maxRecDepth 100000 in
theorem indexE_any (v : Value) (l : List EI) (B : Nat) (p q : ByteArray) (w : World) (hl : l.length ≤ 140737488355328) (h : RdEL w v l) (kp : At [B] (BoxAt B #[.string p, .string q] 72) w) :
    Calls Tryd.prog 61 #[v, .func (.func 62) #[] #[.pointer (some ⟨B, 0, none⟩)]] w (Postn (posE l p q) w) := by
  obtain ⟨A, c, rfl, hc⟩ := h
  have HC := Lib.hid hc
  have KP := Lib.hid (show ∀ W, Below w.heap.size w W → At [B] (BoxAt B #[.string p, .string q] 72) W from fun W hb => kp.below hb)
  have he := rateAt1_enters
  clear hc kp
  go_enter Tryd.func61, Tryd.ntmps61
  go_wp2
  go_loopw [5, 8] (fun _ i wr => ∃ k : Nat, k ≤ l.length ∧ i = .int .i64 k ∧ Hid (k ≤ atE l p q) ∧ Below w.heap.size w wr) (fun _ i _ => l.length - (intOf i).toNat)
  case atStart => exact ⟨0, Nat.zero_le _, rfl, Lib.hid (Nat.zero_le _), Below.refl _ _⟩
  case round =>
    obtain ⟨k, hk, rfl, HK, hb⟩ := hrel
    by_cases hlt : k < l.length
    · obtain ⟨x, hxk⟩ : ∃ x, l[k]? = some x := ⟨_, List.getElem?_eq_getElem hlt⟩
      obtain ⟨a, u, rfl, ha, hc0, hc1, hc2, hc3, hc4, hr⟩ := HC.out k x hxk
      obtain ⟨A1, c1, rfl⟩ := row_form hr
      rw [intsV_length] at hc3 hr
      have k0 := (cell_keep5' hb ha k).trans hc0
      have k1 := (cell_keep5 hb ha k 1).trans hc1
      have k2 := (cell_keep5 hb ha k 2).trans hc2
      have k3 := (cell_keep5 hb ha k 3).trans hc3
      have k4 := (cell_keep5 hb ha k 4).trans hc4
      have hcall := rateAt1_any (.agg #[.string x.1, .string x.2.1, .bool x.2.2.1.1, .slice A1 x.2.2.1.2.length c1, .int .i64 x.2.2.2]) x B p q wr (RdE.below ⟨_, rfl, hr⟩ hb) (KP.out _ hb)
      have HB := Lib.hid hb
      clear hc0 hc1 hc2 hc3 hc4 hr ha hb
      by_cases hp : x.1 = p ∧ x.2.1 = q
      · have HV := Lib.hid (posE_hit HK.out hxk hp)
        rw [show (decide (x.1 = p) && decide (x.2.1 = q)) = true by rw [decide_eq_true hp.1, decide_eq_true hp.2]; rfl] at hcall
        clear hp hxk
        go_wp2_with (go_at_fn 62; refine hcall.mono ?_; rintro e w1 ⟨rfl, b1⟩)
        go_ret
        exact ⟨ret_int HV.out.symm, Below.next HB.out b1⟩
      · have HN := Lib.hid (atE_next HK.out hxk hp)
        rw [show (decide (x.1 = p) && decide (x.2.1 = q)) = false by
          by_cases h1 : x.1 = p
          · rw [decide_eq_false (fun h2 => hp ⟨h1, h2⟩), Bool.and_false]
          · rw [decide_eq_false h1, Bool.false_and]] at hcall
        clear hp hxk
        go_wp2_with (go_at_fn 62; refine hcall.mono ?_; rintro e w1 ⟨rfl, b1⟩)
        go_roundw
        case rel => exact ⟨k + 1, by omega, by go_num, HN, Below.next HB.out b1⟩
        case measure => simp [intOf]; omega
    · obtain rfl : k = l.length := by omega
      have HV := Lib.hid (posE_none HK.out)
      go_wp2
      go_ret
      exact ⟨ret_int HV.out.symm, hb⟩
set_option maxHeartbeats 2000000 in
set_option maxRecDepth 100000 in
theorem rateAt_any (v : Value) (l : List EI) (p q : ByteArray) (w : World) (hl : l.length ≤ 140737488355328) (h : RdEL w v l) :
    Calls Tryd.prog 41 #[v, .agg #[.string p, .string q]] w (Postn (posE l p q) w) := by
  have hcall := indexE_any v l w.heap.size p q _ hl (h.below (below_al (Below.refl _ _) (.cells #[.string p, .string q] 72))) (box_new w #[.string p, .string q] 72)
  obtain ⟨A, c, rfl, _⟩ := h
  go_enter Tryd.func41, Tryd.ntmps41
  go_wp2_with fail
  refine hcall.mono ?_
  rintro e w1 ⟨rfl, b1⟩
  have bb := Below.next (below_al (Below.refl _ _) _) b1
  go_wp2
  go_ret
  exact ⟨rfl, bb⟩
end Go.Proofs.YtbpfabicampdkaaDoor
