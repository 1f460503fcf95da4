/-
  What spec.l01All, impl.IsDigits, IsWord, IsCode and their spec twins return, as walks over the program.
  Plain facts on texts of decimal digits.
  What TextNat of package spec returns.
  What spec.TextInt and impl.TextInt return: the int whose numeral the text is, if there is one.
  Plain facts: the text of limbs is the decimal numeral of their number; when a text of digits is a numeral.
  What NatDigits and NatText of package impl return.
  What TextNat of package impl returns.
  Chapter 5, signed numbers and their texts, in both packages.
  What spec.CutAt and impl.CutAt return: the same pieces, in a row of new memory.
  Fractions as texts: plain facts on the text of a fraction, and on cutting a text at its first slash.
-/
import Derived.Lib.IndexBytes
import Derived.Deep.RegionLaw
import Derived.Deep.AppendLies
import Derived.Lib.IndexLaws
import Derived.Test.YtkkdlgiilhngcaaGreatDoorJ7
namespace Go.Proofs.YtkkdlgiilhngcaaGreatDoor
open Go.RowKit

/-- one byte in one of two ranges -/
def inTwo (lo hi low high : Nat) (c : UInt8) : Bool := decide ((lo ≤ c.toNat ∧ c.toNat ≤ hi) ∨ (low ≤ c.toNat ∧ c.toNat ≤ high))
/-- every byte from place k on is in one of two ranges -/
def allFrom (s : ByteArray) (lo hi low high k : Nat) : Bool := (s.data.toList.drop k).all (inTwo lo hi low high)

theorem allFrom_step (s : ByteArray) (lo hi low high k : Nat) (h : k < s.size) : allFrom s lo hi low high k = (inTwo lo hi low high s[k] && allFrom s lo hi low high (k + 1)) := by
  unfold allFrom
  rw [List.drop_eq_getElem_cons (by simpa using h)]
  rfl
theorem allFrom_end (s : ByteArray) (lo hi low high k : Nat) (h : ¬ k < s.size) : allFrom s lo hi low high k = true := by
  unfold allFrom
  rw [List.drop_eq_nil_of_le (by simp; omega)]
  rfl

theorem allFrom_yes (s : ByteArray) (lo hi low high k : Nat) (h : k < s.size) (hb : (lo ≤ s[k].toNat ∧ s[k].toNat ≤ hi) ∨ (low ≤ s[k].toNat ∧ s[k].toNat ≤ high)) : allFrom s lo hi low high (k + 1) = allFrom s lo hi low high k := by
  rw [allFrom_step s lo hi low high k h]
  simp [inTwo, hb]
theorem allFrom_no (s : ByteArray) (lo hi low high k : Nat) (h : k < s.size) (hb : ¬ ((lo ≤ s[k].toNat ∧ s[k].toNat ≤ hi) ∨ (low ≤ s[k].toNat ∧ s[k].toNat ≤ high))) : allFrom s lo hi low high k = false := by
  rw [allFrom_step s lo hi low high k h]
  simp [inTwo, hb]

set_option maxHeartbeats 400000 in
set_option maxRecDepth 100000 in
theorem l01All_any (s : ByteArray) (lo hi low high : Nat) (w : World) (hs : s.size ≤ maxLen) :
    Calls Tryz.prog 130 #[.string s, .int .u8 lo, .int .u8 hi, .int .u8 low, .int .u8 high] w fun e w' => e = .returned (.bool (allFrom s lo hi low high 0 && decide (0 < s.size))) ∧ w = w' := by
  unfold maxLen at hs
  go_enter Tryz.func130, Tryz.ntmps130
  go_wp2
  go_loop [11] (fun i => ∃ k : Nat, k ≤ s.size ∧ i = .int .i64 k ∧ Hid (allFrom s lo hi low high k = allFrom s lo hi low high 0)) (fun i => s.size - (intOf i).toNat)
  case atStart => exact ⟨0, Nat.zero_le _, rfl, Lib.hid rfl⟩
  case round =>
    obtain ⟨k, hk, rfl, HA⟩ := hrel
    by_cases hlt : k < s.size
    · go_wp2
      all_goals first
        | (go_round
           case rel => exact ⟨k + 1, by omega, by go_num, Lib.hid ((allFrom_yes s lo hi low high k hlt (by omega)).trans HA.out)⟩
           case measure => simp [intOf]; omega)
        | (go_ret
           exact ⟨by rw [← HA.out, allFrom_no s lo hi low high k hlt (by omega)]; rfl, rfl⟩)
    · go_wp2
      go_ret
      exact ⟨by rw [← HA.out, allFrom_end s lo hi low high k hlt]; simp, rfl⟩

/-- what IsDigits, IsWord and IsCode of the document ask -/
def digitsB (s : ByteArray) : Bool := allFrom s 48 57 48 57 0 && decide (0 < s.size)
def wordB (s : ByteArray) : Bool := allFrom s 97 122 48 57 0 && decide (0 < s.size) && decide (s.size ≤ 12) && decide (97 ≤ (s.data.toList.headD 0).toNat)
def codeB (s : ByteArray) : Bool := allFrom s 65 90 65 90 0 && decide (s.size = 3)

set_option maxHeartbeats 400000 in
set_option maxRecDepth 100000 in
theorem specIsDigits_any (s : ByteArray) (w : World) (hs : s.size ≤ maxLen) :
    Calls Tryz.prog 100 #[.string s] w fun e w' => e = .returned (.bool (digitsB s)) ∧ w = w' := by
  go_enter Tryz.func100, Tryz.ntmps100
  go_wp2_with fail
  refine (l01All_any s 48 57 48 57 _ hs).mono ?_
  rintro e w' ⟨rfl, rfl⟩
  go_wp2
  go_ret
  exact ⟨rfl, rfl⟩

/-- a rune in a range -/
def bet (lo hi r : Int) : Bool := decide (lo ≤ r ∧ r ≤ hi)
theorem bet_yes {lo hi r : Int} (h1 : lo ≤ r) (h2 : r ≤ hi) : bet lo hi r = true := by simp [bet, h1, h2]
theorem bet_no {lo hi r : Int} (h : ¬ (lo ≤ r ∧ r ≤ hi)) : bet lo hi r = false := by simpa [bet] using h

set_option maxHeartbeats 400000 in
set_option maxRecDepth 100000 in
theorem isDigit_any (r : Int) (b : Bool) (w : World) (hb : bet 48 57 r = b) :
    Calls Tryz.prog 116 #[.int .i32 r] w fun e w' => e = .returned (.bool b) ∧ w = w' := by
  subst hb
  go_enter Tryz.func116, Tryz.ntmps116
  go_wp2
  all_goals go_ret
  · exact ⟨by simp [bet, *], rfl⟩
  · exact ⟨by simp [bet]; omega, rfl⟩

/-- a byte that is no ASCII is in no range below 128 -/
theorem allFrom_high (s : ByteArray) (lo hi low high k : Nat) (h : k < s.size) (hh : 128 ≤ s[k].toNat) (h1 : hi < 128) (h2 : high < 128) : allFrom s lo hi low high k = false :=
  allFrom_no s lo hi low high k h (by omega)

theorem isEmpty_size (s : ByteArray) : s.toList.isEmpty = decide (s.size = 0) := by
  rw [ByteArray.toList_eq]
  obtain ⟨⟨l⟩⟩ := s
  cases l with
  | nil => rfl
  | cons a r => simp [ByteArray.size]


theorem fin_digits (s : ByteArray) (h : allFrom s 48 57 48 57 0 = true) : (!s.toList.isEmpty) = digitsB s := by
  rw [isEmpty_size, digitsB, h, Bool.true_and, ← decide_not]
  exact decide_eq_decide.2 (by omega)
theorem no_digits (s : ByteArray) (h : allFrom s 48 57 48 57 0 = false) : false = digitsB s := by rw [digitsB, h]; rfl
theorem int_beq (n k : Nat) : ((n : Int) == (k : Int)) = decide (n = k) := by
  by_cases h : n = k
  · subst h; simp
  · rw [decide_eq_false h, beq_eq_false_iff_ne]; omega
theorem fin_code (s : ByteArray) (h : allFrom s 65 90 65 90 0 = true) : ((s.size : Int) == 3) = codeB s := by
  rw [codeB, h, Bool.true_and]
  exact int_beq s.size 3
theorem no_code (s : ByteArray) (h : allFrom s 65 90 65 90 0 = false) : false = codeB s := by rw [codeB, h]; rfl

set_option maxHeartbeats 400000 in
set_option maxRecDepth 100000 in
theorem implIsDigits_any (s : ByteArray) (w : World) :
    Calls Tryz.prog 81 #[.string s] w fun e w' => e = .returned (.bool (digitsB s)) ∧ Below w.heap.size w w' := by
  go_enter Tryz.func81, Tryz.ntmps81
  go_wp2
  go_loopw [] (fun w' => ∃ pos : Nat, w' = w.iter s pos ∧ Hid (allFrom s 48 57 48 57 pos = allFrom s 48 57 48 57 0)) (fun w' => s.size - w'.iterPos w.heap.size)
  case atStart => exact ⟨0, rfl, Lib.hid rfl⟩
  case round =>
    obtain ⟨pos, rfl, HA⟩ := hrel
    by_cases hp : pos < s.size
    · by_cases ha : (s[pos]'hp).toNat < 128
      · have hnx : ∀ ty, (Instr.next (.pointer (some ⟨w.heap.size, 0, none⟩)) true ty).run Tryz.prog (w.iter s pos) = _ := fun ty => run_next_ascii w s pos ty hp ha
        by_cases hd : 48 ≤ (s[pos]'hp).toNat ∧ (s[pos]'hp).toNat ≤ 57
        · go_wp2_with (go_at_call 116; refine (isDigit_any _ true _ (bet_yes (by omega) (by omega))).mono ?_; rintro e w' ⟨rfl, rfl⟩)
          go_roundw
          case rel => exact ⟨pos + 1, rfl, Lib.hid ((allFrom_yes s 48 57 48 57 pos hp (by omega)).trans HA.out)⟩
          case measure => simp; omega
        · go_wp2_with (go_at_call 116; refine (isDigit_any _ false _ (bet_no (by omega))).mono ?_; rintro e w' ⟨rfl, rfl⟩)
          go_ret
          exact ⟨ret_bool (no_digits s (by rw [← HA.out]; exact allFrom_no s 48 57 48 57 pos hp (by omega))), (Below.refl _ _).alloc (Nat.le_refl _) _⟩
      · have hnx : ∀ ty, (Instr.next (.pointer (some ⟨w.heap.size, 0, none⟩)) true ty).run Tryz.prog (w.iter s pos) = _ := fun ty => run_next_any w s pos ty hp
        have hhi := (decode_high s pos hp (by omega)).1
        go_wp2_with (go_at_call 116; refine (isDigit_any _ false _ (bet_no (by omega))).mono ?_; rintro e w' ⟨rfl, rfl⟩)
        go_ret
        exact ⟨ret_bool (no_digits s (by rw [← HA.out]; exact allFrom_no s 48 57 48 57 pos hp (by omega))), (Below.refl _ _).alloc (Nat.le_refl _) _⟩
    · have hnx : ∀ ty, (Instr.next (.pointer (some ⟨w.heap.size, 0, none⟩)) true ty).run Tryz.prog (w.iter s pos) = _ := fun ty => run_next_end w s pos ty hp
      go_wp2
      go_ret
      exact ⟨ret_bool (fin_digits s (by rw [← HA.out]; exact allFrom_end s 48 57 48 57 pos hp)), (Below.refl _ _).alloc (Nat.le_refl _) _⟩


theorem no_code2 (s : ByteArray) (h : (allFrom s 65 90 65 90 0 && decide (0 < s.size)) = false) : false = codeB s := by
  rcases Bool.and_eq_false_iff.1 h with h | h
  · exact no_code s h
  · have h' := of_decide_eq_false h
    rw [codeB, decide_eq_false (show ¬ s.size = 3 by omega), Bool.and_false]
theorem yes_code2 (s : ByteArray) (h : (allFrom s 65 90 65 90 0 && decide (0 < s.size)) = true) : allFrom s 65 90 65 90 0 = true := (Bool.and_eq_true_iff.1 h).1


theorem head_get (s : ByteArray) (h : 0 < s.size) : s.data.toList.headD 0 = s[0] := by
  obtain ⟨⟨l⟩⟩ := s
  cases l with
  | nil => simp [ByteArray.size] at h
  | cons a r => rfl
theorem no_word_all (s : ByteArray) (h : allFrom s 97 122 48 57 0 = false) : false = wordB s := by simp [wordB, h]
theorem no_word_two (s : ByteArray) (h : (allFrom s 97 122 48 57 0 && decide (0 < s.size)) = false) : false = wordB s := by simp only [wordB, h, Bool.false_and]
theorem no_word_len (s : ByteArray) (h : ¬ s.size ≤ 12) : false = wordB s := by simp [wordB, h]
theorem no_word_nil (s : ByteArray) (h : ¬ 0 < s.size) : false = wordB s := by simp [wordB, h]
theorem no_word_head (s : ByteArray) (h0 : 0 < s.size) (h : ¬ 97 ≤ s[0].toNat) : false = wordB s := by
  rw [wordB, head_get s h0, decide_eq_false h, Bool.and_false]
theorem word_head (s : ByteArray) (h0 : 0 < s.size) (h1 : s.size ≤ 12) (h : allFrom s 97 122 48 57 0 = true) : decide (97 ≤ s[0].toNat) = wordB s := by
  rw [wordB, head_get s h0, h, decide_eq_true h0, decide_eq_true h1]
  simp
theorem word_head' (s : ByteArray) (h0 : 0 < s.size) (h1 : s.size ≤ 12) (h : allFrom s 97 122 48 57 0 = true) : decide ((97 : Int) ≤ (s[0].toNat : Int)) = wordB s := by
  rw [← word_head s h0 h1 h]
  exact decide_eq_decide.2 (by omega)
theorem yes_word (s : ByteArray) (h0 : 0 < s.size) (h1 : s.size ≤ 12) (h : allFrom s 97 122 48 57 0 = true) (hh : 97 ≤ s[0].toNat) : true = wordB s := by
  rw [← word_head s h0 h1 h, decide_eq_true hh]


end Go.Proofs.YtkkdlgiilhngcaaGreatDoor

namespace Go.Proofs.YtkkdlgiilhngcaaGreatDoor
open Go.RowKit

/-- the number that digits spell -/
def valL : List UInt8 → Int := List.foldl (fun a c => a * 10 + ((c.toNat : Int) - 48)) 0
theorem valL_snoc (l : List UInt8) (c : UInt8) : valL (l ++ [c]) = valL l * 10 + ((c.toNat : Int) - 48) := by
  unfold valL
  rw [List.foldl_append]
  rfl
/-- all are digits -/
def DigL (l : List UInt8) : Prop := ∀ c ∈ l, 48 ≤ c.toNat ∧ c.toNat ≤ 57
theorem fold_ge (l : List UInt8) : ∀ a : Int, DigL l → 0 ≤ a → a ≤ List.foldl (fun a c => a * 10 + ((c.toNat : Int) - 48)) a l := by
  induction l with
  | nil => intro a _ _; exact Int.le_refl _
  | cons c l ih =>
    intro a h h0
    have hc := h c (by simp)
    have h1 := ih (a * 10 + ((c.toNat : Int) - 48)) (fun x hx => h x (by simp [hx])) (by omega)
    rw [List.foldl_cons]
    omega
theorem valL_nonneg (l : List UInt8) (h : DigL l) : 0 ≤ valL l := fold_ge l 0 h (Int.le_refl _)
theorem valL_mono (l r : List UInt8) (h : DigL (l ++ r)) : valL l ≤ valL (l ++ r) := by
  have h0 := valL_nonneg l (fun x hx => h x (by simp [hx]))
  have h1 := fold_ge r (valL l) (fun x hx => h x (by simp [hx])) h0
  unfold valL at h1 ⊢
  rw [List.foldl_append]
  exact h1
theorem allFrom_dig (s : ByteArray) : allFrom s 48 57 48 57 0 = true ↔ DigL s.data.toList := by
  unfold allFrom DigL
  rw [List.drop_zero, List.all_eq_true]
  constructor
  · intro h c hc
    have := h c hc
    simp [inTwo] at this
    omega
  · intro h c hc
    have := h c hc
    simp [inTwo]
    omega
theorem digitsB_iff (s : ByteArray) : digitsB s = true ↔ DigL s.data.toList ∧ s.data.toList ≠ [] := by
  unfold digitsB
  rw [Bool.and_eq_true, allFrom_dig, decide_eq_true_eq]
  constructor
  · intro ⟨h1, h2⟩
    exact ⟨h1, fun e => by have : s.data.toList.length = s.size := rfl; rw [e] at this; simp at this; omega⟩
  · intro ⟨h1, h2⟩
    refine ⟨h1, ?_⟩
    have : s.data.toList.length = s.size := rfl
    have := List.length_pos_iff.2 h2
    omega

theorem take_val (s : ByteArray) (k : Nat) (h : k < s.size) : valL (s.data.toList.take (k + 1)) = valL (s.data.toList.take k) * 10 + ((s[k].toNat : Int) - 48) := by
  rw [List.take_succ_eq_append_getElem (by simpa using h), valL_snoc]
  rfl
theorem dig_at (s : ByteArray) (k : Nat) (h : k < s.size) (hd : DigL s.data.toList) : 48 ≤ s[k].toNat ∧ s[k].toNat ≤ 57 := hd _ (by simp [ByteArray.getElem_eq_getElem_data])
end Go.Proofs.YtkkdlgiilhngcaaGreatDoor

namespace Go.Proofs.YtkkdlgiilhngcaaGreatDoor
open Go.RowKit

theorem fold_lt (l : List UInt8) : ∀ a : Int, DigL l → 0 ≤ a → List.foldl (fun a c => a * 10 + ((c.toNat : Int) - 48)) a l + 1 ≤ (a + 1) * 10 ^ l.length := by
  induction l with
  | nil => intro a _ _; simp
  | cons c l ih =>
    intro a h h0
    have hc := h c (by simp)
    have h1 := ih (a * 10 + ((c.toNat : Int) - 48)) (fun x hx => h x (by simp [hx])) (by omega)
    have hp : (0 : Int) ≤ 10 ^ l.length := Int.le_of_lt (Int.pow_pos (by omega))
    have h2 : (a * 10 + ((c.toNat : Int) - 48) + 1) * 10 ^ l.length ≤ ((a + 1) * 10) * 10 ^ l.length := Int.mul_le_mul_of_nonneg_right (by omega) hp
    rw [List.foldl_cons, List.length_cons, Int.pow_succ, Int.mul_comm (10 ^ l.length) 10, ← Int.mul_assoc]
    omega
theorem valL_nine (l : List UInt8) (h : DigL l) (hl : l.length ≤ 9) : valL l ≤ 999999999 := by
  have h1 := fold_lt l 0 h (by omega)
  have h2 : (10 : Int) ^ l.length ≤ 10 ^ 9 := by
    have : (10 : Nat) ^ l.length ≤ 10 ^ 9 := Nat.pow_le_pow_right (by omega) hl
    exact_mod_cast this
  unfold valL
  omega
theorem fold_app (l : List UInt8) : ∀ a : Int, List.foldl (fun a c => a * 10 + ((c.toNat : Int) - 48)) a l = a * 10 ^ l.length + valL l := by
  induction l with
  | nil => intro a; simp [valL]
  | cons c l ih =>
    intro a
    have e : valL (c :: l) = ((c.toNat : Int) - 48) * 10 ^ l.length + valL l := by
      show List.foldl _ (0 * 10 + ((c.toNat : Int) - 48)) l = _
      rw [ih, Int.zero_mul, Int.zero_add]
    rw [List.foldl_cons, ih, e, Int.add_mul, List.length_cons, Int.pow_succ, Int.mul_comm (10 ^ l.length) 10, Int.mul_assoc]
    omega
theorem valL_app (x g : List UInt8) : valL (x ++ g) = valL x * 10 ^ g.length + valL g := by
  show List.foldl _ 0 (x ++ g) = _
  rw [List.foldl_append, fold_app]
  rfl
/-- nine digits at once, from the end -/
def groups (l : List UInt8) (e : Nat) : List Int := if h : e = 0 then [] else valL ((l.take e).drop (e - 9)) :: groups l (e - 9)
termination_by e
decreasing_by omega
theorem groups_zero (l : List UInt8) : groups l 0 = [] := by rw [groups, dif_pos rfl]
theorem groups_pos (l : List UInt8) (e : Nat) (h : e ≠ 0) : groups l e = valL ((l.take e).drop (e - 9)) :: groups l (e - 9) := by rw [groups, dif_neg h]
theorem dig_part (l : List UInt8) (h : DigL l) (a b : Nat) : DigL ((l.take a).drop b) := fun c hc => h c (List.mem_of_mem_take (List.mem_of_mem_drop hc))
theorem groups_val (l : List UInt8) (h : DigL l) (e : Nat) : e ≤ l.length → nval (groups l e) = valL (l.take e) ∧ DigN (groups l e) ∧ (groups l e).length ≤ e := by
  induction e using Nat.strongRecOn with
  | _ e ih =>
    intro he
    by_cases h0 : e = 0
    · subst h0
      rw [groups_zero]
      exact ⟨by simp [nval, valL], (fun x hx => by cases hx), Nat.le_refl _⟩
    · rw [groups_pos l e h0]
      obtain ⟨i1, i2, i3⟩ := ih (e - 9) (by omega) (by omega)
      have hlen : ((l.take e).drop (e - 9)).length = e - (e - 9) := by rw [List.length_drop, List.length_take]; omega
      have hd := dig_part l h e (e - 9)
      have hv := valL_nine _ hd (by omega)
      have hn := valL_nonneg _ hd
      refine ⟨?_, DigN.cons hn hv i2, by simp; omega⟩
      show valL _ + 1000000000 * nval (groups l (e - 9)) = _
      rw [i1]
      have hsplit : l.take e = l.take (e - 9) ++ (l.take e).drop (e - 9) := by
        have h1 := (List.take_append_drop (e - 9) (l.take e)).symm
        rwa [List.take_take, show min (e - 9) e = e - 9 from by omega] at h1
      by_cases h9 : 9 ≤ e
      · conv => rhs; rw [hsplit, valL_app, hlen, show e - (e - 9) = 9 from by omega]
        omega
      · rw [show e - 9 = 0 from by omega]
        simp [valL]
theorem part_step (s : ByteArray) (i from_ : Nat) (h : i < s.size) (hf : from_ ≤ i) : valL ((s.data.toList.take (i + 1)).drop from_) = valL ((s.data.toList.take i).drop from_) * 10 + (s[i].toNat : Int) - 48 := by
  rw [List.take_succ_eq_append_getElem (by simpa using h), List.drop_append_of_le_length (by rw [List.length_take]; simp; omega), valL_snoc]
  show _ * 10 + ((s[i].toNat : Int) - 48) = _
  omega

/-- is s the decimal notation of a nat -/
def decOk (s : ByteArray) : Bool := digitsB s && decide (s.size ≤ 450) && !(decide (1 < s.size) && decide (s.data.toList.headD 0 = 48))
def TNPost (s : ByteArray) (w : World) (e : Ending) (w' : World) : Prop :=
  Below w.heap.size w w' ∧ ((decOk s = true ∧ ∃ v, e = .returned (.tuple #[v, .bool true]) ∧ w'.ownsRow w.heap.size 3 1 v (limbs (valL s.data.toList).toNat).length (intsV (limbs (valL s.data.toList).toNat))) ∨
    (decOk s = false ∧ e = .returned (.tuple #[.slice none 0 0, .bool false])))

/-- what the outer loop of TextNat knows at its head -/
def TextRel (s : ByteArray) (w : World) (v e : Value) (wr : World) : Prop :=
  ∃ (en : Int) (out : List Int), -9 ≤ en ∧ en ≤ s.size ∧ e = .int .i64 en ∧ out ++ groups s.data.toList en.toNat = groups s.data.toList s.size ∧
    wr.ownsRow w.heap.size 3 1 v out.length (intsV out) ∧ Below w.heap.size w wr
theorem text_step {s : ByteArray} {w w1 : World} {v1 : Value} {out : List Int} {m : Int} {k : Nat} (hk : k ≤ s.size) (h0 : 0 < k) (e : out ++ [m] ++ groups s.data.toList (k - 9) = groups s.data.toList s.size)
    (ho : w1.ownsRow w.heap.size 3 1 v1 (out.length + 1) (intsV out ++ [.int .i64 m])) (hb : Below w.heap.size w w1) : TextRel s w v1 (.int .i64 ((k : Int) - 9)) w1 := by
  refine ⟨(k : Int) - 9, out ++ [m], by omega, by omega, rfl, ?_, by simpa [intsV] using ho, hb⟩
  rw [show ((k : Int) - 9).toNat = k - 9 from by omega]
  exact e
theorem take_full (t : ByteArray) : t.data.toList.take t.size = t.data.toList := List.take_of_length_le (Nat.le_refl _)

set_option maxHeartbeats 4000000 in
set_option maxRecDepth 100000 in
theorem specTextNat_goodMany (s : ByteArray) (w : World) (h0 : 0 < s.size) (h450 : s.size ≤ 450) (hd : digitsB s = true) (h1 : 1 < s.size) (hlead : ¬ s[0].toNat = 48) (hok : decOk s = true) :
    Calls Tryz.prog 64 #[.string s] w (TNPost s w) := by
    obtain ⟨i0, hi, hz0, hz1, hz2⟩ := info_parts intInfo
    have HD := Lib.hid ((digitsB_iff s).1 hd).1
    have HOK := Lib.hid hok
    clear hok
    have HM := Lib.hid (fun W : World => specIsDigits_any s W (by unfold maxLen; omega))
    have hb48 : ((s[0].toNat : Int) == 48) = false := by rw [beq_eq_false_iff_ne]; omega
    clear hlead
    go_enter Tryz.func64, Tryz.ntmps64
    go_wp2_with fail
    refine (HM.out _).mono ?_
    rintro e w' ⟨rfl, rfl⟩
    rw [hd]
    go_wp2
    go_loopw [4, 5] (fun v e wr => TextRel s w v e wr) (fun _ e _ => (intOf e).toNat)
    case atStart => exact ⟨s.size, [], by omega, Int.le_refl _, rfl, rfl, ⟨rfl, .inr ⟨w.heap.size, 0, #[], rfl, Nat.le_refl _, heap_alloc_new w _, Nat.le_refl _, Nat.zero_le _, rfl, rfl⟩⟩, (Below.refl _ _).alloc (Nat.le_refl _) _⟩
    case round =>
      obtain ⟨e, out, he0, he1, rfl, hev, hown, hb1⟩ := hrel
      obtain ⟨wo, rfl⟩ : ∃ wo : World, wo = wr := ⟨_, rfl⟩
      have HE := Lib.hid hev
      have hol : out.length ≤ 450 := by
        have e1 := congrArg List.length hev
        have e2 := (groups_val s.data.toList HD.out s.size (Nat.le_refl _)).2.2
        rw [List.length_append] at e1
        omega
      clear hev
      by_cases hpos : 0 < e
      · obtain ⟨en, rfl⟩ := Int.eq_ofNat_of_zero_le (show 0 ≤ e by omega)
        have HG : Hid (out ++ valL ((s.data.toList.take en).drop (en - 9)) :: groups s.data.toList (en - 9) = groups s.data.toList s.size) := Lib.hid (by have e1 := HE.out; rw [Int.toNat_natCast, groups_pos _ en (by omega)] at e1; exact e1)
        by_cases h9 : (en : Int) - 9 < 0
        · have hfrom : en - 9 = 0 := by omega
          have hen : en ≤ s.size := by omega
          go_wp2
          go_loop [7, 8] (fun n i => ∃ (k : Nat) (m : Int), 0 ≤ k ∧ k ≤ en ∧ i = .int .i64 k ∧ n = .int .i64 m ∧ 0 ≤ m ∧ m ≤ 999999999 ∧ Hid (m = valL ((s.data.toList.take k).drop 0))) (fun _ i => en - (intOf i).toNat)
          case atStart => exact ⟨0, 0, Nat.le_refl _, by omega, rfl, rfl, by omega, by omega, Lib.hid (by rw [List.drop_of_length_le (by rw [List.length_take]; omega)]; rfl)⟩
          case round =>
            obtain ⟨k, m, hk0, hk1, rfl, rfl, hm0, hm1, HM⟩ := hrel
            by_cases hlt : k < en
            · have hks : k < s.size := by omega
              have hdg := dig_at s k hks HD.out
              have HP := Lib.hid (part_step s k 0 hks hk0)
              have hmb : m * 10 + (s[k].toNat : Int) - 48 ≤ 999999999 ∧ 0 ≤ m * 10 + (s[k].toNat : Int) - 48 := by
                have h1 := valL_nine ((s.data.toList.take (k + 1)).drop 0) (dig_part _ HD.out _ _) (by rw [List.length_drop, List.length_take]; omega)
                have h2 := HP.out
                have h3 := HM.out
                omega
              go_wp2
              go_round
              case rel => exact ⟨k + 1, m * 10 + (s[k].toNat : Int) - 48, by omega, by omega, by go_num, rfl, hmb.2, hmb.1, Lib.hid (by rw [HP.out, HM.out])⟩
              case measure => simp [intOf]; omega
            · obtain rfl : k = en := by omega
              have HG2 : Hid (out ++ [m] ++ groups s.data.toList (k - 9) = groups s.data.toList s.size) := Lib.hid (by rw [List.append_assoc, HM.out, ← HG.out, hfrom]; rfl)
              go_wp2_with (at_builtin; refine wpList_append_own _ rfl (.tmp 52) (.tmp 54) 23 rfl w.heap.size 3 i0 (.int .i64 0) 1 8 Tryz.underlying23 hi hz0 hz1 hz2 rfl (by decide) _ _ _ rfl (own_alloc hown _) ⟨wo.heap.size, 0, none⟩ 1 1 [.int .i64 m] rfl rfl (one_new _ _ _) ?c2 ?c3 ?c4 ?c5 ?_)
              case c2 => first | (intro u hu; simp at hu; subst hu; rfl) | rfl
              case c3 => unfold maxLen; omega
              case c4 => omega
              case c5 => have := hb1.size; simp; omega
              intro v1 w1 hown1 hg1 _
              have hb2 := below_push hb1 (Nat.le_refl _) hown hg1
              go_wp2
              exact ⟨text_step (by omega) (by omega) HG2.out hown1 hb2, by simp [intOf]; omega⟩
        · obtain ⟨fr, Hfr⟩ : ∃ fr : Nat, Hid (fr = en - 9) := ⟨_, Lib.hid rfl⟩
          have hfr9 : (en : Int) - 9 = (fr : Int) := by have := Hfr.out; omega
          have hfre : fr + 9 = en := by have := Hfr.out; omega
          have hen : en ≤ s.size := by omega
          go_wp2
          go_loop [7, 8] (fun n i => ∃ (k : Nat) (m : Int), fr ≤ k ∧ k ≤ en ∧ i = .int .i64 k ∧ n = .int .i64 m ∧ 0 ≤ m ∧ m ≤ 999999999 ∧ Hid (m = valL ((s.data.toList.take k).drop fr))) (fun _ i => en - (intOf i).toNat)
          case atStart => exact ⟨fr, 0, Nat.le_refl _, by omega, rfl, rfl, by omega, by omega, Lib.hid (by rw [List.drop_of_length_le (by rw [List.length_take]; omega)]; rfl)⟩
          case round =>
            obtain ⟨k, m, hk0, hk1, rfl, rfl, hm0, hm1, HM⟩ := hrel
            by_cases hlt : k < en
            · have hks : k < s.size := by omega
              have hdg := dig_at s k hks HD.out
              have HP := Lib.hid (part_step s k fr hks hk0)
              have hmb : m * 10 + (s[k].toNat : Int) - 48 ≤ 999999999 ∧ 0 ≤ m * 10 + (s[k].toNat : Int) - 48 := by
                have h1 := valL_nine ((s.data.toList.take (k + 1)).drop fr) (dig_part _ HD.out _ _) (by rw [List.length_drop, List.length_take]; omega)
                have h2 := HP.out
                have h3 := HM.out
                omega
              go_wp2
              go_round
              case rel => exact ⟨k + 1, m * 10 + (s[k].toNat : Int) - 48, by omega, by omega, by go_num, rfl, hmb.2, hmb.1, Lib.hid (by rw [HP.out, HM.out])⟩
              case measure => simp [intOf]; omega
            · obtain rfl : k = en := by omega
              have HG2 : Hid (out ++ [m] ++ groups s.data.toList (k - 9) = groups s.data.toList s.size) := Lib.hid (by rw [List.append_assoc, HM.out, ← HG.out, Hfr.out]; rfl)
              go_wp2_with (at_builtin; refine wpList_append_own _ rfl (.tmp 52) (.tmp 54) 23 rfl w.heap.size 3 i0 (.int .i64 0) 1 8 Tryz.underlying23 hi hz0 hz1 hz2 rfl (by decide) _ _ _ rfl (own_alloc hown _) ⟨wo.heap.size, 0, none⟩ 1 1 [.int .i64 m] rfl rfl (one_new _ _ _) ?c2 ?c3 ?c4 ?c5 ?_)
              case c2 => first | (intro u hu; simp at hu; subst hu; rfl) | rfl
              case c3 => unfold maxLen; omega
              case c4 => omega
              case c5 => have := hb1.size; simp; omega
              intro v1 w1 hown1 hg1 _
              have hb2 := below_push hb1 (Nat.le_refl _) hown hg1
              go_wp2
              exact ⟨(by have h := text_step (by omega) (by omega) HG2.out hown1 hb2; rwa [hfr9] at h), by simp [intOf]; omega⟩
      · have HF : Hid (out = groups s.data.toList s.size) := Lib.hid (by have e1 := HE.out; rwa [show e.toNat = 0 from by omega, groups_zero, List.append_nil] at e1)
        have hv := groups_val s.data.toList HD.out s.size (Nat.le_refl _)
        rw [take_full] at hv
        have HT : Hid (trimL out = limbs (valL s.data.toList).toNat) := Lib.hid (by rw [HF.out, trim_limbs _ hv.2.1, hv.1])
        clear hv
        go_wp2_with fail
        refine (specTrim_any _ out _ _ (by omega) hown).mono ?_
        rintro e w' ⟨rfl, v2, rfl, o2⟩
        rw [HT.out] at o2
        go_wp2
        go_ret2
        exact ⟨hb1, .inl ⟨HOK.out, v2, rfl, o2⟩⟩
set_option maxHeartbeats 4000000 in
set_option maxRecDepth 100000 in
theorem specTextNat_goodOne (s : ByteArray) (w : World) (h0 : 0 < s.size) (h450 : s.size ≤ 450) (hd : digitsB s = true) (h1 : ¬ 1 < s.size) (hok : decOk s = true) :
    Calls Tryz.prog 64 #[.string s] w (TNPost s w) := by
    obtain ⟨i0, hi, hz0, hz1, hz2⟩ := info_parts intInfo
    have HD := Lib.hid ((digitsB_iff s).1 hd).1
    have HOK := Lib.hid hok
    clear hok
    have HM := Lib.hid (fun W : World => specIsDigits_any s W (by unfold maxLen; omega))
    go_enter Tryz.func64, Tryz.ntmps64
    go_wp2_with fail
    refine (HM.out _).mono ?_
    rintro e w' ⟨rfl, rfl⟩
    rw [hd]
    go_wp2
    go_loopw [4, 5] (fun v e wr => TextRel s w v e wr) (fun _ e _ => (intOf e).toNat)
    case atStart => exact ⟨s.size, [], by omega, Int.le_refl _, rfl, rfl, ⟨rfl, .inr ⟨w.heap.size, 0, #[], rfl, Nat.le_refl _, heap_alloc_new w _, Nat.le_refl _, Nat.zero_le _, rfl, rfl⟩⟩, (Below.refl _ _).alloc (Nat.le_refl _) _⟩
    case round =>
      obtain ⟨e, out, he0, he1, rfl, hev, hown, hb1⟩ := hrel
      obtain ⟨wo, rfl⟩ : ∃ wo : World, wo = wr := ⟨_, rfl⟩
      have HE := Lib.hid hev
      have hol : out.length ≤ 450 := by
        have e1 := congrArg List.length hev
        have e2 := (groups_val s.data.toList HD.out s.size (Nat.le_refl _)).2.2
        rw [List.length_append] at e1
        omega
      clear hev
      by_cases hpos : 0 < e
      · obtain ⟨en, rfl⟩ := Int.eq_ofNat_of_zero_le (show 0 ≤ e by omega)
        have HG : Hid (out ++ valL ((s.data.toList.take en).drop (en - 9)) :: groups s.data.toList (en - 9) = groups s.data.toList s.size) := Lib.hid (by have e1 := HE.out; rw [Int.toNat_natCast, groups_pos _ en (by omega)] at e1; exact e1)
        by_cases h9 : (en : Int) - 9 < 0
        · have hfrom : en - 9 = 0 := by omega
          have hen : en ≤ s.size := by omega
          go_wp2
          go_loop [7, 8] (fun n i => ∃ (k : Nat) (m : Int), 0 ≤ k ∧ k ≤ en ∧ i = .int .i64 k ∧ n = .int .i64 m ∧ 0 ≤ m ∧ m ≤ 999999999 ∧ Hid (m = valL ((s.data.toList.take k).drop 0))) (fun _ i => en - (intOf i).toNat)
          case atStart => exact ⟨0, 0, Nat.le_refl _, by omega, rfl, rfl, by omega, by omega, Lib.hid (by rw [List.drop_of_length_le (by rw [List.length_take]; omega)]; rfl)⟩
          case round =>
            obtain ⟨k, m, hk0, hk1, rfl, rfl, hm0, hm1, HM⟩ := hrel
            by_cases hlt : k < en
            · have hks : k < s.size := by omega
              have hdg := dig_at s k hks HD.out
              have HP := Lib.hid (part_step s k 0 hks hk0)
              have hmb : m * 10 + (s[k].toNat : Int) - 48 ≤ 999999999 ∧ 0 ≤ m * 10 + (s[k].toNat : Int) - 48 := by
                have h1 := valL_nine ((s.data.toList.take (k + 1)).drop 0) (dig_part _ HD.out _ _) (by rw [List.length_drop, List.length_take]; omega)
                have h2 := HP.out
                have h3 := HM.out
                omega
              go_wp2
              go_round
              case rel => exact ⟨k + 1, m * 10 + (s[k].toNat : Int) - 48, by omega, by omega, by go_num, rfl, hmb.2, hmb.1, Lib.hid (by rw [HP.out, HM.out])⟩
              case measure => simp [intOf]; omega
            · obtain rfl : k = en := by omega
              have HG2 : Hid (out ++ [m] ++ groups s.data.toList (k - 9) = groups s.data.toList s.size) := Lib.hid (by rw [List.append_assoc, HM.out, ← HG.out, hfrom]; rfl)
              go_wp2_with (at_builtin; refine wpList_append_own _ rfl (.tmp 52) (.tmp 54) 23 rfl w.heap.size 3 i0 (.int .i64 0) 1 8 Tryz.underlying23 hi hz0 hz1 hz2 rfl (by decide) _ _ _ rfl (own_alloc hown _) ⟨wo.heap.size, 0, none⟩ 1 1 [.int .i64 m] rfl rfl (one_new _ _ _) ?c2 ?c3 ?c4 ?c5 ?_)
              case c2 => first | (intro u hu; simp at hu; subst hu; rfl) | rfl
              case c3 => unfold maxLen; omega
              case c4 => omega
              case c5 => have := hb1.size; simp; omega
              intro v1 w1 hown1 hg1 _
              have hb2 := below_push hb1 (Nat.le_refl _) hown hg1
              go_wp2
              exact ⟨text_step (by omega) (by omega) HG2.out hown1 hb2, by simp [intOf]; omega⟩
        · exfalso; omega
      · have HF : Hid (out = groups s.data.toList s.size) := Lib.hid (by have e1 := HE.out; rwa [show e.toNat = 0 from by omega, groups_zero, List.append_nil] at e1)
        have hv := groups_val s.data.toList HD.out s.size (Nat.le_refl _)
        rw [take_full] at hv
        have HT : Hid (trimL out = limbs (valL s.data.toList).toNat) := Lib.hid (by rw [HF.out, trim_limbs _ hv.2.1, hv.1])
        clear hv
        go_wp2_with fail
        refine (specTrim_any _ out _ _ (by omega) hown).mono ?_
        rintro e w' ⟨rfl, v2, rfl, o2⟩
        rw [HT.out] at o2
        go_wp2
        go_ret2
        exact ⟨hb1, .inl ⟨HOK.out, v2, rfl, o2⟩⟩

theorem decOk_long (s : ByteArray) (h : ¬ s.size ≤ 450) : decOk s = false := by unfold decOk; rw [decide_eq_false h, Bool.and_false, Bool.false_and]
theorem decOk_dig (s : ByteArray) (h : digitsB s = false) : decOk s = false := by unfold decOk; rw [h, Bool.false_and, Bool.false_and]
theorem decOk_lead (s : ByteArray) (h1 : 1 < s.size) (h : s[0].toNat = 48) : decOk s = false := by
  have e : s.data.toList.headD 0 = 48 := by rw [head_get s (by omega)]; exact UInt8.toNat_inj.1 h
  unfold decOk
  rw [decide_eq_true h1, decide_eq_true e]
  simp
theorem decOk_yes (s : ByteArray) (hd : digitsB s = true) (h4 : s.size ≤ 450) (hl : ∀ h0 : 0 < s.size, ¬ (1 < s.size ∧ s[0].toNat = 48)) (h0 : 0 < s.size) : decOk s = true := by
  unfold decOk
  rw [hd, decide_eq_true h4]
  by_cases h1 : 1 < s.size
  · have e : ¬ s.data.toList.headD 0 = 48 := by
      rw [head_get s h0]
      intro e
      exact hl h0 ⟨h1, by rw [e]; rfl⟩
    rw [decide_eq_false e, Bool.and_false]
    rfl
  · rw [decide_eq_false h1]
    rfl

set_option maxHeartbeats 400000 in
set_option maxRecDepth 100000 in
theorem specTextNat_bad (s : ByteArray) (w : World) (hs : s.size ≤ 1048576) (hbad : decOk s = false) (hc : digitsB s = false ∨ (digitsB s = true ∧ 450 < s.size) ∨ (digitsB s = true ∧ s.size ≤ 450 ∧ ∃ h1 : 1 < s.size, s[0].toNat = 48)) :
    Calls Tryz.prog 64 #[.string s] w (TNPost s w) := by
  have HB := Lib.hid hbad
  have HM := Lib.hid (fun W : World => specIsDigits_any s W (by unfold maxLen; omega))
  clear hbad
  rcases hc with hd | ⟨hd, hl⟩ | ⟨hd, hl, h1, h48⟩
  · go_enter Tryz.func64, Tryz.ntmps64
    go_wp2_with fail
    refine (HM.out _).mono ?_
    rintro e w' ⟨rfl, rfl⟩
    rw [hd]
    go_wp2
    go_ret2
    exact ⟨Below.refl _ _, .inr ⟨HB.out, rfl⟩⟩
  · go_enter Tryz.func64, Tryz.ntmps64
    go_wp2_with fail
    refine (HM.out _).mono ?_
    rintro e w' ⟨rfl, rfl⟩
    rw [hd]
    go_wp2
    go_ret2
    exact ⟨Below.refl _ _, .inr ⟨HB.out, rfl⟩⟩
  · have hb48 : ((s[0].toNat : Int) == 48) = true := by rw [beq_iff_eq]; omega
    clear h48
    go_enter Tryz.func64, Tryz.ntmps64
    go_wp2_with fail
    refine (HM.out _).mono ?_
    rintro e w' ⟨rfl, rfl⟩
    rw [hd]
    go_wp2
    go_ret2
    exact ⟨Below.refl _ _, .inr ⟨HB.out, rfl⟩⟩

theorem specTextNat_any (s : ByteArray) (w : World) (hs : s.size ≤ 1048576) : Calls Tryz.prog 64 #[.string s] w (TNPost s w) := by
  by_cases hd : digitsB s = true
  · have h0 : 0 < s.size := by
      have h := ((digitsB_iff s).1 hd).2
      exact List.length_pos_iff.2 h
    by_cases h4 : s.size ≤ 450
    · by_cases h1 : 1 < s.size
      · by_cases h48 : s[0].toNat = 48
        · exact specTextNat_bad s w hs (decOk_lead s h1 h48) (.inr (.inr ⟨hd, h4, h1, h48⟩))
        · exact specTextNat_goodMany s w h0 h4 hd h1 h48 (decOk_yes s hd h4 (fun _ h => h48 h.2) h0)
      · exact specTextNat_goodOne s w h0 h4 hd h1 (decOk_yes s hd h4 (fun _ h => h1 h.1) h0)
    · exact specTextNat_bad s w hs (decOk_long s h4) (.inr (.inl ⟨hd, by omega⟩))
  · have hd' : digitsB s = false := by simpa using hd
    exact specTextNat_bad s w hs (decOk_dig s hd') (.inl hd')

theorem limbs_len (k : Nat) : ∀ n : Nat, n < 1000000000 ^ k → (limbs n).length ≤ k := by
  induction k with
  | zero => intro n h; rw [show n = 0 by simp at h; exact h, limbs_none]; simp
  | succ k ih =>
    intro n h
    by_cases h0 : n = 0
    · rw [h0, limbs_none]; simp
    · rw [limbs_pos n h0, List.length_cons]
      have := ih (n / 1000000000) (by rw [Nat.pow_succ] at h; exact Nat.div_lt_of_lt_mul (by rw [Nat.mul_comm]; exact h))
      omega
theorem limbs_of_len (n : Int) (h : n ≤ 9223372036854775807) : (limbs n.toNat).length ≤ 3 := limbs_len 3 _ (by
  have : n.toNat ≤ 9223372036854775807 := by omega
  exact Nat.lt_of_le_of_lt this (by decide))
theorem trimL_le (xs : List Int) : (trimL xs).length ≤ xs.length := by
  induction xs with
  | nil => simp [trimL]
  | cons d r ih => unfold trimL; split <;> simp <;> omega
/-- what TextNat answers -/
def tnR (s : ByteArray) : List Int := if decOk s = true then limbs (valL s.data.toList).toNat else []
theorem tnR_len (s : ByteArray) : (tnR s).length ≤ 450 := by
  unfold tnR
  split
  · rename_i h
    have hd : digitsB s = true := by
      by_cases hd : digitsB s = true
      · exact hd
      · rw [decOk_dig s (by simpa using hd)] at h; exact absurd h (by decide)
    have h4 : s.size ≤ 450 := by
      by_cases h4 : s.size ≤ 450
      · exact h4
      · rw [decOk_long s h4] at h; exact absurd h (by decide)
    have hv := groups_val s.data.toList ((digitsB_iff s).1 hd).1 s.size (Nat.le_refl _)
    rw [take_full] at hv
    rw [← hv.1, ← trim_limbs _ hv.2.1]
    exact Nat.le_trans (trimL_le _) (Nat.le_trans hv.2.2 h4)
  · simp
/-- how TextNat ends: a new row, and whether the text is a number -/
def TNNew (s : ByteArray) (w : World) (e : Ending) (w' : World) : Prop :=
  ∃ v, e = .returned (.tuple #[v, .bool (decOk s)]) ∧ w'.ownsRow w.heap.size 3 1 v (tnR s).length (intsV (tnR s)) ∧ Below w.heap.size w w'
theorem TNPost.new {s : ByteArray} {w w' : World} {e : Ending} (h : TNPost s w e w') : TNNew s w e w' := by
  obtain ⟨hb, ⟨ho, v, rfl, hv⟩ | ⟨ho, rfl⟩⟩ := h
  · refine ⟨v, by rw [ho], ?_, hb⟩
    rw [show tnR s = limbs (valL s.data.toList).toNat by unfold tnR; rw [if_pos ho]]
    exact hv
  · refine ⟨_, by rw [ho], ?_, hb⟩
    rw [show tnR s = [] by unfold tnR; rw [ho]; rfl]
    exact nil_own
end Go.Proofs.YtkkdlgiilhngcaaGreatDoor

namespace Go.Proofs.YtkkdlgiilhngcaaGreatDoor
open Go.RowKit

theorem valL_dec (u : Nat) : valL (Lib.decDigits u) = u := by
  induction u using Nat.strongRecOn with
  | _ u ih =>
    by_cases h : u < 10
    · rw [dec_small u h]
      show (0 : Int) * 10 + (((UInt8.ofNat (48 + u)).toNat : Int) - 48) = u
      rw [UInt8.toNat_ofNat']
      omega
    · rw [dec_big u h, valL_snoc, ih (u / 10) (by omega), UInt8.toNat_ofNat']
      omega
theorem dig_dec (u : Nat) : DigL (Lib.decDigits u) ∧ Lib.decDigits u ≠ [] := by
  induction u using Nat.strongRecOn with
  | _ u ih =>
    by_cases h : u < 10
    · rw [dec_small u h]
      refine ⟨fun c hc => ?_, by simp⟩
      rw [List.mem_singleton.1 hc, UInt8.toNat_ofNat']
      omega
    · rw [dec_big u h]
      refine ⟨fun c hc => ?_, by simp⟩
      rcases List.mem_append.1 hc with hc | hc
      · exact (ih (u / 10) (by omega)).1 c hc
      · rw [List.mem_singleton.1 hc, UInt8.toNat_ofNat']
        omega
/-- s is the numeral of the int n -/
def IsNum (s : ByteArray) (n : Int) : Prop := numB n = s ∧ -9223372036854775808 ≤ n ∧ n ≤ 9223372036854775807

/-- without a leading '-' -/
def bareL (l : List UInt8) : List UInt8 := if l.headD 0 = 45 then l.tail else l
theorem isNum_parts (s : ByteArray) (n : Int) (h : IsNum s n) : DigL (bareL s.data.toList) ∧ bareL s.data.toList ≠ [] ∧ valL (bareL s.data.toList) = n.natAbs ∧ ((s.data.toList.headD 0 = 45) ↔ n < 0) ∧ (bareL s.data.toList).length ≤ 19 := by
  obtain ⟨rfl, h1, h2⟩ := h
  have hsz := numB_size n 18 (by omega)
  have e : (numB n).data.toList = Lib.itoa n := rfl
  have hsz' : (Lib.itoa n).length ≤ 20 := hsz
  rw [e]
  unfold Lib.itoa at hsz' ⊢
  by_cases hn : n < 0
  · rw [if_pos hn] at hsz' ⊢
    have hb : bareL (45 :: Lib.decDigits n.natAbs) = Lib.decDigits n.natAbs := rfl
    rw [hb]
    exact ⟨(dig_dec _).1, (dig_dec _).2, valL_dec _, by simp [hn], by simp at hsz'; omega⟩
  · rw [if_neg hn] at hsz' ⊢
    have hd := dig_dec n.toNat
    have hh : ¬ (Lib.decDigits n.toNat).headD 0 = 45 := by
      intro e2
      cases hc : Lib.decDigits n.toNat with
      | nil => exact hd.2 hc
      | cons c r =>
        rw [hc] at e2
        have h3 := hd.1 c (by rw [hc]; simp)
        have : c = 45 := e2
        rw [this] at h3
        simp at h3
    have hb : bareL (Lib.decDigits n.toNat) = Lib.decDigits n.toNat := by unfold bareL; rw [if_neg hh]
    rw [hb]
    refine ⟨hd.1, hd.2, by rw [valL_dec]; omega, ⟨fun e => absurd e hh, fun e => absurd e hn⟩, ?_⟩
    have h4 : ∀ (k u : Nat), u < 10 ^ (k + 1) → (Lib.decDigits u).length ≤ k + 1 := by
      intro k
      induction k with
      | zero => intro u hu; rw [dec_small u (by simpa using hu)]; simp
      | succ k ih =>
        intro u hu
        by_cases hs : u < 10
        · rw [dec_small u hs]; simp
        · rw [dec_big u hs, List.length_append]
          have := ih (u / 10) (by rw [Nat.pow_succ] at hu; omega)
          simp; omega
    exact h4 18 _ (by omega)
theorem isNum_inj (s : ByteArray) (n m : Int) (h : IsNum s n) (k : IsNum s m) : n = m := by
  obtain ⟨_, _, a1, a2, _⟩ := isNum_parts s n h
  obtain ⟨_, _, b1, b2, _⟩ := isNum_parts s m k
  rw [a1] at b1
  rw [a2] at b2
  omega

/-- what TextInt answers -/
def TIPost (s : ByteArray) (w : World) (e : Ending) (w' : World) : Prop :=
  Below w.heap.size w w' ∧ ((∃ n, IsNum s n ∧ e = .returned (.tuple #[.int .i64 n, .bool true])) ∨ ((∀ n, ¬ IsNum s n) ∧ e = .returned (.tuple #[.int .i64 0, .bool false])))

theorem wrap_step (a c : Int) : wrap64 (wrap64 (wrap64 a * 10) + c) = wrap64 (a * 10 + c) := by unfold wrap64; omega

set_option maxHeartbeats 400000 in
set_option maxRecDepth 100000 in
theorem digitsValue_any (s : ByteArray) (w : World) (hd : DigL s.data.toList) :
    Calls Tryz.prog 82 #[.string s] w fun e w' => e = .returned (.int .i64 (wrap64 (valL s.data.toList))) ∧ Below w.heap.size w w' := by
  have HD := Lib.hid hd
  clear hd
  go_enter Tryz.func82, Tryz.ntmps82
  go_wp2
  go_loopw [3] (fun a w' => ∃ (pos : Nat) (v : Int), pos ≤ s.size ∧ w' = w.iter s pos ∧ a = .int .i64 (wrap64 v) ∧ Hid (v = valL (s.data.toList.take pos))) (fun _ w' => s.size - w'.iterPos w.heap.size)
  case atStart => exact ⟨0, 0, Nat.zero_le _, rfl, by rw [show wrap64 0 = 0 from by unfold wrap64; omega], Lib.hid rfl⟩
  case round =>
    obtain ⟨pos, v, hpl, rfl, rfl, HV⟩ := hrel
    by_cases hp : pos < s.size
    · have hdg := dig_at s pos hp HD.out
      have hnx : ∀ ty, (Instr.next (.pointer (some ⟨w.heap.size, 0, none⟩)) true ty).run Tryz.prog (w.iter s pos) = _ := fun ty => run_next_ascii w s pos ty hp (by omega)
      have HT := Lib.hid (take_val s pos hp)
      go_wp2
      go_roundw
      case rel => exact ⟨pos + 1, v * 10 + ((s[pos].toNat : Int) - 48), by omega, rfl, by rw [wrap_step], Lib.hid (by rw [HT.out, HV.out])⟩
      case measure => simp; omega
    · have hnx : ∀ ty, (Instr.next (.pointer (some ⟨w.heap.size, 0, none⟩)) true ty).run Tryz.prog (w.iter s pos) = _ := fun ty => run_next_end w s pos ty hp
      go_wp2
      go_ret
      exact ⟨ret_int (by rw [HV.out, List.take_of_length_le (by simp; omega)]), (Below.refl _ _).alloc (Nat.le_refl _) _⟩

theorem prefix_head (l : List UInt8) : Lib.hasPrefix l [45] = decide (l.headD 0 = 45) := by
  unfold Lib.hasPrefix
  cases l with
  | nil => rfl
  | cons c r =>
    show (List.isPrefixOf [45] (c :: r)) = decide (c = 45)
    simp [List.isPrefixOf]
    by_cases h : c = 45
    · subst h; simp
    · rw [decide_eq_false h, beq_eq_false_iff_ne]
      exact fun e => h e.symm
theorem trim_bare (l : List UInt8) : Lib.trimPrefix l [45] = bareL l := by
  unfold Lib.trimPrefix bareL
  rw [prefix_head]
  by_cases h : l.headD 0 = 45
  · rw [if_pos h, if_pos (by simpa using h), List.length_singleton, List.drop_one]
  · rw [if_neg h, if_neg (by simpa using h)]
/-- the digits of a text, and whether it has a '-' ahead -/
def bareB (s : ByteArray) : ByteArray := ⟨(bareL s.data.toList).toArray⟩
def negB (s : ByteArray) : Bool := decide (s.data.toList.headD 0 = 45)
theorem cutPrefix_any (s : ByteArray) (w : World) :
    Calls Tryz.prog 80 #[.string s, .string ⟨#[45]⟩] w fun e w' => e = .returned (.tuple #[.string (bareB s), .bool (negB s)]) ∧ w = w' := by
  refine (Tryz.strings_CutPrefix s ⟨#[45]⟩ w).mono ?_
  rintro e w' ⟨rfl, rfl⟩
  exact ⟨by rw [trim_bare, prefix_head]; rfl, rfl⟩

/-- the int that impl.TextInt tries -/
def tryB (s : ByteArray) : Int := if negB s = true then wrap64 (-(wrap64 (valL (bareL s.data.toList)))) else wrap64 (valL (bareL s.data.toList))
theorem try_range (s : ByteArray) : -9223372036854775808 ≤ tryB s ∧ tryB s ≤ 9223372036854775807 := by
  unfold tryB
  split <;> (unfold wrap64; omega)
theorem try_is (s : ByteArray) (n : Int) (h : IsNum s n) : tryB s = n := by
  obtain ⟨_, _, h3, h4, _⟩ := isNum_parts s n h
  obtain ⟨_, h1, h2⟩ := h
  unfold tryB negB
  rw [h3]
  by_cases hn : n < 0
  · rw [if_pos (by rw [decide_eq_true_eq]; exact h4.2 hn)]
    unfold wrap64
    omega
  · rw [if_neg (by rw [decide_eq_true_eq]; exact fun e => hn (h4.1 e))]
    unfold wrap64
    omega
theorem no_num_digits (s : ByteArray) (h : digitsB (bareB s) = false) : ∀ n, ¬ IsNum s n := by
  intro n hn
  obtain ⟨h1, h2, _⟩ := isNum_parts s n hn
  rw [(digitsB_iff (bareB s)).2 ⟨h1, h2⟩] at h
  cases h
theorem no_num_try (s : ByteArray) (h : ¬ numB (tryB s) = s) : ∀ n, ¬ IsNum s n := by
  intro n hn
  apply h
  rw [try_is s n hn]
  exact hn.1
theorem bytes_ne' {a b : ByteArray} (h : ¬ a = b) : (a.toList == b.toList) = false := by
  rw [beq_eq_false_iff_ne, ByteArray.toList_eq, ByteArray.toList_eq]
  exact fun e => h (WideShapes.bytes_inj e)


theorem bareB_data (s : ByteArray) : (bareB s).data.toList = bareL s.data.toList := rfl
theorem negB_head (s : ByteArray) (h0 : 0 < s.size) : negB s = ((s[0].toNat : Int) == 45) := by
  unfold negB
  rw [head_get s h0]
  by_cases h : s[0] = 45
  · rw [h]; rfl
  · rw [decide_eq_false h]
    symm
    rw [beq_eq_false_iff_ne]
    intro e
    exact h (UInt8.toNat_inj.1 (by show s[0].toNat = 45; omega))
theorem bareB_tail (s : ByteArray) (h : negB s = true) : s.extract 1 s.size = bareB s := by
  apply WideShapes.bytes_inj
  rw [bareB_data, Lib.extract_to_end]
  unfold bareL
  rw [if_pos (by simpa [negB] using h), List.drop_one]
theorem bareB_self (s : ByteArray) (h : negB s = false) : bareB s = s := by
  apply WideShapes.bytes_inj
  rw [bareB_data]
  unfold bareL
  rw [if_neg (by simpa [negB] using h)]
theorem negB_nil (s : ByteArray) (h : ¬ 0 < s.size) : negB s = false := by
  obtain ⟨⟨l⟩⟩ := s
  cases l with
  | nil => rfl
  | cons a r => simp [ByteArray.size] at h
theorem no_num_long (s : ByteArray) (h : 19 < (bareB s).size) : ∀ n, ¬ IsNum s n := by
  intro n hn
  obtain ⟨_, _, _, _, h5⟩ := isNum_parts s n hn
  have : (bareB s).size = (bareL s.data.toList).length := rfl
  omega
theorem no_num_big (s : ByteArray) (k : Nat) (hd : DigL (bareB s).data.toList) (h : 9223372036854775808 < valL ((bareB s).data.toList.take k)) : ∀ n, ¬ IsNum s n := by
  intro n hn
  obtain ⟨_, _, h3, _, _⟩ := isNum_parts s n hn
  obtain ⟨_, h1, h2⟩ := hn
  have hm := valL_mono ((bareB s).data.toList.take k) ((bareB s).data.toList.drop k) (by rw [List.take_append_drop]; exact hd)
  rw [List.take_append_drop, bareB_data, h3] at hm
  rw [bareB_data] at h
  omega
theorem no_num_min (s : ByteArray) (hn : negB s = false) (h : valL (bareB s).data.toList = 9223372036854775808) : ∀ n, ¬ IsNum s n := by
  intro n hx
  obtain ⟨_, _, h3, h4, _⟩ := isNum_parts s n hx
  obtain ⟨_, h1, h2⟩ := hx
  rw [bareB_data, h3] at h
  have : ¬ n < 0 := fun e => by have h5 := h4.2 e; unfold negB at hn; rw [decide_eq_true h5] at hn; cases hn
  omega
/-- the int that spec.TextInt tries -/
theorem try_neg (s : ByteArray) (hn : negB s = true) (h0 : 0 ≤ valL (bareB s).data.toList) (h : valL (bareB s).data.toList ≤ 9223372036854775808) : -valL (bareB s).data.toList = tryB s := by
  rw [bareB_data] at h h0 ⊢
  unfold tryB
  rw [if_pos hn]
  unfold wrap64
  omega
theorem try_pos (s : ByteArray) (hn : negB s = false) (h0 : 0 ≤ valL (bareB s).data.toList) (h : valL (bareB s).data.toList ≤ 9223372036854775807) : valL (bareB s).data.toList = tryB s := by
  rw [bareB_data] at h h0 ⊢
  unfold tryB
  rw [if_neg (by simp [hn])]
  unfold wrap64
  omega
theorem take_all (t : ByteArray) : t.data.toList.take t.size = t.data.toList := List.take_of_length_le (Nat.le_refl _)
/-- the bound that the loop of spec.TextInt asks -/
theorem quo_bound (v d : Int) (hd : 0 ≤ d) (hd9 : d ≤ 9) : (-v < (-9223372036854775808 + d).tdiv 10) ↔ 9223372036854775808 < v * 10 + d := by
  have h := quo_rem (-9223372036854775808 + d) (by omega)
  omega






end Go.Proofs.YtkkdlgiilhngcaaGreatDoor

namespace Go.Proofs.YtkkdlgiilhngcaaGreatDoor
open Go.RowKit

theorem dec_len : ∀ (k u : Nat), u < 10 ^ (k + 1) → (Lib.decDigits u).length ≤ k + 1 := by
  intro k
  induction k with
  | zero => intro u hu; rw [dec_small u (by simpa using hu)]; simp
  | succ k ih =>
    intro u hu
    by_cases hs : u < 10
    · rw [dec_small u hs]; simp
    · rw [dec_big u hs, List.length_append]
      have := ih (u / 10) (by rw [Nat.pow_succ] at hu; omega)
      simp; omega
theorem num_list (d : Int) (h : 0 ≤ d) : (numB d).data.toList = Lib.decDigits d.toNat := by
  show Lib.itoa d = _
  unfold Lib.itoa
  rw [if_neg (by omega)]
theorem limb_nine {d : Int} (h : 0 ≤ d ∧ d ≤ 999999999) : (numB d).size ≤ 9 := by
  have := dec_len 8 d.toNat (by omega)
  rw [← num_list d h.1] at this
  exact this
theorem pad_nine {d : Int} (h : 0 ≤ d ∧ d ≤ 999999999) : (padB (numB d) 9).size = 9 := by
  have h9 := limb_nine h
  unfold padB
  show (List.toArray _).size = 9
  rw [List.size_toArray, List.length_append, List.length_replicate]
  have : (numB d).data.toList.length = (numB d).size := rfl
  have : (9 : Int).toNat = 9 := rfl
  omega
/-- how long the text of limbs is -/
theorem natT_len (a : List Int) (h : DigN a) (h0 : 0 < a.length) : (natT a).size = (a.length - 1) * 9 + (numB (a[a.length - 1]'(by omega))).size := by
  induction a with
  | nil => simp at h0
  | cons d r ih =>
    cases r with
    | nil => unfold natT; simp
    | cons e r =>
      have hi := ih (fun x hx => h x (by simp at hx ⊢; exact .inr hx)) (by simp)
      unfold natT
      rw [ByteArray.size_append, hi, pad_nine (h d (by simp))]
      simp only [List.length_cons]
      have e1 : (d :: e :: r)[r.length + 1 + 1 - 1] = (e :: r)[r.length + 1 - 1] := by simp
      rw [e1]
      omega

/-- the last k digits -/
def lastD : Nat → Nat → List UInt8
  | 0, _ => []
  | k + 1, u => lastD k (u / 10) ++ [UInt8.ofNat (48 + u % 10)]
theorem dec_split (k : Nat) : ∀ u : Nat, 10 ^ k ≤ u → Lib.decDigits u = Lib.decDigits (u / 10 ^ k) ++ lastD k u := by
  induction k with
  | zero => intro u _; simp [lastD]
  | succ k ih =>
    intro u hu
    rw [Nat.pow_succ] at hu
    have hp : 0 < 10 ^ k := Nat.pow_pos (by omega)
    have h10 : ¬ u < 10 := by omega
    have hk : 10 ^ k ≤ u / 10 := by omega
    rw [dec_big u h10, ih (u / 10) hk, Nat.div_div_eq_div_mul, Nat.mul_comm 10, ← Nat.pow_succ, List.append_assoc]
    rfl
theorem lastD_mod (k : Nat) : ∀ u : Nat, lastD k u = lastD k (u % 10 ^ k) := by
  induction k with
  | zero => intro u; rfl
  | succ k ih =>
    intro u
    have e1 : u % 10 ^ (k + 1) / 10 = u / 10 % 10 ^ k := by
      rw [Nat.pow_succ, Nat.mul_comm, Nat.mod_mul_right_div_self]
    have e2 : u % 10 ^ (k + 1) % 10 = u % 10 := by
      rw [Nat.pow_succ, Nat.mul_comm]
      exact Nat.mod_mul_right_mod _ _ _
    show lastD k (u / 10) ++ _ = lastD k (u % 10 ^ (k + 1) / 10) ++ _
    rw [e1, e2, ← ih (u / 10)]
theorem lastD_zero (k : Nat) : lastD k 0 = List.replicate k 48 := by
  induction k with
  | zero => rfl
  | succ k ih =>
    show lastD k (0 / 10) ++ [UInt8.ofNat (48 + 0 % 10)] = _
    rw [Nat.zero_div, ih, List.replicate_succ']
    rfl
theorem lastD_pad (k : Nat) : ∀ u : Nat, u < 10 ^ k → 0 < k → lastD k u = List.replicate (k - (Lib.decDigits u).length) 48 ++ Lib.decDigits u := by
  induction k with
  | zero => intro u _ h; omega
  | succ k ih =>
    intro u hu _
    show lastD k (u / 10) ++ [UInt8.ofNat (48 + u % 10)] = _
    by_cases h10 : u < 10
    · rw [dec_small u h10, show u / 10 = 0 by omega, lastD_zero, show u % 10 = u by omega]
      simp
    · rw [dec_big u h10]
      have hk : 0 < k := by
        rcases Nat.eq_zero_or_pos k with h | h
        · subst h; simp at hu; omega
        · exact h
      rw [ih (u / 10) (by rw [Nat.pow_succ] at hu; omega) hk, List.append_assoc]
      congr 2
      simp
/-- the text of the limbs of a number is its numeral -/
theorem natT_dec (n : Nat) : (natT (limbs n)).data.toList = Lib.decDigits n := by
  induction n using Nat.strongRecOn with
  | _ n ih =>
    by_cases h0 : n = 0
    · subst h0
      rw [limbs_none, dec_small 0 (by omega)]
      rfl
    · rw [limbs_pos n h0]
      by_cases hs : n / 1000000000 = 0
      · rw [hs, limbs_none]
        show (numB _).data.toList = _
        rw [num_list _ (by omega), show (((n % 1000000000 : Nat) : Int)).toNat = n by omega]
      · have hi := ih (n / 1000000000) (by omega)
        rw [limbs_pos _ hs] at hi ⊢
        show (natT _ ++ padB (numB _) 9).data.toList = _
        rw [ByteArray.data_append, Array.toList_append, hi, dec_split 9 n (by omega), lastD_mod 9 n, lastD_pad 9 (n % 10 ^ 9) (by omega) (by omega)]
        unfold padB
        rw [num_list _ (by omega)]
        have e : (numB ((n % 1000000000 : Nat) : Int)).size = (Lib.decDigits (n % 10 ^ 9)).length := by
          show (numB _).data.toList.length = _
          rw [num_list _ (by omega), show (((n % 1000000000 : Nat) : Int)).toNat = n % 10 ^ 9 by omega]
        rw [e, show (((n % 1000000000 : Nat) : Int)).toNat = n % 10 ^ 9 by omega]
        rfl

theorem limbs_dig (n : Nat) : DigN (limbs n) := by
  induction n using Nat.strongRecOn with
  | _ n ih =>
    by_cases h0 : n = 0
    · subst h0; rw [limbs_none]; exact fun d hd => by cases hd
    · rw [limbs_pos n h0]
      exact DigN.cons (by omega) (by omega) (ih _ (by omega))
theorem limbs_last (n : Nat) : (limbs n).getLastD 1 ≠ 0 := by
  induction n using Nat.strongRecOn with
  | _ n ih =>
    by_cases h0 : n = 0
    · subst h0; rw [limbs_none]; decide
    · rw [limbs_pos n h0]
      by_cases hs : n / 1000000000 = 0
      · rw [hs, limbs_none]
        show ((n % 1000000000 : Nat) : Int) ≠ 0
        omega
      · have hi := ih (n / 1000000000) (by omega)
        rw [limbs_pos _ hs] at hi ⊢
        simpa using hi
theorem limbs_ok (n : Nat) (h : (limbs n).length ≤ 50) : natOkB (limbs n) = true := by
  unfold natOkB
  rw [(all_dig _).2 (limbs_dig n), decide_eq_true h, decide_eq_true (limbs_last n)]
  rfl
theorem natText_limbs (n : Nat) (h : (limbs n).length ≤ 50) : (natTextB (limbs n)).data.toList = Lib.decDigits n := by
  unfold natTextB
  rw [if_pos (limbs_ok n h), natT_dec]
theorem groups_len (l : List UInt8) (e : Nat) : (groups l e).length ≤ (e + 8) / 9 := by
  induction e using Nat.strongRecOn with
  | _ e ih =>
    by_cases h0 : e = 0
    · subst h0; rw [groups_zero]; simp
    · rw [groups_pos l e h0, List.length_cons]
      have := ih (e - 9) (by omega)
      omega

/-! ### numerals -/
theorem dec_head (u : Nat) (h : 0 < u) : (Lib.decDigits u).headD 0 ≠ 48 := by
  induction u using Nat.strongRecOn with
  | _ u ih =>
    by_cases h10 : u < 10
    · rw [dec_small u h10]
      show UInt8.ofNat (48 + u) ≠ 48
      intro e
      have := congrArg UInt8.toNat e
      rw [UInt8.toNat_ofNat'] at this
      have h48 : (48 : UInt8).toNat = 48 := rfl
      omega
    · have hi := ih (u / 10) (by omega) (by omega)
      have hd := (dig_dec (u / 10)).2
      rw [dec_big u h10]
      cases hc : Lib.decDigits (u / 10) with
      | nil => exact absurd hc hd
      | cons c r => rw [hc] at hi; simpa using hi
theorem val_pos (l : List UInt8) (h : DigL l) (hne : l ≠ []) (hh : l.headD 0 ≠ 48) : 0 < valL l := by
  cases l with
  | nil => exact absurd rfl hne
  | cons c r =>
    have e : valL (c :: r) = ((c.toNat : Int) - 48) * 10 ^ r.length + valL r := by
      show List.foldl _ (0 * 10 + ((c.toNat : Int) - 48)) r = _
      rw [fold_app, Int.zero_mul, Int.zero_add]
    have hc := h c (by simp)
    have hc48 : c.toNat ≠ 48 := fun e2 => hh (by
      show c = 48
      apply UInt8.toNat_inj.1
      rw [e2]; rfl)
    have hr := valL_nonneg r (fun x hx => h x (by simp [hx]))
    have hp : (0 : Int) < 10 ^ r.length := Int.pow_pos (by omega)
    have hm := Int.mul_le_mul_of_nonneg_right (show (1 : Int) ≤ (c.toNat : Int) - 48 by omega) (Int.le_of_lt hp)
    omega
theorem dec_val_rev (l : List UInt8) (h : DigL l.reverse) (hne : l ≠ []) (hh : l.reverse.length = 1 ∨ l.reverse.headD 0 ≠ 48) : Lib.decDigits (valL l.reverse).toNat = l.reverse := by
  induction l with
  | nil => exact absurd rfl hne
  | cons c m ih =>
    rw [List.reverse_cons] at h hh ⊢
    have hc := h c (by simp)
    have ec : ∀ x : Nat, x = c.toNat - 48 → UInt8.ofNat (48 + x) = c := by
      intro x hx
      apply UInt8.toNat_inj.1
      rw [UInt8.toNat_ofNat', hx]
      omega
    have hm : DigL m.reverse := fun x hx => h x (by rw [List.mem_append]; exact .inl hx)
    rw [valL_snoc]
    by_cases hn : m = []
    · subst hn
      have e0 : valL ([] : List UInt8).reverse = 0 := rfl
      rw [e0, dec_small _ (by omega), ec _ (by omega)]
      rfl
    · have hh2 : m.reverse.headD 0 ≠ 48 := by
        have hr : m.reverse ≠ [] := by simpa using hn
        rcases hh with hh | hh
        · rw [List.length_append, List.length_singleton] at hh
          have : m.reverse.length ≠ 0 := fun e => hr (List.eq_nil_of_length_eq_zero e)
          omega
        · cases hcm : m.reverse with
          | nil => exact absurd hcm hr
          | cons x y => rw [hcm] at hh; simpa using hh
      have hp := val_pos m.reverse hm (by simpa using hn) hh2
      have hi := ih hm hn (.inr hh2)
      rw [dec_big _ (by omega), show (valL m.reverse * 10 + ((c.toNat : Int) - 48)).toNat / 10 = (valL m.reverse).toNat by omega, hi, ec _ (by omega)]
/-- a text of digits is the numeral of its value where it has no zero ahead -/
theorem dec_val (l : List UInt8) (h : DigL l) (hne : l ≠ []) : Lib.decDigits (valL l).toNat = l ↔ ¬ (1 < l.length ∧ l.headD 0 = 48) := by
  constructor
  · intro e ⟨h1, h2⟩
    by_cases h0 : 0 < (valL l).toNat
    · have := dec_head _ h0
      rw [e] at this
      exact this h2
    · rw [show (valL l).toNat = 0 by omega, dec_small 0 (by omega)] at e
      rw [← e] at h1
      simp at h1
  · intro hn
    have hl : 0 < l.length := List.length_pos_iff.2 hne
    have := dec_val_rev l.reverse (by rw [List.reverse_reverse]; exact h) (by simpa using hne) (by
      rw [List.reverse_reverse]
      by_cases h1 : l.length = 1
      · exact .inl h1
      · exact .inr (fun e => hn ⟨by omega, e⟩))
    rwa [List.reverse_reverse] at this
end Go.Proofs.YtkkdlgiilhngcaaGreatDoor

namespace Go.Proofs.YtkkdlgiilhngcaaGreatDoor
open Go.RowKit

theorem strInfoD : (Tryz.prog.info? 9).map (fun i => (i.zero, i.size, i.bytes)) = some (some (.string ⟨#[]⟩), 1, 16) := by kernel_rfl
theorem joinTo_leftD (b : ByteArray) (l : List ByteArray) (x : ByteArray) : ∀ k, k ≤ l.length → joinTo b (l ++ [x]) k = joinTo b l k := by
  intro k
  induction k with
  | zero => intro _; rfl
  | succ k ih =>
    intro hk
    have e : (l ++ [x]).getD k ByteArray.empty = l.getD k ByteArray.empty := by
      rw [List.getD_eq_getElem?_getD, List.getD_eq_getElem?_getD, List.getElem?_append_left (by omega)]
    rw [joinTo, joinTo, ih (by omega), e]
/-- nothing between the parts: one part more is laid behind -/
theorem joinB_snoc (l : List ByteArray) (x : ByteArray) : joinB ⟨#[]⟩ (l ++ [x]) = joinB ⟨#[]⟩ l ++ x := by
  have e : (l ++ [x]).getD l.length ByteArray.empty = x := by simp
  apply ByteArray.ext
  unfold joinB
  rw [List.length_append, List.length_singleton, joinTo, joinTo_leftD _ l x _ (Nat.le_refl _), e, ByteArray.data_append]
  simp
theorem joinB_one (x : ByteArray) : joinB ⟨#[]⟩ [x] = x := by
  apply ByteArray.ext
  simp [joinB, joinTo]


/-- the parts so far are the text of the limbs from k on -/
def PartsR (a : List Int) (k : Nat) (ss : List ByteArray) : Prop := joinB ⟨#[]⟩ ss = natT (a.drop k) ∧ (∀ s ∈ ss, s.size ≤ 1048576) ∧ ss.length + k ≤ a.length
theorem PartsR.next {a : List Int} {j : Nat} {ss : List ByteArray} (h : PartsR a (j + 1) ss) (hj : j + 1 < a.length) (hd : DigN a) : PartsR a j (ss ++ [padB (numB a[j]) 9]) := by
  obtain ⟨h1, h2, h3⟩ := h
  refine ⟨by rw [joinB_snoc, h1, natT_step a j hj], ?_, by simp; omega⟩
  intro s hs
  rcases List.mem_append.1 hs with hs | hs
  · exact h2 s hs
  · rw [List.mem_singleton.1 hs, pad_nine (hd.at_ j (by omega))]
    omega
set_option maxHeartbeats 1000000 in
set_option maxRecDepth 100000 in
theorem implNatText_any (v : Value) (a : List Int) (lo hi : Nat) (w : World) (hl : a.length ≤ 1048576) (hhi : hi ≤ w.heap.size) (hr : Row w lo hi v (intsV a)) (ht : Tab w) :
    Calls Tryz.prog 44 #[v] w fun e w' => e = .returned (.string (natTextB a)) ∧ Below w.heap.size w w' := by
  obtain ⟨i0, hi0, hz0, hz1, hz2⟩ := info_parts strInfoD
  have hr0 := hr
  obtain ⟨A, c, rfl, hA⟩ := hr
  rw [intsV_length] at hr0 ⊢
  by_cases ok : natOkB a = true
  · have HV := Lib.hid (show natTextB a = natT a by unfold natTextB; rw [if_pos ok])
    by_cases h0 : a.length = 0
    · have HA := Lib.hid (show a = [] from List.length_eq_zero_iff.1 h0)
      have H0 := Lib.hid h0
      clear h0
      go_enter Tryz.func44, Tryz.ntmps44
      go_wp2_with fail
      refine (implNatOk_same _ a lo hi _ (by omega) hr0).mono ?_
      rintro e w' ⟨rfl, rfl⟩
      rw [ok]
      have h0 := H0.out
      go_wp2
      go_ret
      exact ⟨by rw [HV.out, HA.out]; rfl, Below.refl _ _⟩
    · have hpos : 0 < a.length := by omega
      obtain ⟨ad, rfl, hlo, hbh, hc1⟩ := hA (a.length - 1) _ (intsV_at a (a.length - 1) (by omega))
      have HA := Lib.hid hA
      have PA := Lib.hid (natOk_parts ok).1
      have hlim := (natOk_parts ok).1.at_ (a.length - 1) (by omega)
      have h50 := (natOk_parts ok).2.1
      have hls := limb_nine hlim
      have hix : ((a.length : Int) - 1).toNat = a.length - 1 := by omega
      have hz : ((a.length : Int) == 0) = false := by rw [beq_eq_false_iff_ne]; omega
      have HL : Hid (PartsR a (a.length - 1) [numB a[a.length - 1]]) := Lib.hid ⟨by rw [joinB_one, natT_last a hpos], (fun s hs => by rw [List.mem_singleton.1 hs]; omega), by simp; omega⟩
      clear hA h0
      go_enter Tryz.func44, Tryz.ntmps44
      go_wp2_with fail
      refine (implNatOk_same _ a lo hi _ (by omega) hr0).mono ?_
      rintro e w' ⟨rfl, rfl⟩
      rw [ok]
      go_wp2_with fail
      refine (implIntText_any _ _ (by omega) (by omega) ht).mono ?_
      rintro e w1 ⟨rfl, b1⟩
      go_wp2
      go_loopw [4, 5] (fun s i wr => ∃ (k : Nat) (ss : List ByteArray), k < a.length ∧ i = .int .i64 ((k : Int) - 1) ∧ Hid (PartsR a k ss) ∧ wr.ownsRow w.heap.size 9 1 s ss.length (ss.map Value.string) ∧ Below w.heap.size w wr) (fun _ i _ => (intOf i + 1).toNat)
      case atStart => exact ⟨a.length - 1, [numB a[a.length - 1]], by omega, by congr 1; omega, HL, ⟨rfl, .inr ⟨w1.heap.size, 1, _, rfl, b1.size, heap_alloc_new w1 _, Nat.le_refl _, by unfold maxLen; omega, rfl, rfl⟩⟩, b1.alloc b1.size _⟩
      case round =>
        obtain ⟨k, ss, hk, rfl, HP, hown, hb⟩ := hrel
        have hsl : ss.length ≤ 50 := by have := HP.out.2.2; omega
        by_cases hk0 : 0 < k
        · obtain ⟨j, rfl⟩ : ∃ j, k = j + 1 := ⟨k - 1, by omega⟩
          have hcj : wr.cell? (ad.add j) = some (.int .i64 a[j]) := by
            obtain ⟨_, e, _, _, h⟩ := HA.out j _ (intsV_at a j (by omega))
            cases e
            exact (hb.cell (by rw [block_add]; omega)).trans h
          have hj := PA.out.at_ j (by omega)
          have hlj := limb_nine hj
          have HN := Lib.hid (HP.out.next hk PA.out)
          have e1 : (((j + 1 : Nat) : Int) - 1) = (j : Int) := by omega
          rw [e1]
          clear e1 hk0
          go_wp2_with fail
          refine (implIntText_any _ _ (by omega) (by omega) (ht.below hb)).mono ?_
          rintro e w2 ⟨rfl, b2⟩
          go_wp2_with fail
          refine (implPad_any _ _ _ (by omega) (by omega) (by omega)).mono ?_
          rintro e w3 ⟨rfl, b3⟩
          have hown3 := own_below (own_below hown b2) b3
          have hb3 : Below w.heap.size w w3 := Below.next (Below.next hb b2) b3
          go_wp2_with (at_builtin; refine wpList_append_own _ rfl _ _ 69 rfl w.heap.size 9 i0 (.string ⟨#[]⟩) 1 16 Tryz.underlying69 hi0 hz0 hz1 hz2 rfl (by decide) _ _ _ rfl (own_alloc hown3 _) ⟨w3.heap.size, 0, none⟩ 1 1 [.string (padB (numB a[j]) 9)] rfl rfl (one_new _ _ _) ?c2 ?c3 ?c4 ?c5 ?_)
          case c2 => first | (intro u hu; simp at hu; subst hu; rfl) | rfl
          case c3 => unfold maxLen; omega
          case c4 => omega
          case c5 => have := hb3.size; simp; omega
          intro v1 w4 hown4 hg4 _
          have hb4 := below_push hb3 (Nat.le_refl _) hown3 hg4
          go_wp2
          exact ⟨⟨j, ss ++ [padB (numB a[j]) 9], by omega, rfl, HN, by simpa using hown4, hb4⟩, by simp [intOf]⟩
        · obtain rfl : k = 0 := by omega
          go_wp2_with fail
          refine (implJoin_any _ ⟨#[]⟩ ss w.heap.size _ _ (Nat.le_refl _) (by omega) (by decide) HP.out.2.1 (Row.of_own hown)).mono ?_
          rintro e w2 ⟨rfl, b2⟩
          go_wp2
          go_ret
          exact ⟨ret_str (by rw [HV.out, HP.out.1]; rfl), Below.next hb b2⟩
  · have okf : natOkB a = false := by simpa using ok
    have HV := Lib.hid (show natTextB a = ⟨#[]⟩ by unfold natTextB; rw [if_neg ok])
    clear hA ok
    go_enter Tryz.func44, Tryz.ntmps44
    go_wp2_with fail
    refine (implNatOk_same _ a lo hi _ (by omega) hr0).mono ?_
    rintro e w' ⟨rfl, rfl⟩
    rw [okf]
    go_wp2
    go_ret
    exact ⟨ret_str HV.out.symm, Below.refl _ _⟩
end Go.Proofs.YtkkdlgiilhngcaaGreatDoor

namespace Go.Proofs.YtkkdlgiilhngcaaGreatDoor
open Go.RowKit

theorem digitsValue_nine (s : ByteArray) (w : World) (hd : DigL s.data.toList) (hl : s.size ≤ 9) :
    Calls Tryz.prog 82 #[.string s] w fun e w' => e = .returned (.int .i64 (valL s.data.toList)) ∧ Below w.heap.size w w' := by
  refine (digitsValue_any s w hd).mono ?_
  rintro e w' ⟨rfl, hb⟩
  have h1 := valL_nine s.data.toList hd hl
  have h0 := valL_nonneg s.data.toList hd
  exact ⟨ret_int (by unfold wrap64; omega), hb⟩
theorem extract_listD (s : ByteArray) (a b : Nat) : (s.extract a b).data.toList = (s.data.toList.take b).drop a := by
  simp [ByteArray.data_extract, List.drop_take]

/-- the value of the digits from m to k -/
def partV (s : ByteArray) (m k : Nat) : Int := valL ((s.data.toList.take k).drop m)
theorem digitsValue_part (s : ByteArray) (m k : Nat) (w : World) (hd : DigL s.data.toList) (hl : k ≤ m + 9) :
    Calls Tryz.prog 82 #[.string (s.extract m k)] w fun e w' => e = .returned (.int .i64 (partV s m k)) ∧ Below w.heap.size w w' := by
  refine (digitsValue_nine (s.extract m k) w (by rw [extract_listD]; exact dig_part _ hd _ _) (by rw [ByteArray.size_extract]; omega)).mono ?_
  rintro e w' ⟨rfl, hb⟩
  exact ⟨ret_int (by rw [extract_listD]; rfl), hb⟩

/-- the limbs that are read are those of the value -/
theorem read_limbs (s : ByteArray) (hd : DigL s.data.toList) : trimL (groups s.data.toList s.size) = limbs (valL s.data.toList).toNat := by
  have hv := groups_val s.data.toList hd s.size (Nat.le_refl _)
  rw [take_full] at hv
  rw [← hv.1, trim_limbs _ hv.2.1]
theorem read_len (s : ByteArray) (hd : DigL s.data.toList) (h : s.size ≤ 450) : (limbs (valL s.data.toList).toNat).length ≤ 50 := by
  rw [← read_limbs s hd]
  have h1 := trimL_length (groups s.data.toList s.size)
  have h2 := groups_len s.data.toList s.size
  omega
/-- the number is written as it was read where the text is a numeral -/
theorem read_text (s : ByteArray) (hd : digitsB s = true) (h : s.size ≤ 450) : natTextB (limbs (valL s.data.toList).toNat) = s ↔ decOk s = true := by
  obtain ⟨h1, h2⟩ := (digitsB_iff s).1 hd
  have hne : s.data.toList ≠ [] := h2
  have e := natText_limbs _ (read_len s h1 h)
  have hdv := dec_val s.data.toList h1 hne
  have hsz : s.data.toList.length = s.size := rfl
  constructor
  · intro hs
    rw [hs] at e
    have hn := hdv.1 e.symm
    unfold decOk
    rw [hd, decide_eq_true h]
    by_cases hc : 1 < s.size
    · have : ¬ s.data.toList.headD 0 = 48 := fun e2 => hn ⟨by omega, e2⟩
      rw [decide_eq_false this]
      simp
    · rw [decide_eq_false hc]
      simp
  · intro ho
    apply WideShapes.bytes_inj
    rw [e]
    apply hdv.2
    rintro ⟨hc1, hc2⟩
    unfold decOk at ho
    rw [decide_eq_true (show 1 < s.size by omega), decide_eq_true hc2] at ho
    simp at ho
theorem part_next {s : ByteArray} {k m : Nat} {out : List Int} (hk : 0 < k) (hm : m = k - 9) (h : out ++ groups s.data.toList k = groups s.data.toList s.size) :
    out ++ [partV s m k] ++ groups s.data.toList m = groups s.data.toList s.size := by
  rw [groups_pos _ k (by omega)] at h
  rw [← h, hm, List.append_assoc]
  rfl
/-- what is known at the head of the loop -/
def ReadRel (s : ByteArray) (B H : Nat) (w : World) (e : Value) (wr : World) : Prop :=
  ∃ (en : Int) (out : List Int), -9 ≤ en ∧ en ≤ s.size ∧ e = .int .i64 en ∧ out.length + en.toNat ≤ s.size ∧ out ++ groups s.data.toList en.toNat = groups s.data.toList s.size ∧ NatAt B H out wr ∧ Below B w wr

set_option maxHeartbeats 2000000 in
set_option maxRecDepth 100000 in
theorem implTextNat_any (s : ByteArray) (w : World) (hs : s.size ≤ 9223372036854775807) (ht : Tab w) : Calls Tryz.prog 38 #[.string s] w (TNNew s w) := by
  obtain ⟨i0, hi0, hz0, hz1, hz2⟩ := info_parts intInfo
  by_cases h450 : s.size ≤ 450
  · by_cases hd : digitsB s = true
    · have HD := Lib.hid ((digitsB_iff s).1 hd).1
      have HRT := Lib.hid (read_text s hd h450)
      have HRL := Lib.hid (read_len s HD.out h450)
      go_enter Tryz.func38, Tryz.ntmps38
      go_wp2_with fail
      refine (implIsDigits_any s _).mono ?_
      rintro e w1 ⟨rfl, b1⟩
      rw [hd]
      clear hd
      go_wp2
      go_loopw [5] (fun e wr => ReadRel s w.heap.size w1.heap.size w e wr) (fun e _ => (intOf e).toNat)
      case atStart => exact ⟨s.size, [], by omega, by omega, rfl, by simp, by rw [Int.toNat_natCast]; rfl, NatAt.new b1.size (World.ownsRow_nil _ _ _ _), b1.alloc b1.size _⟩
      case round =>
        obtain ⟨en, out, h0, h1, rfl, hol, hg, hat, hb⟩ := hrel
        have HG := Lib.hid hg
        clear hg
        by_cases hpos : 0 < en
        · obtain ⟨k, rfl⟩ := Int.eq_ofNat_of_zero_le (show 0 ≤ en by omega)
          obtain ⟨m, hmk, HM⟩ : ∃ m : Nat, m ≤ k ∧ Hid (m = k - 9) := ⟨k - 9, by omega, Lib.hid rfl⟩
          have hmx : max 0 ((k : Int) - 9) = (m : Int) := by have := HM.out; omega
          have hmi : (m : Int) ≤ (k : Int) := by omega
          have hks : (k : Int) ≤ (s.size : Int) := by omega
          have hol2 : out.length + 1 ≤ 450 := by omega
          obtain ⟨hB, u, hbk, hown, hne⟩ := hat
          obtain ⟨A, c, rfl⟩ := own_len hown
          have c1 : wr.cell? ⟨w1.heap.size, 0, none⟩ = some (.slice A out.length c) := by rw [Lib.cell_of_heap hbk]; rfl
          have f1 : wr.frozen? ⟨w1.heap.size, 0, none⟩ = false := Lib.frozen_of_heap hbk 0
          have hlt := (Array.getElem?_eq_some_iff.1 hbk).1
          have HB := Lib.hid hbk
          have HE := Lib.hid hne
          have HO := Lib.hid hown
          clear hbk hne hown
          go_wp2
          clear hmx
          go_region_law (first
              | (refine step_append_lies _ (by rfl) _ _ _ (by rfl) w.heap.size 3 i0 _ 1 8 Tryz.underlying23 hi0 hz0 hz1 hz2 rfl (by omega) (.slice A out.length c) out.length (intsV out) (by rfl) (own_alloc (own_below HO.out.drew b2) _) ⟨w2.heap.size, 0, none⟩ 1 1 [.int .i64 (partV s m k)] (by rfl) (by rfl) (one_new _ _ _) (by simp [Value.oneCell']) (by omega) (by unfold maxLen; omega) (by omega) (by have h1 := hb.size; have h2 := b2.size; simp at h2 ⊢; omega) (w2.heap.size + 1) (by simp) ?_; intro gg cap w3 hown3 hg3 hat3 hlt3; have hb3 : w3.heap[w1.heap.size]? = some (.cells #[.slice A out.length c] 93 (0, 0)) := ((hg3.block w1.heap.size (by simp; omega) (fun e => HE.out e.symm)).trans (Below.heap_alloc _ _ _ hlt2)).trans ((b2.block _ hlt).trans HB.out); have hc3 : w3.cell? ⟨w1.heap.size, 0, none⟩ = some (.slice A out.length c) := (by rw [Lib.cell_of_heap hb3]; rfl); have hf3 : w3.frozen? ⟨w1.heap.size, 0, none⟩ = false := Lib.frozen_of_heap hb3 0; have HB3 := Lib.hid hb3; clear hb3)
              | (go_simp; go_at_call 82; refine (digitsValue_part s m k _ HD.out (by have := HM.out; omega)).mono ?_; rintro e w2 ⟨rfl, b2⟩; have hlt2 : w1.heap.size < w2.heap.size := Nat.lt_of_lt_of_le hlt b2.size; have hc2 : w2.cell? ⟨w1.heap.size, 0, none⟩ = some (.slice A out.length c) := (b2.cell (p := ⟨w1.heap.size, 0, none⟩) hlt).trans c1; have hf2 : w2.frozen? ⟨w1.heap.size, 0, none⟩ = false := (b2.frozen (p := ⟨w1.heap.size, 0, none⟩) hlt).trans f1))
          all_goals
            have hput := NatAt.put (ys := out ++ [partV s m k]) hB HB3.out (by rw [List.length_append, List.length_singleton, intsV_append]; exact hown3)
            have hbe : Below w.heap.size w w3 := ((Below.next hb.drew b2).alloc (by have h1 := hb.size; have h2 := b2.size; simp at h2; omega) _).grown hg3 (by have h1 := hb.size; have h2 := b2.size; simp at h2 ⊢; omega) (fun j hj => (own_lt HO.out hj).1)
            clear HB3 hc3 hf3 hc2 hf2 hown3
            go_wp2
            refine ⟨⟨(k : Int) - 9, out ++ [partV s m k], by omega, by omega, rfl, ?_, ?_, hput, hbe.setCell (p := ⟨w1.heap.size, 0, none⟩) hB _⟩, by simp [intOf]; omega⟩
            · rw [List.length_append, List.length_singleton]; omega
            · rw [show ((k : Int) - 9).toNat = m by have := HM.out; omega]
              exact part_next (by omega) HM.out (by have := HG.out; rwa [Int.toNat_natCast] at this)
        · have HT : Hid (trimL out = limbs (valL s.data.toList).toNat) := Lib.hid (by
            have := HG.out
            rw [show en.toNat = 0 by omega, groups_zero, List.append_nil] at this
            rw [this]
            exact read_limbs s HD.out)
          go_wp2_with fail
          refine (natTrim_any w.heap.size w1.heap.size out _ (by omega) hat).mono ?_
          rintro e w2 ⟨rfl, hat2, hb2⟩
          rw [HT.out] at hat2
          clear hat HT HG
          obtain ⟨hB, u, hbk, hown, hne⟩ := hat2
          obtain ⟨A, c, rfl⟩ := own_len hown
          have c2 : w2.cell? ⟨w1.heap.size, 0, none⟩ = some (.slice A (limbs (valL s.data.toList).toNat).length c) := by rw [Lib.cell_of_heap hbk]; rfl
          have hlt := (Array.getElem?_eq_some_iff.1 hbk).1
          have HO := Lib.hid hown
          have bb2 : Below w.heap.size w w2 := hb.trans hb2
          have HR : Hid (decOk s = true → tnR s = limbs (valL s.data.toList).toNat) := Lib.hid (fun h => by unfold tnR; rw [if_pos h])
          have HR2 : Hid (decOk s = false → tnR s = []) := Lib.hid (fun h => by unfold tnR; rw [h]; rfl)
          clear hbk hown hne
          have hrl := HRL.out
          generalize limbs (valL s.data.toList).toNat = L at *
          go_wp2_with fail
          refine (implNatText_any _ L _ _ _ (by omega) (Nat.le_refl _) (Row.of_own HO.out) (ht.below bb2)).mono ?_
          rintro e w3 ⟨rfl, b3⟩
          have c3 : w3.cell? ⟨w1.heap.size, 0, none⟩ = some (.slice A L.length c) := (b3.cell (p := ⟨w1.heap.size, 0, none⟩) hlt).trans c2
          have HO3 := Lib.hid (own_below HO.out b3)
          have bb3 : Below w.heap.size w w3 := Below.next bb2 b3
          by_cases hsame : natTextB L = s
          · have HOK := Lib.hid (HRT.out.1 hsame)
            go_wp2
            go_ret2
            exact ⟨_, by rw [HOK.out]; rfl, by rw [HR.out HOK.out]; exact HO3.out, bb3⟩
          · have HOK : Hid (decOk s = false) := Lib.hid (by
              cases h : decOk s with
              | false => rfl
              | true => exact absurd (HRT.out.2 h) hsame)
            have hne := bytes_ne' hsame
            go_wp2
            go_ret2
            exact ⟨_, by rw [HOK.out]; rfl, by rw [HR2.out HOK.out]; exact World.ownsRow_nil _ _ _ _, bb3⟩
    · have hd' : digitsB s = false := by simpa using hd
      have HOK := Lib.hid (decOk_dig s hd')
      have HR : Hid (tnR s = []) := Lib.hid (by unfold tnR; rw [HOK.out]; rfl)
      clear hd
      go_enter Tryz.func38, Tryz.ntmps38
      go_wp2_with fail
      refine (implIsDigits_any s _).mono ?_
      rintro e w1 ⟨rfl, b1⟩
      rw [hd']
      go_wp2
      go_ret2
      exact ⟨_, by rw [HOK.out]; rfl, by rw [HR.out]; exact World.ownsRow_nil _ _ _ _, b1⟩
  · have HOK := Lib.hid (decOk_long s h450)
    have HR : Hid (tnR s = []) := Lib.hid (by unfold tnR; rw [HOK.out]; rfl)
    go_enter Tryz.func38, Tryz.ntmps38
    go_wp2
    go_ret2
    exact ⟨_, by rw [HOK.out]; rfl, by rw [HR.out]; exact World.ownsRow_nil _ _ _ _, Below.refl _ _⟩
end Go.Proofs.YtkkdlgiilhngcaaGreatDoor

namespace Go.Proofs.YtkkdlgiilhngcaaGreatDoor
open Go.RowKit

/-- the text of a signed number -/
def intStrB (x : SI) : ByteArray := if okS x = true then (if x.1 = true then ⟨#[45]⟩ ++ natTextB x.2 else natTextB x.2) else ⟨#[]⟩
/-- the number that a text is read as, and whether it is one -/
def siR (s : ByteArray) : SI := if decOk (bareB s) = true ∧ ¬ (negB s = true ∧ (tnR (bareB s)).length = 0) then (negB s, tnR (bareB s)) else zeroS
def siB (s : ByteArray) : Bool := decide (decOk (bareB s) = true ∧ ¬ (negB s = true ∧ (tnR (bareB s)).length = 0))
theorem tnR_ok {s : ByteArray} (h : decOk s = true) : natOkB (tnR s) = true := by
  have hd : digitsB s = true := by
    by_cases hd : digitsB s = true
    · exact hd
    · rw [decOk_dig s (by simpa using hd)] at h; exact absurd h (by decide)
  have h4 : s.size ≤ 450 := by
    by_cases h4 : s.size ≤ 450
    · exact h4
    · rw [decOk_long s h4] at h; exact absurd h (by decide)
  unfold tnR
  rw [if_pos h]
  exact limbs_okL _ (read_len s ((digitsB_iff s).1 hd).1 h4)
theorem tnR_bad {s : ByteArray} (h : ¬ decOk s = true) : tnR s = [] := by unfold tnR; rw [if_neg h]
theorem bareB_le (s : ByteArray) : (bareB s).size ≤ s.size := by
  cases h : negB s with
  | true => rw [← bareB_tail s h, ByteArray.size_extract]; omega
  | false => rw [bareB_self s h]; exact Nat.le_refl _
/-- a new signed number, and a bool -/
def NewSb (x : SI) (b : Bool) (w : World) (e : Ending) (w' : World) : Prop := ∃ u, e = .returned (.tuple #[.agg #[.bool x.1, u], .bool b]) ∧ w'.ownsRow w.heap.size 3 1 u x.2.length (intsV x.2) ∧ Below w.heap.size w w'
theorem newSb_ret {r : Nat} {u c0 c1 : Value} {x : SI} {b : Bool} {w W : World} {B : Nat} (hb : BoxAt r #[c0, c1] 25 W) (o : W.ownsRow B 3 1 u x.2.length (intsV x.2)) (hB : w.heap.size ≤ B) (hr : w.heap.size ≤ r) (hW : Below w.heap.size w W) :
    NewSb x b w (.returned (.tuple #[.agg #[.bool x.1, u], .bool b])) ((W.setCell ⟨r, 0, none⟩ (.bool x.1)).setCell ⟨r, 1, none⟩ u) := by
  have hne := Lib.ownBlock_ne o hb (by decide)
  refine ⟨u, rfl, own_low (own_stays o fun i hi => ?_) hB, below_set2 hW hr⟩
  have : i ≠ r := fun e => hne (by rw [hi, e])
  exact (Below.heap_setCell _ _ _ _ this).trans (Below.heap_setCell _ _ _ _ this)
theorem newSb_zero {b : Bool} {w W : World} (hW : Below w.heap.size w W) : NewSb zeroS b w (.returned (.tuple #[.agg #[.bool false, .slice none 0 0], .bool b])) W := ⟨_, rfl, World.ownsRow_nil _ _ _ _, hW⟩

set_option maxHeartbeats 1000000 in
set_option maxRecDepth 100000 in
theorem specIntStr_any (v : Value) (x : SI) (w : World) (hl : x.2.length ≤ 1048576) (h : RdS w v x) :
    Calls Tryz.prog 60 #[v] w fun e w' => e = .returned (.string (intStrB x)) ∧ Below w.heap.size w w' := by
  obtain ⟨u, rfl, hp⟩ := h
  obtain ⟨A, c, rfl⟩ := row_form hp
  rw [intsV_length] at hp
  rw [intsV_length]
  have hbx : Below w.heap.size w (w.alloc (.cells #[.bool x.1, .slice A x.2.length c] 25)) := below_al (Below.refl _ _) _
  have kb := box_new w #[.bool x.1, .slice A x.2.length c] 25
  have hrd := rdS_below hp hbx
  by_cases okx : okS x = true
  · have HV := Lib.hid (show intStrB x = if x.1 = true then ⟨#[45]⟩ ++ natTextB x.2 else natTextB x.2 by unfold intStrB; rw [if_pos okx])
    have hts := natTextB_size x.2
    go_enter Tryz.func60, Tryz.ntmps60
    go_wp2_with fail
    refine (specIntOk_any _ x _ hl hrd).mono ?_
    rintro e w1 ⟨rfl, b1⟩
    rw [okx]
    have bb1 := Below.next hbx b1
    replace kb := kb.below b1
    have hrow : Row w1 0 w.heap.size (.slice A x.2.length c) (intsV x.2) := hp.below bb1 (Nat.le_refl _)
    have hsz := bb1.size
    have cb0 := kb.here.cell 0 _ rfl
    have cb1 := kb.here.cell 1 _ rfl
    clear hrd okx hp
    cases hn : x.1 with
    | true =>
      rw [hn] at cb0 HV
      clear hn
      go_wp2_with fail
      refine (specNatText_any _ x.2 0 w.heap.size _ hl hsz hrow).mono ?_
      rintro e w2 ⟨rfl, b2⟩
      have bb2 := Below.next bb1 b2
      generalize natTextB x.2 = t at *
      clear hrow
      go_wp2
      go_ret
      exact ⟨ret_str (by rw [HV.out]; rfl), bb2⟩
    | false =>
      rw [hn] at cb0 HV
      clear hn
      go_wp2_with fail
      refine (specNatText_any _ x.2 0 w.heap.size _ hl hsz hrow).mono ?_
      rintro e w2 ⟨rfl, b2⟩
      have bb2 := Below.next bb1 b2
      generalize natTextB x.2 = t at *
      clear hrow
      go_wp2
      go_ret
      exact ⟨ret_str (by rw [HV.out]; rfl), bb2⟩
  · have okx' : okS x = false := by simpa using okx
    have HV := Lib.hid (show intStrB x = ⟨#[]⟩ by unfold intStrB; rw [if_neg okx])
    clear okx
    go_enter Tryz.func60, Tryz.ntmps60
    go_wp2_with fail
    refine (specIntOk_any _ x _ hl hrd).mono ?_
    rintro e w1 ⟨rfl, b1⟩
    rw [okx']
    have bb1 := Below.next hbx b1
    clear kb hrd
    go_wp2
    go_ret
    exact ⟨ret_str HV.out.symm, bb1⟩
set_option maxHeartbeats 1000000 in
set_option maxRecDepth 100000 in
theorem implIntStr_any (v : Value) (x : SI) (w : World) (hl : x.2.length ≤ 1048576) (h : RdS w v x) (ht : Tab w) :
    Calls Tryz.prog 42 #[v] w fun e w' => e = .returned (.string (intStrB x)) ∧ Below w.heap.size w w' := by
  obtain ⟨u, rfl, hp⟩ := h
  obtain ⟨A, c, rfl⟩ := row_form hp
  rw [intsV_length] at hp
  rw [intsV_length]
  have hbx : Below w.heap.size w (w.alloc (.cells #[.bool x.1, .slice A x.2.length c] 25)) := below_al (Below.refl _ _) _
  have kb := box_new w #[.bool x.1, .slice A x.2.length c] 25
  have hrd := rdS_below hp hbx
  by_cases okx : okS x = true
  · have HV := Lib.hid (show intStrB x = if x.1 = true then ⟨#[45]⟩ ++ natTextB x.2 else natTextB x.2 by unfold intStrB; rw [if_pos okx])
    have hts := natTextB_size x.2
    go_enter Tryz.func42, Tryz.ntmps42
    go_wp2_with fail
    refine (implIntOk_any _ x _ hl hrd).mono ?_
    rintro e w1 ⟨rfl, b1⟩
    rw [okx]
    have bb1 := Below.next hbx b1
    replace kb := kb.below b1
    have hrow : Row w1 0 w.heap.size (.slice A x.2.length c) (intsV x.2) := hp.below bb1 (Nat.le_refl _)
    have hsz := bb1.size
    have cb0 := kb.here.cell 0 _ rfl
    have cb1 := kb.here.cell 1 _ rfl
    clear hrd okx hp
    cases hn : x.1 with
    | true =>
      rw [hn] at cb0 HV
      clear hn
      go_wp2_with fail
      refine (implNatText_any _ x.2 0 w.heap.size _ hl hsz hrow (ht.below bb1)).mono ?_
      rintro e w2 ⟨rfl, b2⟩
      have bb2 := Below.next bb1 b2
      generalize natTextB x.2 = t at *
      clear hrow
      go_wp2
      go_ret
      exact ⟨ret_str (by rw [HV.out]; rfl), bb2⟩
    | false =>
      rw [hn] at cb0 HV
      clear hn
      go_wp2_with fail
      refine (implNatText_any _ x.2 0 w.heap.size _ hl hsz hrow (ht.below bb1)).mono ?_
      rintro e w2 ⟨rfl, b2⟩
      have bb2 := Below.next bb1 b2
      generalize natTextB x.2 = t at *
      clear hrow
      go_wp2
      go_ret
      exact ⟨ret_str (by rw [HV.out]; rfl), bb2⟩
  · have okx' : okS x = false := by simpa using okx
    have HV := Lib.hid (show intStrB x = ⟨#[]⟩ by unfold intStrB; rw [if_neg okx])
    clear okx
    go_enter Tryz.func42, Tryz.ntmps42
    go_wp2_with fail
    refine (implIntOk_any _ x _ hl hrd).mono ?_
    rintro e w1 ⟨rfl, b1⟩
    rw [okx']
    have bb1 := Below.next hbx b1
    clear kb hrd
    go_wp2
    go_ret
    exact ⟨ret_str HV.out.symm, bb1⟩

set_option maxHeartbeats 1000000 in
set_option maxRecDepth 100000 in
theorem implStrInt_any (s : ByteArray) (w : World) (hs : s.size ≤ 9223372036854775807) (ht : Tab w) :
    Calls Tryz.prog 37 #[.string s] w (NewSb (siR s) (siB s) w) := by
  have hbb : Below w.heap.size w (w.alloc (.cells #[.bool false, .slice none 0 0] 25)) := below_al (Below.refl _ _) _
  have kr := box_new w #[.bool false, .slice none 0 0] 25
  obtain ⟨W0, hW0⟩ : ∃ W0, W0 = w.alloc (.cells #[.bool false, .slice none 0 0] 25) := ⟨_, rfl⟩
  rw [← hW0] at hbb kr
  have HW := Lib.hid hW0
  clear hW0
  have hbs := bareB_le s
  have HR := Lib.hid (show siR s = if decOk (bareB s) = true ∧ ¬ (negB s = true ∧ (tnR (bareB s)).length = 0) then (negB s, tnR (bareB s)) else zeroS from rfl)
  have HB := Lib.hid (show siB s = decide (decOk (bareB s) = true ∧ ¬ (negB s = true ∧ (tnR (bareB s)).length = 0)) from rfl)
  have HOK := Lib.hid (show decOk (bareB s) = true → natOkB (tnR (bareB s)) = true from tnR_ok)
  have HTL := tnR_len (bareB s)
  have HI := Lib.hid (implTextNat_any (bareB s) W0 (by omega) (ht.below hbb))
  unfold TNNew at HI
  go_enter Tryz.func37, Tryz.ntmps37
  go_wp2_with fail
  rw [← HW.out]
  refine (cutPrefix_any s _).mono ?_
  rintro e w' ⟨rfl, rfl⟩
  generalize negB s = n at *
  go_wp2_with fail
  refine HI.out.mono ?_
  rintro e w1 ⟨v1, rfl, o1, b1⟩
  generalize tnR (bareB s) = R at *
  obtain ⟨A1, c1, rfl⟩ := own_len o1
  have bb1 := Below.next hbb b1
  replace kr := kr.below b1
  have hx := below_al (Below.refl w1.heap.size w1) (.cells #[.bool n, .slice A1 R.length c1] 25)
  have kx := box_new w1 #[.bool n, .slice A1 R.length c1] 25
  have ox := own_below o1 hx
  have kr2 := kr.below hx
  have bb2 := Below.next bb1 hx
  have HK := Lib.hid kr2
  have HO := Lib.hid ox
  have rdx := (OwnS.mk (x := (n, R)) (ownI_of ox)).rd
  have hW0s := hbb.size
  clear kr2 kr o1 ox b1 hbb HI
  by_cases hd : decOk (bareB s) = true
  · rw [hd]
    have hnat := HOK.out hd
    go_wp2_with fail
    refine (implIntOk_any _ (n, R) _ (by show R.length ≤ _; omega) rdx).mono ?_
    rintro e w2 ⟨rfl, b2⟩
    have bb3 := Below.next bb2 b2
    have kx2 := kx.below b2
    have kr3 := HK.out.below b2
    have ox3 := own_below HO.out b2
    have cx0 := kx2.here.cell 0 _ rfl
    have cx1 := kx2.here.cell 1 _ rfl
    have cz0 := kr3.here.cell 0 _ rfl
    have cz1 := kr3.here.cell 1 _ rfl
    have fz0 := Lib.frozen_of_heap kr3.here 0
    have fz1 := Lib.frozen_of_heap kr3.here 1
    have HK3 := Lib.hid kr3
    have HO3 := Lib.hid ox3
    by_cases hz : n = true ∧ R.length = 0
    · have hok : okS (n, R) = false := by
        unfold okS
        rw [hnat, hz.1]
        simp [hz.2]
      rw [hok]
      have HV : Hid (siR s = zeroS ∧ siB s = false) := Lib.hid (by rw [HR.out, HB.out, if_neg (fun h => h.2 hz)]; exact ⟨rfl, decide_eq_false (fun h => h.2 hz)⟩)
      clear hz hok kx kx2 kr3 ox3 rdx hx b2 hd hnat
      go_wp2
      refine bodyPost_ret (v := .tuple #[.agg #[.bool false, .slice none 0 0], .bool false]) (by simp [results, Tryz.results37, go_sem, cz0, cz1]) rfl ?_
      rw [HV.out.1, HV.out.2]
      exact newSb_zero (below_set2 bb3 (Nat.le_refl _))
    · have hok : okS (n, R) = true := by
        unfold okS
        rw [hnat]
        cases n with
        | false => rfl
        | true =>
          have : 0 < R.length := by
            rcases Nat.eq_zero_or_pos R.length with h | h
            · exact absurd ⟨rfl, h⟩ hz
            · exact h
          simp [this]
      rw [hok]
      have HV : Hid (siR s = (n, R) ∧ siB s = true) := Lib.hid (by rw [HR.out, HB.out, if_pos ⟨hd, hz⟩]; exact ⟨rfl, decide_eq_true ⟨hd, hz⟩⟩)
      clear hz hok kx kx2 kr3 ox3 rdx hx b2 hd hnat
      go_wp2
      refine bodyPost_ret (v := .tuple #[.agg #[.bool _, .slice A1 _ c1], .bool true]) (by simp [results, Tryz.results37, go_sem, cz0, cz1]; exact ⟨rfl, rfl⟩) rfl ?_
      rw [HV.out.1, HV.out.2]
      exact newSb_ret HK3.out.here HO3.out hW0s (Nat.le_refl _) bb3
  · have hd' : decOk (bareB s) = false := by simpa using hd
    rw [hd']
    have cz0 := HK.out.here.cell 0 _ rfl
    have cz1 := HK.out.here.cell 1 _ rfl
    have fz0 := Lib.frozen_of_heap HK.out.here 0
    have fz1 := Lib.frozen_of_heap HK.out.here 1
    have HV : Hid (siR s = zeroS ∧ siB s = false) := Lib.hid (by rw [HR.out, HB.out, if_neg (fun h => hd h.1)]; exact ⟨rfl, decide_eq_false (fun h => hd h.1)⟩)
    clear hd hd' kx rdx hx
    go_wp2
    refine bodyPost_ret (v := .tuple #[.agg #[.bool false, .slice none 0 0], .bool false]) (by simp [results, Tryz.results37, go_sem, cz0, cz1]) rfl ?_
    rw [HV.out.1, HV.out.2]
    exact newSb_zero (below_set2 bb2 (Nat.le_refl _))

set_option maxHeartbeats 1000000 in
set_option maxRecDepth 100000 in
theorem specStrInt_any (s : ByteArray) (w : World) (hs : s.size ≤ 1048576) :
    Calls Tryz.prog 63 #[.string s] w (NewSb (siR s) (siB s) w) := by
  have hbb : Below w.heap.size w (w.alloc (.cells #[.bool false, .slice none 0 0] 25)) := below_al (Below.refl _ _) _
  have kr := box_new w #[.bool false, .slice none 0 0] 25
  obtain ⟨W0, hW0⟩ : ∃ W0, W0 = w.alloc (.cells #[.bool false, .slice none 0 0] 25) := ⟨_, rfl⟩
  rw [← hW0] at hbb kr
  have HW := Lib.hid hW0
  clear hW0
  have hbs := bareB_le s
  have HR := Lib.hid (show siR s = if decOk (bareB s) = true ∧ ¬ (negB s = true ∧ (tnR (bareB s)).length = 0) then (negB s, tnR (bareB s)) else zeroS from rfl)
  have HB := Lib.hid (show siB s = decide (decOk (bareB s) = true ∧ ¬ (negB s = true ∧ (tnR (bareB s)).length = 0)) from rfl)
  have HTL := tnR_len (bareB s)
  have HI := Lib.hid ((specTextNat_any (bareB s) W0 (by omega)).mono fun _ _ h => h.new)
  unfold TNNew at HI
  have HKR := Lib.hid kr
  have HBB := Lib.hid hbb
  clear kr hbb
  have tail : ∀ (n : Bool) (R : List Int) (A1 : Option Addr) (c1 : Nat) (w1 : World), w1.ownsRow W0.heap.size 3 1 (.slice A1 R.length c1) R.length (intsV R) → Below W0.heap.size W0 w1 →
      NewSb (n, R) true w (.returned (.tuple #[.agg #[.bool n, .slice A1 R.length c1], .bool true])) ((w1.setCell ⟨w.heap.size, 0, none⟩ (.bool n)).setCell ⟨w.heap.size, 1, none⟩ (.slice A1 R.length c1)) := fun n R A1 c1 w1 o b =>
    newSb_ret (x := (n, R)) (HKR.out.below b).here o HBB.out.size (Nat.le_refl _) (Below.next HBB.out b)
  have TAIL := Lib.hid tail
  clear tail
  by_cases h0 : 0 < s.size
  · have hh := negB_head s h0
    have HBT := Lib.hid (show (negB s = true → s.extract 1 s.size = bareB s) ∧ (negB s = false → bareB s = s) from ⟨bareB_tail s, bareB_self s⟩)
    obtain ⟨n, hn⟩ : ∃ n, negB s = n := ⟨_, rfl⟩
    rw [hn] at hh HBT HR HB
    have hh' := hh.symm
    clear hh hn
    cases n with
    | false =>
      rw [HBT.out.2 rfl] at HI HR HB HTL
      clear HBT
      go_enter Tryz.func63, Tryz.ntmps63
      go_wp2_with fail
      rw [← HW.out]
      skip
      refine HI.out.mono ?_
      rintro e w1 ⟨v1, rfl, o1, b1⟩
      generalize tnR _ = R at *
      obtain ⟨A1, c1, rfl⟩ := own_len o1
      have bb1 := Below.next HBB.out b1
      have kr1 := HKR.out.below b1
      have cz0 := kr1.here.cell 0 _ rfl
      have cz1 := kr1.here.cell 1 _ rfl
      have fz0 := Lib.frozen_of_heap kr1.here 0
      have fz1 := Lib.frozen_of_heap kr1.here 1
      have TL := Lib.hid (TAIL.out false R A1 c1 w1 o1 b1)
      clear kr1 o1 b1 HI
      generalize decOk _ = ok at *
      cases ok with
      | false =>
        have HV : Hid (siR s = zeroS ∧ siB s = false) := Lib.hid (by rw [HR.out, HB.out, if_neg (fun h => by cases h.1)]; exact ⟨rfl, decide_eq_false (fun h => by cases h.1)⟩)
        clear HR HB
        go_wp2
        refine bodyPost_ret (v := .tuple #[.agg #[.bool false, .slice none 0 0], .bool false]) (by simp [results, Tryz.results63, go_sem, cz0, cz1]) rfl ?_
        rw [HV.out.1, HV.out.2]
        exact newSb_zero (below_set2 bb1 (Nat.le_refl _))
      | true =>
        have HV : Hid (siR s = (false, R) ∧ siB s = true) := Lib.hid (by rw [HR.out, HB.out, if_pos ⟨rfl, fun h => by cases h.1⟩]; exact ⟨rfl, decide_eq_true ⟨rfl, fun h => by cases h.1⟩⟩)
        clear HR HB
        go_wp2
        refine bodyPost_ret (v := .tuple #[.agg #[.bool _, .slice A1 _ c1], .bool true]) (by simp [results, Tryz.results63, go_sem, cz0, cz1]; exact ⟨rfl, rfl⟩) rfl ?_
        rw [HV.out.1, HV.out.2]
        exact TL.out
    | true =>
      rw [← HBT.out.1 rfl] at HI HR HB HTL
      clear HBT
      go_enter Tryz.func63, Tryz.ntmps63
      go_wp2_with fail
      rw [← HW.out]
      skip
      refine HI.out.mono ?_
      rintro e w1 ⟨v1, rfl, o1, b1⟩
      generalize tnR _ = R at *
      obtain ⟨A1, c1, rfl⟩ := own_len o1
      have bb1 := Below.next HBB.out b1
      have kr1 := HKR.out.below b1
      have cz0 := kr1.here.cell 0 _ rfl
      have cz1 := kr1.here.cell 1 _ rfl
      have fz0 := Lib.frozen_of_heap kr1.here 0
      have fz1 := Lib.frozen_of_heap kr1.here 1
      have TL := Lib.hid (TAIL.out true R A1 c1 w1 o1 b1)
      clear kr1 o1 b1 HI
      generalize decOk _ = ok at *
      cases ok with
      | false =>
        have HV : Hid (siR s = zeroS ∧ siB s = false) := Lib.hid (by rw [HR.out, HB.out, if_neg (fun h => by cases h.1)]; exact ⟨rfl, decide_eq_false (fun h => by cases h.1)⟩)
        clear HR HB
        go_wp2
        refine bodyPost_ret (v := .tuple #[.agg #[.bool false, .slice none 0 0], .bool false]) (by simp [results, Tryz.results63, go_sem, cz0, cz1]) rfl ?_
        rw [HV.out.1, HV.out.2]
        exact newSb_zero (below_set2 bb1 (Nat.le_refl _))
      | true =>
        by_cases hz : R.length = 0
        · have hb : ((R.length : Int) == 0) = true := by rw [hz]; rfl
          have HV : Hid (siR s = zeroS ∧ siB s = false) := Lib.hid (by rw [HR.out, HB.out, if_neg (fun h => h.2 ⟨by trivial, hz⟩)]; exact ⟨rfl, decide_eq_false (fun h => h.2 ⟨by trivial, hz⟩)⟩)
          clear hz
          clear HR HB
          go_wp2
          refine bodyPost_ret (v := .tuple #[.agg #[.bool false, .slice none 0 0], .bool false]) (by simp [results, Tryz.results63, go_sem, cz0, cz1]) rfl ?_
          rw [HV.out.1, HV.out.2]
          exact newSb_zero (below_set2 bb1 (Nat.le_refl _))
        · have hb : ((R.length : Int) == 0) = false := by rw [beq_eq_false_iff_ne]; omega
          have HV : Hid (siR s = (true, R) ∧ siB s = true) := Lib.hid (by rw [HR.out, HB.out, if_pos ⟨rfl, fun h => hz h.2⟩]; exact ⟨rfl, decide_eq_true ⟨rfl, fun h => hz h.2⟩⟩)
          clear hz
          clear HR HB
          go_wp2
          refine bodyPost_ret (v := .tuple #[.agg #[.bool _, .slice A1 _ c1], .bool true]) (by simp [results, Tryz.results63, go_sem, cz0, cz1]; exact ⟨rfl, rfl⟩) rfl ?_
          rw [HV.out.1, HV.out.2]
          exact TL.out
  · have hn := negB_nil s h0
    rw [hn, bareB_self s hn] at HR HB
    rw [bareB_self s hn] at HI HTL
    clear hn
    go_enter Tryz.func63, Tryz.ntmps63
    go_wp2_with fail
    rw [← HW.out]
    skip
    refine HI.out.mono ?_
    rintro e w1 ⟨v1, rfl, o1, b1⟩
    generalize tnR _ = R at *
    obtain ⟨A1, c1, rfl⟩ := own_len o1
    have bb1 := Below.next HBB.out b1
    have kr1 := HKR.out.below b1
    have cz0 := kr1.here.cell 0 _ rfl
    have cz1 := kr1.here.cell 1 _ rfl
    have fz0 := Lib.frozen_of_heap kr1.here 0
    have fz1 := Lib.frozen_of_heap kr1.here 1
    have TL := Lib.hid (TAIL.out false R A1 c1 w1 o1 b1)
    clear kr1 o1 b1 HI
    generalize decOk _ = ok at *
    cases ok with
    | false =>
      have HV : Hid (siR s = zeroS ∧ siB s = false) := Lib.hid (by rw [HR.out, HB.out, if_neg (fun h => by cases h.1)]; exact ⟨rfl, decide_eq_false (fun h => by cases h.1)⟩)
      clear HR HB
      go_wp2
      refine bodyPost_ret (v := .tuple #[.agg #[.bool false, .slice none 0 0], .bool false]) (by simp [results, Tryz.results63, go_sem, cz0, cz1]) rfl ?_
      rw [HV.out.1, HV.out.2]
      exact newSb_zero (below_set2 bb1 (Nat.le_refl _))
    | true =>
      have HV : Hid (siR s = (false, R) ∧ siB s = true) := Lib.hid (by rw [HR.out, HB.out, if_pos ⟨rfl, fun h => by cases h.1⟩]; exact ⟨rfl, decide_eq_true ⟨rfl, fun h => by cases h.1⟩⟩)
      clear HR HB
      go_wp2
      refine bodyPost_ret (v := .tuple #[.agg #[.bool _, .slice A1 _ c1], .bool true]) (by simp [results, Tryz.results63, go_sem, cz0, cz1]; exact ⟨rfl, rfl⟩) rfl ?_
      rw [HV.out.1, HV.out.2]
      exact TL.out
end Go.Proofs.YtkkdlgiilhngcaaGreatDoor

namespace Go.Proofs.YtkkdlgiilhngcaaGreatDoor
open Go.RowKit

/-- does the byte occur in by -/
def hitB (by_ : ByteArray) (c : UInt8) : Bool := by_.data.toList.contains c
/-- the pieces that the first k bytes of s end, and where the next piece begins -/
def cutsTo (s by_ : ByteArray) : Nat → List ByteArray × Nat
  | 0 => ([], 0)
  | k + 1 => if hitB by_ (s.data.toList.getD k 0) then ((cutsTo s by_ k).1 ++ [s.extract (cutsTo s by_ k).2 k], k + 1) else cutsTo s by_ k
def cutAtB (s by_ : ByteArray) : List ByteArray := (cutsTo s by_ s.size).1 ++ [s.extract (cutsTo s by_ s.size).2 s.size]

theorem cutsTo_le (s by_ : ByteArray) (k : Nat) : (cutsTo s by_ k).2 ≤ k ∧ (cutsTo s by_ k).1.length ≤ k := by
  induction k with
  | zero => simp [cutsTo]
  | succ k ih =>
    unfold cutsTo
    split
    · simp; omega
    · omega
theorem getD_get (s : ByteArray) (k : Nat) (h : k < s.size) : s.data.toList.getD k 0 = s[k] := by
  rw [List.getD_eq_getElem?_getD, List.getElem?_eq_getElem (by simpa using h)]
  rfl
theorem cutsTo_hit (s by_ : ByteArray) (k : Nat) (h : k < s.size) (hh : hitB by_ s[k] = true) : cutsTo s by_ (k + 1) = ((cutsTo s by_ k).1 ++ [s.extract (cutsTo s by_ k).2 k], k + 1) := by
  rw [cutsTo, getD_get s k h, if_pos hh]
theorem cutsTo_miss (s by_ : ByteArray) (k : Nat) (h : k < s.size) (hh : hitB by_ s[k] = false) : cutsTo s by_ (k + 1) = cutsTo s by_ k := by
  rw [cutsTo, getD_get s k h, if_neg (by simp [hh])]
theorem index_hit (l : List UInt8) (c : UInt8) : (0 ≤ Lib.indexByte l c) ↔ l.contains c = true := by
  induction l with
  | nil => simp [Lib.indexByte]
  | cons b l ih =>
    have hg := Lib.indexByte_ge l c
    unfold Lib.indexByte
    by_cases hbc : b = c
    · simp [hbc]
    · have hne : (b == c) = false := by simpa using hbc
      rw [hne, List.contains_cons]
      have hne' : (c == b) = false := by simpa using fun e => hbc e.symm
      rw [hne', Bool.false_or, ← ih]
      by_cases hm : Lib.indexByte l c = -1
      · simp [hm]
      · simp [hm]; omega

theorem strInfo : (Tryz.prog.info? 9).map (fun i => (i.zero, i.size, i.bytes)) = some (some (.string ⟨#[]⟩), 1, 16) := by kernel_rfl

/-- the pieces, as cells -/
def strsV (l : List ByteArray) : List Value := l.map Value.string

/-- what the loop of CutAt knows at its head -/
def CutRel (s by_ : ByteArray) (w : World) (v st i : Value) (wr : World) : Prop :=
  ∃ k : Nat, k ≤ s.size ∧ i = .int .i64 k ∧ st = .int .i64 (cutsTo s by_ k).2 ∧ wr.ownsRow w.heap.size 9 1 v (cutsTo s by_ k).1.length (strsV (cutsTo s by_ k).1) ∧ Below w.heap.size w wr
theorem cut_step {s by_ : ByteArray} {k : Nat} {w w1 : World} {v1 : Value} (hc : cutsTo s by_ (k + 1) = ((cutsTo s by_ k).1 ++ [s.extract (cutsTo s by_ k).2 k], k + 1)) (hk : k + 1 ≤ s.size)
    (hown : w1.ownsRow w.heap.size 9 1 v1 ((cutsTo s by_ k).1.length + 1) (strsV (cutsTo s by_ k).1 ++ [Value.string (s.extract (cutsTo s by_ k).2 k)])) (hb : Below w.heap.size w w1) :
    CutRel s by_ w v1 (.int .i64 ((k : Int) + 1)) (.int .i64 ((k : Int) + 1)) w1 := by
  refine ⟨k + 1, hk, by go_num, by rw [hc]; go_num, ?_, hb⟩
  rw [hc]
  simpa [strsV] using hown


/-- whether the byte occurs in by from place j on -/
def hitFrom (by_ : ByteArray) (c : UInt8) (j : Nat) : Bool := (by_.data.toList.drop j).contains c
theorem hitFrom_step (by_ : ByteArray) (c : UInt8) (j : Nat) (h : j < by_.size) (hne : ¬ c = by_[j]) : hitFrom by_ c (j + 1) = hitFrom by_ c j := by
  have hd := List.drop_eq_getElem_cons (l := by_.data.toList) (i := j) (by simpa using h)
  have : (c == by_.data.toList[j]'(by simpa using h)) = false := by
    rw [beq_eq_false_iff_ne]
    exact hne
  rw [hitFrom, hitFrom, hd, List.contains_cons, this, Bool.false_or]
theorem hitFrom_here (by_ : ByteArray) (c : UInt8) (j : Nat) (h : j < by_.size) (he : c = by_[j]) : hitFrom by_ c j = true := by
  unfold hitFrom
  rw [List.drop_eq_getElem_cons (by simpa using h), List.contains_cons]
  have : (c == by_.data.toList[j]'(by simpa using h)) = true := by
    rw [beq_iff_eq]
    exact he
  rw [this, Bool.true_or]
theorem hitFrom_end (by_ : ByteArray) (c : UInt8) (j : Nat) (h : ¬ j < by_.size) : hitFrom by_ c j = false := by
  unfold hitFrom
  rw [List.drop_eq_nil_of_le (by simp; omega)]
  rfl
theorem byte_ne {a b : UInt8} (h : ¬ a = b) : ((a.toNat : Int) == (b.toNat : Int)) = false := by
  rw [beq_eq_false_iff_ne]
  intro e
  exact h (UInt8.toNat_inj.1 (by omega))
theorem byte_eq {a b : UInt8} (h : a = b) : ((a.toNat : Int) == (b.toNat : Int)) = true := by rw [h]; simp
theorem own_drewN {w : World} {base size n : Nat} {e : TypeId} {v : Value} {xs : List Value} (h : w.ownsRow base e size v n xs) (q : Nat) : (w.drewN q).ownsRow base e size v n xs := h

set_option maxHeartbeats 800000 in
set_option maxRecDepth 100000 in
theorem specCutAt_any (s by_ : ByteArray) (w : World) (hs : s.size ≤ 1048576) (hy : by_.size ≤ 1048576) :
    Calls Tryz.prog 62 #[.string s, .string by_] w fun e w' => ∃ v, e = .returned v ∧ w'.ownsRow w.heap.size 9 1 v (cutAtB s by_).length (strsV (cutAtB s by_)) ∧ Below w.heap.size w w' := by
  obtain ⟨i0, hi, hz0, hz1, hz2⟩ := info_parts strInfo
  go_enter Tryz.func62, Tryz.ntmps62
  go_wp2
  go_loopw [5, 6, 7] (fun v st i wr => CutRel s by_ w v st i wr) (fun _ _ i _ => s.size - (intOf i).toNat)
  case atStart => exact ⟨0, Nat.zero_le _, rfl, rfl, ⟨rfl, .inr ⟨w.heap.size, 0, #[], rfl, Nat.le_refl _, heap_alloc_new w _, Nat.le_refl _, Nat.zero_le _, rfl, rfl⟩⟩, (Below.refl _ _).alloc (Nat.le_refl _) _⟩
  case round =>
    obtain ⟨k, hk, rfl, rfl, hown, hb⟩ := hrel
    obtain ⟨wo, rfl⟩ : ∃ wo : World, wo = wr := ⟨_, rfl⟩
    have hcl := cutsTo_le s by_ k
    by_cases hlt : k < s.size
    · go_wp2
      go_loopw [5, 6, 8] (fun v1 st1 j wi => ∃ m q : Nat, m ≤ by_.size ∧ j = .int .i64 m ∧ v1 = u5 ∧ st1 = .int .i64 (cutsTo s by_ k).2 ∧ wi = wo.drewN q ∧ Hid (hitFrom by_ s[k] m = hitB by_ s[k])) (fun _ _ j _ => by_.size - (intOf j).toNat)
      case atStart => exact ⟨0, 0, Nat.zero_le _, rfl, rfl, rfl, rfl, Lib.hid rfl⟩
      case round =>
        obtain ⟨m, q, hm, rfl, rfl, rfl, rfl, HH⟩ := hrel
        by_cases hlm : m < by_.size
        · by_cases he : s[k] = by_[m]
          · have heq := byte_eq he
            have HC := Lib.hid (cutsTo_hit s by_ k hlt (by rw [← HH.out]; exact hitFrom_here by_ s[k] m hlm he))
            clear he
            go_wp2
            go_quiet (fail)
            go_wp2_with (at_builtin; refine wpList_append_own _ rfl (.tmp 29) (.tmp 34) 69 rfl w.heap.size 9 i0 (.string ⟨#[]⟩) 1 16 Tryz.underlying69 hi hz0 hz1 hz2 rfl (by decide) _ _ _ rfl (own_alloc (own_drewN hown _) _) ⟨wo.heap.size, 0, none⟩ 1 1 [.string (s.extract (cutsTo s by_ k).2 k)] rfl rfl (one_new _ _ _) ?c2 ?c3 ?c4 ?c5 ?_)
            case c2 => intro u hu; simp at hu; subst hu; rfl
            case c3 => unfold maxLen; omega
            case c4 => omega
            case c5 => have := hb.size; simp; omega
            intro v1 w1 hown1 hg1 _
            have hb1 := below_push (below_drewN hb (q + nq)) (Nat.le_refl _) (own_drewN hown (q + nq)) hg1
            go_wp2
            exact ⟨cut_step HC.out (by omega) hown1 hb1, by simp [intOf]; omega⟩
          · have hne := byte_ne he
            have HS := Lib.hid ((hitFrom_step by_ s[k] m hlm he).trans HH.out)
            clear he
            go_wp2
            go_quiet (fail)
            go_wp2
            exact ⟨⟨m + 1, _, by omega, by go_num, rfl, rfl, rfl, HS⟩, by simp [intOf]; omega⟩
        · have HC := Lib.hid (cutsTo_miss s by_ k hlt (by rw [← HH.out]; exact hitFrom_end by_ s[k] m hlm))
          go_wp2
          exact ⟨⟨k + 1, by omega, by go_num, by rw [HC.out], by rw [HC.out]; exact own_drewN hown q, below_drewN hb q⟩, by simp [intOf]; omega⟩
    · obtain rfl : k = s.size := by omega
      go_wp2_with (at_builtin; refine wpList_append_own _ rfl (.tmp 38) (.tmp 42) 69 rfl w.heap.size 9 i0 (.string ⟨#[]⟩) 1 16 Tryz.underlying69 hi hz0 hz1 hz2 rfl (by decide) _ _ _ rfl (own_alloc hown _) ⟨wo.heap.size, 0, none⟩ 1 1 [.string (s.extract (cutsTo s by_ s.size).2 s.size)] rfl rfl (one_new _ _ _) ?c2 ?c3 ?c4 ?c5 ?_)
      case c2 => intro u hu; simp at hu; subst hu; rfl
      case c3 => unfold maxLen; omega
      case c4 => omega
      case c5 => have := hb.size; simp; omega
      intro v1 w1 hown1 hg1 _
      have hb1 := below_push hb (Nat.le_refl _) hown hg1
      go_wp2
      go_ret
      exact ⟨v1, rfl, by simpa [cutAtB, strsV] using hown1, hb1⟩
/-- the pieces that a contract hands back -/
def Pieces (P : List ByteArray) (w : World) (e : Ending) (w' : World) : Prop := ∃ v, e = .returned v ∧ w'.ownsRow w.heap.size 9 1 v P.length (strsV P) ∧ Below w.heap.size w w'

theorem cutAt_length (s b : ByteArray) (h : s.size ≤ 1048576) : (cutAtB s b).length ≤ 1048577 := by
  have := cutsTo_le s b s.size
  simp [cutAtB]
  omega



/-- the last piece, and those ahead of it -/
def lastB (s : ByteArray) : ByteArray := s.extract (cutsTo s ⟨#[10]⟩ s.size).2 s.size
def firstB (s : ByteArray) : List ByteArray := (cutsTo s ⟨#[10]⟩ s.size).1
/-- the lines of a text -/
def linesB (s : ByteArray) : List ByteArray := if (lastB s).toList.isEmpty = true then firstB s else firstB s ++ [lastB s]
theorem lines_length (s : ByteArray) (h : s.size ≤ 1048576) : (linesB s).length ≤ 1048577 := by
  have := cutsTo_le s ⟨#[10]⟩ s.size
  unfold linesB firstB
  split
  · omega
  · simp; omega
/-- a row of the call's own, its last element left out -/
theorem own_short {w : World} {base g cap n : Nat} {e : TypeId} {xs : List Value} {x : Value} (h : w.ownsRow base e 1 (.slice (some ⟨g, 0, none⟩) (n + 1) cap) (n + 1) (xs ++ [x])) : w.ownsRow base e 1 (.slice (some ⟨g, 0, none⟩) n cap) n xs := by
  obtain ⟨hl, h | ⟨g', cap', cur, e1, hb, hh, hn, hc, hs, ht⟩⟩ := h
  · cases h.1
  · cases e1
    have hxl : xs.length = n := by simp at hl; omega
    refine ⟨by omega, .inr ⟨g, cap, cur, rfl, hb, hh, by omega, hc, hs, ?_⟩⟩
    have h2 := congrArg (List.take n) ht
    rw [List.take_take, List.take_append_of_le_length (by omega), List.take_of_length_le (l := xs) (by omega)] at h2
    rw [← h2]
    congr 1
    omega



end Go.Proofs.YtkkdlgiilhngcaaGreatDoor

namespace Go.Proofs.YtkkdlgiilhngcaaGreatDoor
open Go.RowKit

def slashS : ByteArray := ⟨#[47]⟩
/-- what RatText answers -/
def ratTextB (r : QI) : ByteArray := if okQ r = true then (if denQ r = 1 then intStrB r.1 else intStrB r.1 ++ slashS ++ natTextB r.2) else ⟨#[]⟩
theorem den_cmp {r : QI} (h : okQ r = true) : (cmpI (nval r.2) (nval [1]) == 0) = decide (denQ r = 1) := by
  have h2 := nval_ok (okQ_parts h).2.1
  rw [one_val]
  unfold denQ cmpI
  by_cases e : nval r.2 = 1
  · rw [e]; rfl
  · rw [decide_eq_false (by omega), beq_eq_false_iff_ne]
    split
    · omega
    · split <;> omega
theorem den_cmpN {r : QI} (h : okQ r = true) : (cmpN r.2 (limbs 1) == 0) = decide (denQ r = 1) := by
  have ok1 : natOkB (limbs 1) = true := by rw [one_limbs]; rfl
  unfold cmpN
  rw [if_pos ⟨(okQ_parts h).2.1, ok1⟩, one_limbs]
  exact den_cmp h
theorem natText_slash (a : List Int) : (natTextB a).data.toList.count 47 = 0 := by
  by_cases h : natOkB a = true
  · have ha := natOk_limbs h
    have hl := (natOk_parts h).2.1
    rw [ha] at hl
    rw [ha, natText_limbs _ hl, List.count_eq_zero]
    intro hm
    have := (dig_dec (nval a).toNat).1 47 hm
    revert this
    decide
  · unfold natTextB
    rw [if_neg h]
    rfl
theorem intStr_slash (x : SI) : (intStrB x).data.toList.count 47 = 0 := by
  unfold intStrB
  split
  · split
    · have e : ((⟨#[45]⟩ : ByteArray) ++ natTextB x.2).data.toList = 45 :: (natTextB x.2).data.toList := by simp
      rw [e, List.count_cons, natText_slash]
      rfl
    · exact natText_slash _
  · rfl
theorem ratText_slash (r : QI) : (ratTextB r).data.toList.count 47 ≤ 1 := by
  unfold ratTextB
  split
  · split
    · rw [intStr_slash]; omega
    · have e : (intStrB r.1 ++ slashS ++ natTextB r.2).data.toList = (intStrB r.1).data.toList ++ 47 :: (natTextB r.2).data.toList := by simp [slashS]
      rw [e, List.count_append, List.count_cons, intStr_slash, natText_slash]
      simp
  · exact Nat.zero_le _
theorem intStr_size (x : SI) : (intStrB x).size ≤ 502 := by
  have h := natTextB_size x.2
  unfold intStrB
  split
  · split
    · rw [ByteArray.size_append]
      have e : (⟨#[45]⟩ : ByteArray).size = 1 := rfl
      omega
    · omega
  · show 0 ≤ 502; omega
/-! ### a text that is cut at slashes -/
theorem hit_slash (c : UInt8) : hitB slashS c = (c == 47) := by
  unfold hitB slashS
  show [47].contains c = _
  rw [List.contains_cons, List.contains_nil, Bool.or_false]
/-- no slash among the first k bytes; one; two or more -/
theorem cuts_cases (s : ByteArray) (k : Nat) :
    ((∀ m, m < k → s.data.toList.getD m 0 ≠ 47) ∧ cutsTo s slashS k = ([], 0)) ∨
    (∃ i, i < k ∧ s.data.toList.getD i 0 = 47 ∧ (∀ m, m < i → s.data.toList.getD m 0 ≠ 47) ∧ cutsTo s slashS k = ([s.extract 0 i], i + 1)) ∨
    (∃ i j t q, i < j ∧ j < k ∧ s.data.toList.getD i 0 = 47 ∧ s.data.toList.getD j 0 = 47 ∧ (∀ m, m < i → s.data.toList.getD m 0 ≠ 47) ∧ cutsTo s slashS k = (s.extract 0 i :: s.extract (i + 1) j :: t, q)) := by
  induction k with
  | zero => exact .inl ⟨fun m h => absurd h (by omega), rfl⟩
  | succ k ih =>
    have hk : cutsTo s slashS (k + 1) = if (s.data.toList.getD k 0 == 47) = true then ((cutsTo s slashS k).1 ++ [s.extract (cutsTo s slashS k).2 k], k + 1) else cutsTo s slashS k := by
      rw [cutsTo, hit_slash]
    by_cases h : s.data.toList.getD k 0 = 47
    · rw [if_pos (beq_iff_eq.2 h)] at hk
      rcases ih with ⟨h1, h2⟩ | ⟨i, hi, h1, h2, h3⟩ | ⟨i, j, t, q, h1, h2, h3, h4, h5, h6⟩
      · rw [h2] at hk
        exact .inr (.inl ⟨k, by omega, h, h1, by rw [hk]; rfl⟩)
      · rw [h3] at hk
        exact .inr (.inr ⟨i, k, [], k + 1, hi, by omega, h1, h, h2, by rw [hk]; rfl⟩)
      · rw [h6] at hk
        exact .inr (.inr ⟨i, j, _, k + 1, h1, by omega, h3, h4, h5, by rw [hk]; rfl⟩)
    · rw [if_neg (fun e => h (beq_iff_eq.1 e))] at hk
      rw [hk]
      rcases ih with ⟨h1, h2⟩ | ⟨i, hi, h1, h2, h3⟩ | ⟨i, j, t, q, h1, h2, h3, h4, h5, h6⟩
      · exact .inl ⟨fun m hm => by rcases Nat.lt_or_ge m k with g | g; exact h1 m g; rw [show m = k by omega]; exact h, h2⟩
      · exact .inr (.inl ⟨i, by omega, h1, h2, h3⟩)
      · exact .inr (.inr ⟨i, j, t, q, h1, by omega, h3, h4, h5, h6⟩)
/-- where the first slash lies, or -1 -/
def slashAt (s : ByteArray) : Int := Lib.indexByte s.data.toList 47
theorem getD_some (s : ByteArray) (m : Nat) (h : m < s.size) : s.data.toList[m]? = some (s.data.toList.getD m 0) := by
  have h' : m < s.data.toList.length := by simpa using h
  rw [List.getD_eq_getElem?_getD, List.getElem?_eq_getElem h']
  rfl
theorem slash_none {s : ByteArray} (h : ∀ m, m < s.size → s.data.toList.getD m 0 ≠ 47) : slashAt s = -1 := by
  have h0 := Lib.indexByte_ge s.data.toList 47
  by_cases e : Lib.indexByte s.data.toList 47 = -1
  · exact e
  · obtain ⟨o, ho⟩ : ∃ o : Nat, Lib.indexByte s.data.toList 47 = o := ⟨(Lib.indexByte s.data.toList 47).toNat, by omega⟩
    have h1 := (Lib.indexByte_some ho).1
    have h2 : o < s.size := by have := (List.getElem?_eq_some_iff.1 h1).1; simpa using this
    rw [getD_some s o h2] at h1
    exact absurd (Option.some.inj h1) (h o h2)
theorem slash_some {s : ByteArray} {i : Nat} (hi : i < s.size) (h1 : s.data.toList.getD i 0 = 47) (h : ∀ m, m < i → s.data.toList.getD m 0 ≠ 47) : slashAt s = i := by
  have h0 := Lib.indexByte_ge s.data.toList 47
  have hi' := getD_some s i hi
  rw [h1] at hi'
  by_cases e : Lib.indexByte s.data.toList 47 = -1
  · exact absurd hi' (Lib.indexByte_none e i)
  · obtain ⟨o, ho⟩ : ∃ o : Nat, Lib.indexByte s.data.toList 47 = o := ⟨(Lib.indexByte s.data.toList 47).toNat, by omega⟩
    obtain ⟨k1, k2⟩ := Lib.indexByte_some ho
    have h2 : o < s.size := by have := (List.getElem?_eq_some_iff.1 k1).1; simpa using this
    have hoi : o = i := by
      rcases Nat.lt_trichotomy o i with g | g | g
      · rw [getD_some s o h2] at k1; exact absurd (Option.some.inj k1) (h o g)
      · exact g
      · exact absurd hi' (k2 i g)
    unfold slashAt
    rw [ho, hoi]
theorem slash_lt {s : ByteArray} {o : Nat} (h : slashAt s = o) : o < s.size := by
  have h1 := (Lib.indexByte_some h).1
  have := (List.getElem?_eq_some_iff.1 h1).1
  simpa using this
/-- the texts of the two parts -/
def headB (s : ByteArray) : ByteArray := if slashAt s < 0 then s else s.extract 0 (slashAt s).toNat
def tailB (s : ByteArray) : ByteArray := if slashAt s < 0 then ⟨#[49]⟩ else s.extract ((slashAt s).toNat + 1) s.size
def readQ (s : ByteArray) : QI := (siR (headB s), tnR (tailB s))
def readB (s : ByteArray) : Bool := siB (headB s) && decOk (tailB s) && decide (ratTextB (readQ s) = s)
/-- what TextRat answers -/
def trQ (s : ByteArray) : QI := if readB s = true then readQ s else zeroQ
theorem one_text : tnR ⟨#[49]⟩ = [1] ∧ decOk ⟨#[49]⟩ = true := by
  have h : decOk ⟨#[49]⟩ = true := decOk_yes _ ((digitsB_iff _).2 ⟨fun c hc => by simp at hc; subst hc; decide, by simp⟩) (by decide) (fun _ h => absurd h.1 (by decide)) (by decide)
  refine ⟨?_, h⟩
  unfold tnR
  rw [if_pos h]
  exact one_limbs
theorem siR_length (s : ByteArray) : (siR s).2.length ≤ 450 := by
  unfold siR
  split
  · exact tnR_len _
  · exact Nat.zero_le _
theorem readQ_sz (s : ByteArray) : szQ (readQ s) ≤ 1048576 := by
  have h1 := siR_length (headB s)
  have h2 := tnR_len (tailB s)
  unfold szQ szS szI readQ
  simp only
  omega
theorem trQ_sz (s : ByteArray) : szQ (trQ s) ≤ 1048576 := by
  unfold trQ
  split
  · exact readQ_sz s
  · decide
theorem headB_le (s : ByteArray) : (headB s).size ≤ s.size := by
  unfold headB
  split
  · omega
  · rw [ByteArray.size_extract]; omega
theorem tailB_le (s : ByteArray) (h : s.size ≤ 1048576) : (tailB s).size ≤ 1048576 := by
  unfold tailB
  split
  · show 1 ≤ 1048576; omega
  · rw [ByteArray.size_extract]; omega
theorem decOk_slash {t : ByteArray} (h : 47 ∈ t.data.toList) : decOk t = false := by
  refine decOk_dig t ?_
  by_cases hd : digitsB t = true
  · have := (((digitsB_iff t).1 hd).1 47 h).1
    exact absurd this (by decide)
  · simpa using hd
/-- what spec sees: the pieces between slashes -/
structure CutView (s : ByteArray) : Prop where
  one : slashAt s < 0 → cutAtB s slashS = [s]
  two : ∀ i : Nat, slashAt s = i → ∃ p t, cutAtB s slashS = headB s :: p :: t ∧ (p = tailB s ∨ (decOk (tailB s) = false ∧ 2 ≤ s.data.toList.count 47)) ∧ p.size ≤ s.size
theorem count_two {l : List UInt8} {i j : Nat} (hij : i < j) (hi : l[i]? = some 47) (hj : l[j]? = some 47) : 2 ≤ l.count 47 := by
  have e : l = l.take (i + 1) ++ l.drop (i + 1) := (List.take_append_drop ..).symm
  have h1 : 47 ∈ l.take (i + 1) := by
    refine List.mem_iff_getElem?.2 ⟨i, ?_⟩
    rw [List.getElem?_take, if_pos (by omega)]; exact hi
  have h2 : 47 ∈ l.drop (i + 1) := by
    refine List.mem_iff_getElem?.2 ⟨j - (i + 1), ?_⟩
    rw [List.getElem?_drop, show i + 1 + (j - (i + 1)) = j by omega]; exact hj
  have c1 := List.count_pos_iff.2 h1
  have c2 := List.count_pos_iff.2 h2
  rw [e, List.count_append]
  omega
theorem cutView (s : ByteArray) : CutView s := by
  have eall : s.extract 0 s.size = s := by simp
  rcases cuts_cases s s.size with ⟨h1, h2⟩ | ⟨i, hi, h1, h2, h3⟩ | ⟨i, j, t, q, h1, h2, h3, h4, h5, h6⟩
  · have hs := slash_none h1
    exact ⟨fun _ => by unfold cutAtB; rw [h2, eall]; rfl, fun i hi => by omega⟩
  · have hs := slash_some hi h1 h2
    have eh : headB s = s.extract 0 i := by unfold headB; rw [if_neg (by omega), hs, Int.toNat_natCast]
    have et : tailB s = s.extract (i + 1) s.size := by unfold tailB; rw [if_neg (by omega), hs, Int.toNat_natCast]
    exact ⟨fun h => by omega, fun _ _ => ⟨tailB s, [], by unfold cutAtB; rw [h3, eh, et]; rfl, .inl rfl, by rw [et, ByteArray.size_extract]; omega⟩⟩
  · have hs := slash_some (by omega) h3 h5
    have eh : headB s = s.extract 0 i := by unfold headB; rw [if_neg (by omega), hs, Int.toNat_natCast]
    have et : tailB s = s.extract (i + 1) s.size := by unfold tailB; rw [if_neg (by omega), hs, Int.toNat_natCast]
    have gi := getD_some s i (by omega)
    have gj := getD_some s j h2
    rw [h3] at gi
    rw [h4] at gj
    have hm : 47 ∈ (tailB s).data.toList := by
      rw [et]
      refine List.mem_iff_getElem?.2 ⟨j - (i + 1), ?_⟩
      rw [extract_listD, List.getElem?_drop, List.getElem?_take, if_pos (by omega), show i + 1 + (j - (i + 1)) = j by omega]
      exact gj
    exact ⟨fun h => by omega, fun _ _ => ⟨s.extract (i + 1) j, _, by unfold cutAtB; rw [h6, eh]; rfl, .inr ⟨decOk_slash hm, count_two h1 gi gj⟩, by rw [ByteArray.size_extract]; omega⟩⟩
/-- a text with two slashes is the text of no fraction -/
theorem no_two {s : ByteArray} (h : 2 ≤ s.data.toList.count 47) (q : QI) : ¬ ratTextB q = s := fun e => by
  have := ratText_slash q
  rw [e] at this
  omega
theorem readB_bad {s : ByteArray} (h : decOk (tailB s) = false) : readB s = false ∧ trQ s = zeroQ := by
  have e : readB s = false := by unfold readB; rw [h, Bool.and_false, Bool.false_and]
  exact ⟨e, by unfold trQ; rw [e]; rfl⟩
end Go.Proofs.YtkkdlgiilhngcaaGreatDoor
