/-
  What spec.Pad and impl.Pad return.
  Chapter 3: NatText and NatDigits of package spec.
  What spec.l01All, impl.IsDigits, IsWord, IsCode and their spec twins return, as walks over the program.
  Plain facts on texts of decimal digits.
  What TextNat of package spec returns.
  What spec.TextInt and impl.TextInt return: the int whose numeral the text is, if there is one.
  Plain facts: the text of limbs is the decimal numeral of their number; when a text of digits is a numeral.
  What NatDigits and NatText of package impl return.
  A part of a text, as a list of bytes.
  Numbers that are read from texts, in plain words.
  Chapter 5, signed numbers and their texts, in both packages.
  Comparing: a number with itself, and two numbers turned round.
  Plain facts: a short signed number is read back from its text.
  What NatGcd, NatTen, NatScale, NatCut and NatEven of package spec return.
  Decimal numbers as data, and what the functions of chapter 8 make of them (those that reckon without fractions).
  Texts of decimal numbers: what DecText writes, what TextDec reads, and that each undoes the other.
  Texts of decimal numbers as package impl reads them: cut at the minus and at the point, the noughts ahead trimmed off.
  Values of type impl.Dec: what laws.toDec, eqDec, markDec, heldDec and szDec return; results that lie in their boxes.
-/
import Derived.Deep.RegionHeld3
import Derived.Lib.IndexBytes
import Derived.Lib.IndexLaws
import Derived.Lib.TrimByte
import Derived.Test.YtcenmdiblbooeaaDoorJA5
namespace Go.Proofs.YtcenmdiblbooeaaDoor
open Go.RowKit

/-- zeros ahead of a text -/
def padB (s : ByteArray) (n : Int) : ByteArray := ⟨(List.replicate (n.toNat - s.size) (48 : UInt8) ++ s.data.toList).toArray⟩

theorem padB_same (s : ByteArray) (n : Int) (h : n ≤ s.size) : padB s n = s := by
  unfold padB
  rw [show n.toNat - s.size = 0 from by omega]
  apply ByteArray.ext
  simp
theorem padB_step (s : ByteArray) (n : Int) (h : (s.size : Int) < n) : padB ((⟨#[48]⟩ : ByteArray) ++ s) n = padB s n := by
  have e : n.toNat - s.size = (n.toNat - (s.size + 1)) + 1 := by omega
  have hsz : ((⟨#[48]⟩ : ByteArray) ++ s).size = s.size + 1 := by rw [ByteArray.size_append]; show 1 + s.size = _; omega
  unfold padB
  rw [hsz, e, List.replicate_succ']
  apply ByteArray.ext
  simp
theorem repeat_zero (c : Nat) : Lib.repeatL [48] c = List.replicate c 48 := by
  induction c with
  | zero => rfl
  | succ c ih => rw [Lib.repeatL, ih, List.replicate_succ]; rfl
/-- so many zeros -/
def zerosB (m : Int) : ByteArray := ⟨(List.replicate m.toNat (48 : UInt8)).toArray⟩
theorem zerosB_size (m : Int) : (zerosB m).size = m.toNat := by
  unfold zerosB
  show (List.replicate m.toNat (48 : UInt8)).toArray.size = _
  simp
def strSize : Value → Nat
  | .string t => t.size
  | _ => 0
theorem size_zero_app (t : ByteArray) : ((⟨#[48]⟩ : ByteArray) ++ t).size = t.size + 1 := by
  rw [ByteArray.size_append]
  show 1 + t.size = _
  omega
theorem repeat_any (m : Int) (w : World) (h0 : 0 ≤ m) (h1 : m ≤ 2000) :
    Calls Tryd.prog 114 #[.string ⟨#[48]⟩, .int .i64 m] w fun e w' => e = .returned (.string (zerosB m)) ∧ Below w.heap.size w w' := by
  obtain ⟨c, rfl⟩ := Int.eq_ofNat_of_zero_le h0
  refine (Tryd.strings_Repeat ⟨#[48]⟩ c w (by omega) (by show 1 * c ≤ _; omega)).mono fun e w' ⟨he, hb⟩ => ⟨?_, hb⟩
  rw [he]
  exact ret_str (by rw [zerosB, Int.toNat_natCast, ← repeat_zero])
theorem join_pad (s : ByteArray) (n : Int) (h : (s.size : Int) < n) : joinB ⟨#[]⟩ [zerosB (n - s.size), s] = padB s n := by
  unfold joinB padB zerosB
  rw [show (n - s.size).toNat = n.toNat - s.size from by omega]
  simp [joinTo]

set_option maxHeartbeats 400000 in
set_option maxRecDepth 100000 in
theorem specPad_any (s : ByteArray) (n : Int) (w : World) (hs : s.size ≤ 1048576) (hn : n ≤ 2000) :
    Calls Tryd.prog 93 #[.string s, .int .i64 n] w fun e w' => e = .returned (.string (padB s n)) ∧ w = w' := by
  go_enter Tryd.func93, Tryd.ntmps93
  go_wp2
  go_loop [0] (fun a => ∃ t : ByteArray, t.size ≤ 1048576 ∧ a = .string t ∧ Hid (padB t n = padB s n)) (fun a => n.toNat - strSize a)
  case atStart => exact ⟨s, hs, rfl, Lib.hid rfl⟩
  case round =>
    obtain ⟨t, ht, rfl, HP⟩ := hrel
    by_cases hlt : (t.size : Int) < n
    · have HS := Lib.hid (padB_step t n hlt)
      have HZ := Lib.hid (size_zero_app t)
      go_wp2
      go_round
      case rel => exact ⟨_, by rw [HZ.out]; omega, rfl, Lib.hid (HS.out.trans HP.out)⟩
      case measure => simp only [strSize, HZ.out]; omega
    · go_wp2
      go_ret
      exact ⟨ret_str (by rw [← HP.out, padB_same t n (by omega)]), rfl⟩

set_option maxHeartbeats 400000 in
set_option maxRecDepth 100000 in
theorem implPad_any (s : ByteArray) (n : Int) (w : World) (hs : s.size ≤ 1048576) (hn : n ≤ 2000) (h63 : -9223372036854775808 ≤ n) :
    Calls Tryd.prog 98 #[.string s, .int .i64 n] w fun e w' => e = .returned (.string (padB s n)) ∧ Below w.heap.size w w' := by
  by_cases hlt : (s.size : Int) < n
  · go_enter Tryd.func98, Tryd.ntmps98
    go_wp2_with fail
    refine (repeat_any _ _ (by omega) (by omega)).mono ?_
    rintro e w1 ⟨rfl, hb1⟩
    have hz1 := hb1.size
    have hzs := Lib.hid (zerosB_size (n - s.size))
    go_wp2_with fail
    refine (joinAll_any ⟨#[]⟩ _ [zerosB (n - s.size), s] w1.heap.size (w1.heap.size + 1) _ (by simp) (by simp) (by decide) ?_ (Row.lit2 _ _ _ _)).mono ?_
    · intro x hx
      rcases List.mem_cons.1 hx with rfl | hx
      · rw [hzs.out]; omega
      · rw [List.mem_singleton.1 hx]; exact hs
    rintro e w2 ⟨rfl, hb2⟩
    go_wp2
    go_ret
    exact ⟨ret_str (join_pad s n hlt), Below.next (hb1.alloc (by omega) _) hb2⟩
  · go_enter Tryd.func98, Tryd.ntmps98
    go_wp2
    go_ret
    exact ⟨ret_str (padB_same s n (by omega)).symm, Below.refl _ _⟩

set_option maxHeartbeats 400000 in
set_option maxRecDepth 100000 in
theorem specPad_big (s : ByteArray) (n : Int) (w : World) (hn : 2000 < n) :
    Calls Tryd.prog 93 #[.string s, .int .i64 n] w fun e w' => e = .returned (.string s) ∧ w = w' := by
  go_enter Tryd.func93, Tryd.ntmps93
  go_wp2
  go_ret
  exact ⟨rfl, rfl⟩
set_option maxHeartbeats 400000 in
set_option maxRecDepth 100000 in
theorem implPad_big (s : ByteArray) (n : Int) (w : World) (_hs : s.size ≤ 1048576) (hn : 2000 < n) :
    Calls Tryd.prog 98 #[.string s, .int .i64 n] w fun e w' => e = .returned (.string s) ∧ w = w' := by
  by_cases hlt : (s.size : Int) < n
  · go_enter Tryd.func98, Tryd.ntmps98
    go_wp2
    go_ret
    exact ⟨rfl, rfl⟩
  · go_enter Tryd.func98, Tryd.ntmps98
    go_wp2
    go_ret
    exact ⟨rfl, rfl⟩

end Go.Proofs.YtcenmdiblbooeaaDoor

namespace Go.Proofs.YtcenmdiblbooeaaDoor
open Go.RowKit

/-- the decimal text of limbs, the least first -/
def natT : List Int → ByteArray
  | [] => ⟨#[48]⟩
  | [d] => numB d
  | d :: e :: r => natT (e :: r) ++ padB (numB d) 9
/-- what NatText answers -/
def natTextB (a : List Int) : ByteArray := if natOkB a = true then natT a else ⟨#[]⟩
theorem padB_size (s : ByteArray) (n : Nat) (h : s.size ≤ n) (n9 : (9 : Int) ≤ n) : (padB s 9).size ≤ n := by
  unfold padB
  show (List.toArray _).size ≤ n
  rw [List.size_toArray, List.length_append, List.length_replicate]
  have : s.data.toList.length = s.size := rfl
  omega
theorem limb_size {d : Int} (h : 0 ≤ d ∧ d ≤ 999999999) : (numB d).size ≤ 10 := numB_size d 8 (by omega)
theorem natT_size (a : List Int) (h : DigN a) : (natT a).size ≤ 10 * a.length + 1 := by
  induction a with
  | nil => unfold natT; decide
  | cons d r ih =>
    have hd := limb_size (h d (by simp))
    cases r with
    | nil => unfold natT; simp; omega
    | cons e r =>
      have hp := padB_size _ 10 hd (by omega)
      have := ih (fun x hx => h x (by simp at hx ⊢; exact .inr hx))
      unfold natT
      rw [ByteArray.size_append]
      simp only [List.length_cons] at *
      omega
theorem natT_step (a : List Int) (i : Nat) (h : i + 1 < a.length) : natT (a.drop i) = natT (a.drop (i + 1)) ++ padB (numB a[i]) 9 := by
  rw [List.drop_eq_getElem_cons (show i < a.length by omega), List.drop_eq_getElem_cons h]
  rfl
theorem natT_last (a : List Int) (h : 0 < a.length) : natT (a.drop (a.length - 1)) = numB (a[a.length - 1]) := by
  rw [List.drop_eq_getElem_cons (show a.length - 1 < a.length by omega), List.drop_eq_nil_of_le (by omega)]
  rfl

set_option maxHeartbeats 1000000 in
set_option maxRecDepth 100000 in
theorem specNatText_any (v : Value) (a : List Int) (lo hi : Nat) (w : World) (hl : a.length ≤ 1048576) (hhi : hi ≤ w.heap.size) (hr : Row w lo hi v (intsV a)) :
    Calls Tryd.prog 94 #[v] w fun e w' => e = .returned (.string (natTextB a)) ∧ Below w.heap.size w w' := by
  by_cases ok : natOkB a = true
  · have HV := Lib.hid (show natTextB a = natT a by unfold natTextB; rw [if_pos ok])
    have pa := natOk_parts ok
    by_cases h0 : a.length = 0
    · have HA := Lib.hid (show a = [] from List.length_eq_zero_iff.1 h0)
      have H0 := Lib.hid h0
      clear h0
      have hr0 := hr
      obtain ⟨A, c, rfl, _⟩ := hr
      rw [intsV_length] at hr0 ⊢
      go_enter Tryd.func94, Tryd.ntmps94
      go_wp2_with fail
      refine (specNatOk_any _ a lo hi _ hl hr0).mono ?_
      rintro e w' ⟨rfl, rfl⟩
      rw [ok]
      have h0 := H0.out
      go_wp2
      go_ret
      exact ⟨by rw [HV.out, HA.out]; rfl, Below.refl _ _⟩
    · have hr0 := hr
      obtain ⟨A, c, rfl, hA⟩ := hr
      obtain ⟨ad, rfl, hlo, hbh, _⟩ := hA 0 _ (intsV_at a 0 (by omega))
      have HA := Lib.hid hA
      have PA := Lib.hid pa.1
      have h50 := pa.2.1
      have hlim := pa.1 a[a.length - 1] (List.getElem_mem _)
      have hc1 : w.cell? (ad.add (a.length - 1)) = some (.int .i64 a[a.length - 1]) := by
        obtain ⟨_, e, _, _, h⟩ := hA (a.length - 1) _ (intsV_at a (a.length - 1) (by omega))
        cases e
        exact h
      have hix : ((a.length : Int) - 1).toNat = a.length - 1 := by omega
      clear hA
      rw [intsV_length] at hr0 ⊢
      go_enter Tryd.func94, Tryd.ntmps94
      go_wp2_with fail
      refine (specNatOk_any _ a lo hi _ hl hr0).mono ?_
      rintro e w' ⟨rfl, rfl⟩
      rw [ok]
      go_wp2_with fail
      refine (specIntText_any _ _ (by omega) (by omega)).mono ?_
      rintro e w1 ⟨rfl, b1⟩
      have HL := Lib.hid (natT_last a (by omega))
      go_wp2
      go_loopw [3, 4] (fun s i wr => ∃ k : Nat, k < a.length ∧ i = .int .i64 ((k : Int) - 1) ∧ s = .string (natT (a.drop k)) ∧ Below w.heap.size w wr) (fun _ i _ => (intOf i + 1).toNat)
      case atStart => exact ⟨a.length - 1, by omega, by congr 1; omega, by rw [HL.out], b1⟩
      case round =>
        obtain ⟨k, hk, rfl, rfl, hb⟩ := hrel
        by_cases hk0 : 0 < k
        · obtain ⟨j, rfl⟩ : ∃ j, k = j + 1 := ⟨k - 1, by omega⟩
          have hcj : wr.cell? (ad.add j) = some (.int .i64 a[j]) := by
            obtain ⟨_, e, _, _, h⟩ := HA.out j _ (intsV_at a j (by omega))
            cases e
            exact (hb.cell (by rw [block_add]; omega)).trans h
          have hj := PA.out a[j] (List.getElem_mem _)
          have hsz := natT_size (a.drop (j + 1)) (fun x hx => PA.out x (List.mem_of_mem_drop hx))
          have hps := padB_size _ 10 (limb_size hj) (by omega)
          have hls := limb_size hj
          rw [List.length_drop] at hsz
          have HSt := Lib.hid (natT_step a j hk)
          have e1 : (((j + 1 : Nat) : Int) - 1) = (j : Int) := by omega
          rw [e1]
          go_wp2_with fail
          refine (specIntText_any _ _ (by omega) (by omega)).mono ?_
          rintro e w2 ⟨rfl, b2⟩
          go_wp2_with fail
          refine (specPad_any _ _ _ (by omega) (by omega)).mono ?_
          rintro e w' ⟨rfl, rfl⟩
          go_wp2
          exact ⟨⟨j, by omega, rfl, by rw [HSt.out], Below.next hb b2⟩, by simp [intOf]⟩
        · go_wp2
          go_ret
          exact ⟨ret_str (by rw [HV.out, show k = 0 by omega]; rfl), hb⟩
  · have HV := Lib.hid (show natTextB a = ⟨#[]⟩ by unfold natTextB; rw [if_neg ok])
    have okf : natOkB a = false := by simpa using ok
    have hr0 := hr
    obtain ⟨A, c, rfl, _⟩ := hr
    rw [intsV_length] at hr0 ⊢
    go_enter Tryd.func94, Tryd.ntmps94
    go_wp2_with fail
    refine (specNatOk_any _ a lo hi _ hl hr0).mono ?_
    rintro e w' ⟨rfl, rfl⟩
    rw [okf]
    go_wp2
    go_ret
    exact ⟨ret_str HV.out.symm, Below.refl _ _⟩

/-- what NatDigits answers -/
def natDigB (a : List Int) : Int := if natOkB a = true ∧ a.length ≠ 0 then (natTextB a).size else 0
theorem natTextB_size (a : List Int) : (natTextB a).size ≤ 501 := by
  unfold natTextB
  split
  · rename_i h
    have hp := natOk_parts h
    have := natT_size a hp.1
    omega
  · show 0 ≤ 501
    omega
end Go.Proofs.YtcenmdiblbooeaaDoor

namespace Go.Proofs.YtcenmdiblbooeaaDoor
open Go.RowKit

/-- one byte in one of two ranges -/
def inTwo (lo hi low high : Nat) (c : UInt8) : Bool := decide ((lo ≤ c.toNat ∧ c.toNat ≤ hi) ∨ (low ≤ c.toNat ∧ c.toNat ≤ high))
/-- every byte from place k on is in one of two ranges -/
def allFrom (s : ByteArray) (lo hi low high k : Nat) : Bool := (s.data.toList.drop k).all (inTwo lo hi low high)

theorem allFrom_step (s : ByteArray) (lo hi low high k : Nat) (h : k < s.size) : allFrom s lo hi low high k = (inTwo lo hi low high s[k] && allFrom s lo hi low high (k + 1)) := by
  unfold allFrom
  rw [List.drop_eq_getElem_cons (by simpa using h)]
  rfl
theorem allFrom_end (s : ByteArray) (lo hi low high k : Nat) (h : ¬ k < s.size) : allFrom s lo hi low high k = true := by
  unfold allFrom
  rw [List.drop_eq_nil_of_le (by simp; omega)]
  rfl

theorem allFrom_yes (s : ByteArray) (lo hi low high k : Nat) (h : k < s.size) (hb : (lo ≤ s[k].toNat ∧ s[k].toNat ≤ hi) ∨ (low ≤ s[k].toNat ∧ s[k].toNat ≤ high)) : allFrom s lo hi low high (k + 1) = allFrom s lo hi low high k := by
  rw [allFrom_step s lo hi low high k h]
  simp [inTwo, hb]
theorem allFrom_no (s : ByteArray) (lo hi low high k : Nat) (h : k < s.size) (hb : ¬ ((lo ≤ s[k].toNat ∧ s[k].toNat ≤ hi) ∨ (low ≤ s[k].toNat ∧ s[k].toNat ≤ high))) : allFrom s lo hi low high k = false := by
  rw [allFrom_step s lo hi low high k h]
  simp [inTwo, hb]


/-- what IsDigits, IsWord and IsCode of the document ask -/
def digitsB (s : ByteArray) : Bool := allFrom s 48 57 48 57 0 && decide (0 < s.size)
def wordB (s : ByteArray) : Bool := allFrom s 97 122 48 57 0 && decide (0 < s.size) && decide (s.size ≤ 12) && decide (97 ≤ (s.data.toList.headD 0).toNat)
def codeB (s : ByteArray) : Bool := allFrom s 65 90 65 90 0 && decide (s.size = 3)


/-- a rune in a range -/
def bet (lo hi r : Int) : Bool := decide (lo ≤ r ∧ r ≤ hi)
theorem bet_yes {lo hi r : Int} (h1 : lo ≤ r) (h2 : r ≤ hi) : bet lo hi r = true := by simp [bet, h1, h2]
theorem bet_no {lo hi r : Int} (h : ¬ (lo ≤ r ∧ r ≤ hi)) : bet lo hi r = false := by simpa [bet] using h


/-- a byte that is no ASCII is in no range below 128 -/
theorem allFrom_high (s : ByteArray) (lo hi low high k : Nat) (h : k < s.size) (hh : 128 ≤ s[k].toNat) (h1 : hi < 128) (h2 : high < 128) : allFrom s lo hi low high k = false :=
  allFrom_no s lo hi low high k h (by omega)

theorem isEmpty_size (s : ByteArray) : s.toList.isEmpty = decide (s.size = 0) := by
  rw [ByteArray.toList_eq]
  obtain ⟨⟨l⟩⟩ := s
  cases l with
  | nil => rfl
  | cons a r => simp [ByteArray.size]


theorem fin_digits (s : ByteArray) (h : allFrom s 48 57 48 57 0 = true) : (!s.toList.isEmpty) = digitsB s := by
  rw [isEmpty_size, digitsB, h, Bool.true_and, ← decide_not]
  exact decide_eq_decide.2 (by omega)
theorem no_digits (s : ByteArray) (h : allFrom s 48 57 48 57 0 = false) : false = digitsB s := by rw [digitsB, h]; rfl
theorem int_beq (n k : Nat) : ((n : Int) == (k : Int)) = decide (n = k) := by
  by_cases h : n = k
  · subst h; simp
  · rw [decide_eq_false h, beq_eq_false_iff_ne]; omega
theorem fin_code (s : ByteArray) (h : allFrom s 65 90 65 90 0 = true) : ((s.size : Int) == 3) = codeB s := by
  rw [codeB, h, Bool.true_and]
  exact int_beq s.size 3
theorem no_code (s : ByteArray) (h : allFrom s 65 90 65 90 0 = false) : false = codeB s := by rw [codeB, h]; rfl



theorem no_code2 (s : ByteArray) (h : (allFrom s 65 90 65 90 0 && decide (0 < s.size)) = false) : false = codeB s := by
  rcases Bool.and_eq_false_iff.1 h with h | h
  · exact no_code s h
  · have h' := of_decide_eq_false h
    rw [codeB, decide_eq_false (show ¬ s.size = 3 by omega), Bool.and_false]
theorem yes_code2 (s : ByteArray) (h : (allFrom s 65 90 65 90 0 && decide (0 < s.size)) = true) : allFrom s 65 90 65 90 0 = true := (Bool.and_eq_true_iff.1 h).1


theorem head_get (s : ByteArray) (h : 0 < s.size) : s.data.toList.headD 0 = s[0] := by
  obtain ⟨⟨l⟩⟩ := s
  cases l with
  | nil => simp [ByteArray.size] at h
  | cons a r => rfl
theorem no_word_all (s : ByteArray) (h : allFrom s 97 122 48 57 0 = false) : false = wordB s := by simp [wordB, h]
theorem no_word_two (s : ByteArray) (h : (allFrom s 97 122 48 57 0 && decide (0 < s.size)) = false) : false = wordB s := by simp only [wordB, h, Bool.false_and]
theorem no_word_len (s : ByteArray) (h : ¬ s.size ≤ 12) : false = wordB s := by simp [wordB, h]
theorem no_word_nil (s : ByteArray) (h : ¬ 0 < s.size) : false = wordB s := by simp [wordB, h]
theorem no_word_head (s : ByteArray) (h0 : 0 < s.size) (h : ¬ 97 ≤ s[0].toNat) : false = wordB s := by
  rw [wordB, head_get s h0, decide_eq_false h, Bool.and_false]
theorem word_head (s : ByteArray) (h0 : 0 < s.size) (h1 : s.size ≤ 12) (h : allFrom s 97 122 48 57 0 = true) : decide (97 ≤ s[0].toNat) = wordB s := by
  rw [wordB, head_get s h0, h, decide_eq_true h0, decide_eq_true h1]
  simp
theorem word_head' (s : ByteArray) (h0 : 0 < s.size) (h1 : s.size ≤ 12) (h : allFrom s 97 122 48 57 0 = true) : decide ((97 : Int) ≤ (s[0].toNat : Int)) = wordB s := by
  rw [← word_head s h0 h1 h]
  exact decide_eq_decide.2 (by omega)
theorem yes_word (s : ByteArray) (h0 : 0 < s.size) (h1 : s.size ≤ 12) (h : allFrom s 97 122 48 57 0 = true) (hh : 97 ≤ s[0].toNat) : true = wordB s := by
  rw [← word_head s h0 h1 h, decide_eq_true hh]


end Go.Proofs.YtcenmdiblbooeaaDoor

namespace Go.Proofs.YtcenmdiblbooeaaDoor
open Go.RowKit

/-- the number that digits spell -/
def valL : List UInt8 → Int := List.foldl (fun a c => a * 10 + ((c.toNat : Int) - 48)) 0
theorem valL_snoc (l : List UInt8) (c : UInt8) : valL (l ++ [c]) = valL l * 10 + ((c.toNat : Int) - 48) := by
  unfold valL
  rw [List.foldl_append]
  rfl
/-- all are digits -/
def DigL (l : List UInt8) : Prop := ∀ c ∈ l, 48 ≤ c.toNat ∧ c.toNat ≤ 57
theorem fold_ge (l : List UInt8) : ∀ a : Int, DigL l → 0 ≤ a → a ≤ List.foldl (fun a c => a * 10 + ((c.toNat : Int) - 48)) a l := by
  induction l with
  | nil => intro a _ _; exact Int.le_refl _
  | cons c l ih =>
    intro a h h0
    have hc := h c (by simp)
    have h1 := ih (a * 10 + ((c.toNat : Int) - 48)) (fun x hx => h x (by simp [hx])) (by omega)
    rw [List.foldl_cons]
    omega
theorem valL_nonneg (l : List UInt8) (h : DigL l) : 0 ≤ valL l := fold_ge l 0 h (Int.le_refl _)
theorem valL_mono (l r : List UInt8) (h : DigL (l ++ r)) : valL l ≤ valL (l ++ r) := by
  have h0 := valL_nonneg l (fun x hx => h x (by simp [hx]))
  have h1 := fold_ge r (valL l) (fun x hx => h x (by simp [hx])) h0
  unfold valL at h1 ⊢
  rw [List.foldl_append]
  exact h1
theorem allFrom_dig (s : ByteArray) : allFrom s 48 57 48 57 0 = true ↔ DigL s.data.toList := by
  unfold allFrom DigL
  rw [List.drop_zero, List.all_eq_true]
  constructor
  · intro h c hc
    have := h c hc
    simp [inTwo] at this
    omega
  · intro h c hc
    have := h c hc
    simp [inTwo]
    omega
theorem digitsB_iff (s : ByteArray) : digitsB s = true ↔ DigL s.data.toList ∧ s.data.toList ≠ [] := by
  unfold digitsB
  rw [Bool.and_eq_true, allFrom_dig, decide_eq_true_eq]
  constructor
  · intro ⟨h1, h2⟩
    exact ⟨h1, fun e => by have : s.data.toList.length = s.size := rfl; rw [e] at this; simp at this; omega⟩
  · intro ⟨h1, h2⟩
    refine ⟨h1, ?_⟩
    have : s.data.toList.length = s.size := rfl
    have := List.length_pos_iff.2 h2
    omega

theorem take_val (s : ByteArray) (k : Nat) (h : k < s.size) : valL (s.data.toList.take (k + 1)) = valL (s.data.toList.take k) * 10 + ((s[k].toNat : Int) - 48) := by
  rw [List.take_succ_eq_append_getElem (by simpa using h), valL_snoc]
  rfl
theorem dig_at (s : ByteArray) (k : Nat) (h : k < s.size) (hd : DigL s.data.toList) : 48 ≤ s[k].toNat ∧ s[k].toNat ≤ 57 := hd _ (by simp [ByteArray.getElem_eq_getElem_data])
end Go.Proofs.YtcenmdiblbooeaaDoor

namespace Go.Proofs.YtcenmdiblbooeaaDoor
open Go.RowKit

theorem fold_lt (l : List UInt8) : ∀ a : Int, DigL l → 0 ≤ a → List.foldl (fun a c => a * 10 + ((c.toNat : Int) - 48)) a l + 1 ≤ (a + 1) * 10 ^ l.length := by
  induction l with
  | nil => intro a _ _; simp
  | cons c l ih =>
    intro a h h0
    have hc := h c (by simp)
    have h1 := ih (a * 10 + ((c.toNat : Int) - 48)) (fun x hx => h x (by simp [hx])) (by omega)
    have hp : (0 : Int) ≤ 10 ^ l.length := Int.le_of_lt (Int.pow_pos (by omega))
    have h2 : (a * 10 + ((c.toNat : Int) - 48) + 1) * 10 ^ l.length ≤ ((a + 1) * 10) * 10 ^ l.length := Int.mul_le_mul_of_nonneg_right (by omega) hp
    rw [List.foldl_cons, List.length_cons, Int.pow_succ, Int.mul_comm (10 ^ l.length) 10, ← Int.mul_assoc]
    omega
theorem valL_nine (l : List UInt8) (h : DigL l) (hl : l.length ≤ 9) : valL l ≤ 999999999 := by
  have h1 := fold_lt l 0 h (by omega)
  have h2 : (10 : Int) ^ l.length ≤ 10 ^ 9 := by
    have : (10 : Nat) ^ l.length ≤ 10 ^ 9 := Nat.pow_le_pow_right (by omega) hl
    exact_mod_cast this
  unfold valL
  omega
theorem fold_app (l : List UInt8) : ∀ a : Int, List.foldl (fun a c => a * 10 + ((c.toNat : Int) - 48)) a l = a * 10 ^ l.length + valL l := by
  induction l with
  | nil => intro a; simp [valL]
  | cons c l ih =>
    intro a
    have e : valL (c :: l) = ((c.toNat : Int) - 48) * 10 ^ l.length + valL l := by
      show List.foldl _ (0 * 10 + ((c.toNat : Int) - 48)) l = _
      rw [ih, Int.zero_mul, Int.zero_add]
    rw [List.foldl_cons, ih, e, Int.add_mul, List.length_cons, Int.pow_succ, Int.mul_comm (10 ^ l.length) 10, Int.mul_assoc]
    omega
theorem valL_app (x g : List UInt8) : valL (x ++ g) = valL x * 10 ^ g.length + valL g := by
  show List.foldl _ 0 (x ++ g) = _
  rw [List.foldl_append, fold_app]
  rfl
/-- nine digits at once, from the end -/
def groups (l : List UInt8) (e : Nat) : List Int := if h : e = 0 then [] else valL ((l.take e).drop (e - 9)) :: groups l (e - 9)
termination_by e
decreasing_by omega
theorem groups_zero (l : List UInt8) : groups l 0 = [] := by rw [groups, dif_pos rfl]
theorem groups_pos (l : List UInt8) (e : Nat) (h : e ≠ 0) : groups l e = valL ((l.take e).drop (e - 9)) :: groups l (e - 9) := by rw [groups, dif_neg h]
theorem dig_part (l : List UInt8) (h : DigL l) (a b : Nat) : DigL ((l.take a).drop b) := fun c hc => h c (List.mem_of_mem_take (List.mem_of_mem_drop hc))
theorem groups_val (l : List UInt8) (h : DigL l) (e : Nat) : e ≤ l.length → nval (groups l e) = valL (l.take e) ∧ DigN (groups l e) ∧ (groups l e).length ≤ e := by
  induction e using Nat.strongRecOn with
  | _ e ih =>
    intro he
    by_cases h0 : e = 0
    · subst h0
      rw [groups_zero]
      exact ⟨by simp [nval, valL], (fun x hx => by cases hx), Nat.le_refl _⟩
    · rw [groups_pos l e h0]
      obtain ⟨i1, i2, i3⟩ := ih (e - 9) (by omega) (by omega)
      have hlen : ((l.take e).drop (e - 9)).length = e - (e - 9) := by rw [List.length_drop, List.length_take]; omega
      have hd := dig_part l h e (e - 9)
      have hv := valL_nine _ hd (by omega)
      have hn := valL_nonneg _ hd
      refine ⟨?_, DigN.cons hn hv i2, by simp; omega⟩
      show valL _ + 1000000000 * nval (groups l (e - 9)) = _
      rw [i1]
      have hsplit : l.take e = l.take (e - 9) ++ (l.take e).drop (e - 9) := by
        have h1 := (List.take_append_drop (e - 9) (l.take e)).symm
        rwa [List.take_take, show min (e - 9) e = e - 9 from by omega] at h1
      by_cases h9 : 9 ≤ e
      · conv => rhs; rw [hsplit, valL_app, hlen, show e - (e - 9) = 9 from by omega]
        omega
      · rw [show e - 9 = 0 from by omega]
        simp [valL]
theorem part_step (s : ByteArray) (i from_ : Nat) (h : i < s.size) (hf : from_ ≤ i) : valL ((s.data.toList.take (i + 1)).drop from_) = valL ((s.data.toList.take i).drop from_) * 10 + (s[i].toNat : Int) - 48 := by
  rw [List.take_succ_eq_append_getElem (by simpa using h), List.drop_append_of_le_length (by rw [List.length_take]; simp; omega), valL_snoc]
  show _ * 10 + ((s[i].toNat : Int) - 48) = _
  omega

/-- is s the decimal notation of a nat -/
def decOk (s : ByteArray) : Bool := digitsB s && decide (s.size ≤ 450) && !(decide (1 < s.size) && decide (s.data.toList.headD 0 = 48))
def TNPost (s : ByteArray) (w : World) (e : Ending) (w' : World) : Prop :=
  Below w.heap.size w w' ∧ ((decOk s = true ∧ ∃ v, e = .returned (.tuple #[v, .bool true]) ∧ w'.ownsRow w.heap.size 3 1 v (limbs (valL s.data.toList).toNat).length (intsV (limbs (valL s.data.toList).toNat))) ∨
    (decOk s = false ∧ e = .returned (.tuple #[.slice none 0 0, .bool false])))

/-- what the outer loop of TextNat knows at its head -/
def TextRel (s : ByteArray) (w : World) (v e : Value) (wr : World) : Prop :=
  ∃ (en : Int) (out : List Int), -9 ≤ en ∧ en ≤ s.size ∧ e = .int .i64 en ∧ out ++ groups s.data.toList en.toNat = groups s.data.toList s.size ∧
    wr.ownsRow w.heap.size 3 1 v out.length (intsV out) ∧ Below w.heap.size w wr
theorem text_step {s : ByteArray} {w w1 : World} {v1 : Value} {out : List Int} {m : Int} {k : Nat} (hk : k ≤ s.size) (h0 : 0 < k) (e : out ++ [m] ++ groups s.data.toList (k - 9) = groups s.data.toList s.size)
    (ho : w1.ownsRow w.heap.size 3 1 v1 (out.length + 1) (intsV out ++ [.int .i64 m])) (hb : Below w.heap.size w w1) : TextRel s w v1 (.int .i64 ((k : Int) - 9)) w1 := by
  refine ⟨(k : Int) - 9, out ++ [m], by omega, by omega, rfl, ?_, by simpa [intsV] using ho, hb⟩
  rw [show ((k : Int) - 9).toNat = k - 9 from by omega]
  exact e
theorem take_full (t : ByteArray) : t.data.toList.take t.size = t.data.toList := List.take_of_length_le (Nat.le_refl _)


theorem decOk_long (s : ByteArray) (h : ¬ s.size ≤ 450) : decOk s = false := by unfold decOk; rw [decide_eq_false h, Bool.and_false, Bool.false_and]
theorem decOk_dig (s : ByteArray) (h : digitsB s = false) : decOk s = false := by unfold decOk; rw [h, Bool.false_and, Bool.false_and]
theorem decOk_lead (s : ByteArray) (h1 : 1 < s.size) (h : s[0].toNat = 48) : decOk s = false := by
  have e : s.data.toList.headD 0 = 48 := by rw [head_get s (by omega)]; exact UInt8.toNat_inj.1 h
  unfold decOk
  rw [decide_eq_true h1, decide_eq_true e]
  simp
theorem decOk_yes (s : ByteArray) (hd : digitsB s = true) (h4 : s.size ≤ 450) (hl : ∀ h0 : 0 < s.size, ¬ (1 < s.size ∧ s[0].toNat = 48)) (h0 : 0 < s.size) : decOk s = true := by
  unfold decOk
  rw [hd, decide_eq_true h4]
  by_cases h1 : 1 < s.size
  · have e : ¬ s.data.toList.headD 0 = 48 := by
      rw [head_get s h0]
      intro e
      exact hl h0 ⟨h1, by rw [e]; rfl⟩
    rw [decide_eq_false e, Bool.and_false]
    rfl
  · rw [decide_eq_false h1]
    rfl


theorem limbs_len (k : Nat) : ∀ n : Nat, n < 1000000000 ^ k → (limbs n).length ≤ k := by
  induction k with
  | zero => intro n h; rw [show n = 0 by simp at h; exact h, limbs_none]; simp
  | succ k ih =>
    intro n h
    by_cases h0 : n = 0
    · rw [h0, limbs_none]; simp
    · rw [limbs_pos n h0, List.length_cons]
      have := ih (n / 1000000000) (by rw [Nat.pow_succ] at h; exact Nat.div_lt_of_lt_mul (by rw [Nat.mul_comm]; exact h))
      omega
theorem limbs_of_len (n : Int) (h : n ≤ 9223372036854775807) : (limbs n.toNat).length ≤ 3 := limbs_len 3 _ (by
  have : n.toNat ≤ 9223372036854775807 := by omega
  exact Nat.lt_of_le_of_lt this (by decide))
theorem trimL_le (xs : List Int) : (trimL xs).length ≤ xs.length := by
  induction xs with
  | nil => simp [trimL]
  | cons d r ih => unfold trimL; split <;> simp <;> omega
/-- what TextNat answers -/
def tnR (s : ByteArray) : List Int := if decOk s = true then limbs (valL s.data.toList).toNat else []
theorem tnR_len (s : ByteArray) : (tnR s).length ≤ 450 := by
  unfold tnR
  split
  · rename_i h
    have hd : digitsB s = true := by
      by_cases hd : digitsB s = true
      · exact hd
      · rw [decOk_dig s (by simpa using hd)] at h; exact absurd h (by decide)
    have h4 : s.size ≤ 450 := by
      by_cases h4 : s.size ≤ 450
      · exact h4
      · rw [decOk_long s h4] at h; exact absurd h (by decide)
    have hv := groups_val s.data.toList ((digitsB_iff s).1 hd).1 s.size (Nat.le_refl _)
    rw [take_full] at hv
    rw [← hv.1, ← trim_limbs _ hv.2.1]
    exact Nat.le_trans (trimL_le _) (Nat.le_trans hv.2.2 h4)
  · simp
/-- how TextNat ends: a new row, and whether the text is a number -/
def TNNew (s : ByteArray) (w : World) (e : Ending) (w' : World) : Prop :=
  ∃ v, e = .returned (.tuple #[v, .bool (decOk s)]) ∧ w'.ownsRow w.heap.size 3 1 v (tnR s).length (intsV (tnR s)) ∧ Below w.heap.size w w'
theorem TNPost.new {s : ByteArray} {w w' : World} {e : Ending} (h : TNPost s w e w') : TNNew s w e w' := by
  obtain ⟨hb, ⟨ho, v, rfl, hv⟩ | ⟨ho, rfl⟩⟩ := h
  · refine ⟨v, by rw [ho], ?_, hb⟩
    rw [show tnR s = limbs (valL s.data.toList).toNat by unfold tnR; rw [if_pos ho]]
    exact hv
  · refine ⟨_, by rw [ho], ?_, hb⟩
    rw [show tnR s = [] by unfold tnR; rw [ho]; rfl]
    exact nil_own
end Go.Proofs.YtcenmdiblbooeaaDoor

namespace Go.Proofs.YtcenmdiblbooeaaDoor
open Go.RowKit

theorem valL_dec (u : Nat) : valL (Lib.decDigits u) = u := by
  induction u using Nat.strongRecOn with
  | _ u ih =>
    by_cases h : u < 10
    · rw [dec_small u h]
      show (0 : Int) * 10 + (((UInt8.ofNat (48 + u)).toNat : Int) - 48) = u
      rw [UInt8.toNat_ofNat']
      omega
    · rw [dec_big u h, valL_snoc, ih (u / 10) (by omega), UInt8.toNat_ofNat']
      omega
theorem dig_dec (u : Nat) : DigL (Lib.decDigits u) ∧ Lib.decDigits u ≠ [] := by
  induction u using Nat.strongRecOn with
  | _ u ih =>
    by_cases h : u < 10
    · rw [dec_small u h]
      refine ⟨fun c hc => ?_, by simp⟩
      rw [List.mem_singleton.1 hc, UInt8.toNat_ofNat']
      omega
    · rw [dec_big u h]
      refine ⟨fun c hc => ?_, by simp⟩
      rcases List.mem_append.1 hc with hc | hc
      · exact (ih (u / 10) (by omega)).1 c hc
      · rw [List.mem_singleton.1 hc, UInt8.toNat_ofNat']
        omega
/-- s is the numeral of the int n -/
def IsNum (s : ByteArray) (n : Int) : Prop := numB n = s ∧ -9223372036854775808 ≤ n ∧ n ≤ 9223372036854775807

/-- without a leading '-' -/
def bareL (l : List UInt8) : List UInt8 := if l.headD 0 = 45 then l.tail else l
theorem isNum_parts (s : ByteArray) (n : Int) (h : IsNum s n) : DigL (bareL s.data.toList) ∧ bareL s.data.toList ≠ [] ∧ valL (bareL s.data.toList) = n.natAbs ∧ ((s.data.toList.headD 0 = 45) ↔ n < 0) ∧ (bareL s.data.toList).length ≤ 19 := by
  obtain ⟨rfl, h1, h2⟩ := h
  have hsz := numB_size n 18 (by omega)
  have e : (numB n).data.toList = Lib.itoa n := rfl
  have hsz' : (Lib.itoa n).length ≤ 20 := hsz
  rw [e]
  unfold Lib.itoa at hsz' ⊢
  by_cases hn : n < 0
  · rw [if_pos hn] at hsz' ⊢
    have hb : bareL (45 :: Lib.decDigits n.natAbs) = Lib.decDigits n.natAbs := rfl
    rw [hb]
    exact ⟨(dig_dec _).1, (dig_dec _).2, valL_dec _, by simp [hn], by simp at hsz'; omega⟩
  · rw [if_neg hn] at hsz' ⊢
    have hd := dig_dec n.toNat
    have hh : ¬ (Lib.decDigits n.toNat).headD 0 = 45 := by
      intro e2
      cases hc : Lib.decDigits n.toNat with
      | nil => exact hd.2 hc
      | cons c r =>
        rw [hc] at e2
        have h3 := hd.1 c (by rw [hc]; simp)
        have : c = 45 := e2
        rw [this] at h3
        simp at h3
    have hb : bareL (Lib.decDigits n.toNat) = Lib.decDigits n.toNat := by unfold bareL; rw [if_neg hh]
    rw [hb]
    refine ⟨hd.1, hd.2, by rw [valL_dec]; omega, ⟨fun e => absurd e hh, fun e => absurd e hn⟩, ?_⟩
    have h4 : ∀ (k u : Nat), u < 10 ^ (k + 1) → (Lib.decDigits u).length ≤ k + 1 := by
      intro k
      induction k with
      | zero => intro u hu; rw [dec_small u (by simpa using hu)]; simp
      | succ k ih =>
        intro u hu
        by_cases hs : u < 10
        · rw [dec_small u hs]; simp
        · rw [dec_big u hs, List.length_append]
          have := ih (u / 10) (by rw [Nat.pow_succ] at hu; omega)
          simp; omega
    exact h4 18 _ (by omega)
theorem isNum_inj (s : ByteArray) (n m : Int) (h : IsNum s n) (k : IsNum s m) : n = m := by
  obtain ⟨_, _, a1, a2, _⟩ := isNum_parts s n h
  obtain ⟨_, _, b1, b2, _⟩ := isNum_parts s m k
  rw [a1] at b1
  rw [a2] at b2
  omega

/-- what TextInt answers -/
def TIPost (s : ByteArray) (w : World) (e : Ending) (w' : World) : Prop :=
  Below w.heap.size w w' ∧ ((∃ n, IsNum s n ∧ e = .returned (.tuple #[.int .i64 n, .bool true])) ∨ ((∀ n, ¬ IsNum s n) ∧ e = .returned (.tuple #[.int .i64 0, .bool false])))

theorem wrap_step (a c : Int) : wrap64 (wrap64 (wrap64 a * 10) + c) = wrap64 (a * 10 + c) := by unfold wrap64; omega


theorem prefix_head (l : List UInt8) : Lib.hasPrefix l [45] = decide (l.headD 0 = 45) := by
  unfold Lib.hasPrefix
  cases l with
  | nil => rfl
  | cons c r =>
    show (List.isPrefixOf [45] (c :: r)) = decide (c = 45)
    simp [List.isPrefixOf]
    by_cases h : c = 45
    · subst h; simp
    · rw [decide_eq_false h, beq_eq_false_iff_ne]
      exact fun e => h e.symm
theorem trim_bare (l : List UInt8) : Lib.trimPrefix l [45] = bareL l := by
  unfold Lib.trimPrefix bareL
  rw [prefix_head]
  by_cases h : l.headD 0 = 45
  · rw [if_pos h, if_pos (by simpa using h), List.length_singleton, List.drop_one]
  · rw [if_neg h, if_neg (by simpa using h)]
/-- the digits of a text, and whether it has a '-' ahead -/
def bareB (s : ByteArray) : ByteArray := ⟨(bareL s.data.toList).toArray⟩
def negB (s : ByteArray) : Bool := decide (s.data.toList.headD 0 = 45)

/-- the int that impl.TextInt tries -/
def tryB (s : ByteArray) : Int := if negB s = true then wrap64 (-(wrap64 (valL (bareL s.data.toList)))) else wrap64 (valL (bareL s.data.toList))
theorem try_range (s : ByteArray) : -9223372036854775808 ≤ tryB s ∧ tryB s ≤ 9223372036854775807 := by
  unfold tryB
  split <;> (unfold wrap64; omega)
theorem try_is (s : ByteArray) (n : Int) (h : IsNum s n) : tryB s = n := by
  obtain ⟨_, _, h3, h4, _⟩ := isNum_parts s n h
  obtain ⟨_, h1, h2⟩ := h
  unfold tryB negB
  rw [h3]
  by_cases hn : n < 0
  · rw [if_pos (by rw [decide_eq_true_eq]; exact h4.2 hn)]
    unfold wrap64
    omega
  · rw [if_neg (by rw [decide_eq_true_eq]; exact fun e => hn (h4.1 e))]
    unfold wrap64
    omega
theorem no_num_digits (s : ByteArray) (h : digitsB (bareB s) = false) : ∀ n, ¬ IsNum s n := by
  intro n hn
  obtain ⟨h1, h2, _⟩ := isNum_parts s n hn
  rw [(digitsB_iff (bareB s)).2 ⟨h1, h2⟩] at h
  cases h
theorem no_num_try (s : ByteArray) (h : ¬ numB (tryB s) = s) : ∀ n, ¬ IsNum s n := by
  intro n hn
  apply h
  rw [try_is s n hn]
  exact hn.1
theorem bytes_ne' {a b : ByteArray} (h : ¬ a = b) : (a.toList == b.toList) = false := by
  rw [beq_eq_false_iff_ne, ByteArray.toList_eq, ByteArray.toList_eq]
  exact fun e => h (WideShapes.bytes_inj e)


theorem bareB_data (s : ByteArray) : (bareB s).data.toList = bareL s.data.toList := rfl
theorem negB_head (s : ByteArray) (h0 : 0 < s.size) : negB s = ((s[0].toNat : Int) == 45) := by
  unfold negB
  rw [head_get s h0]
  by_cases h : s[0] = 45
  · rw [h]; rfl
  · rw [decide_eq_false h]
    symm
    rw [beq_eq_false_iff_ne]
    intro e
    exact h (UInt8.toNat_inj.1 (by show s[0].toNat = 45; omega))
theorem bareB_tail (s : ByteArray) (h : negB s = true) : s.extract 1 s.size = bareB s := by
  apply WideShapes.bytes_inj
  rw [bareB_data, Lib.extract_to_end]
  unfold bareL
  rw [if_pos (by simpa [negB] using h), List.drop_one]
theorem bareB_self (s : ByteArray) (h : negB s = false) : bareB s = s := by
  apply WideShapes.bytes_inj
  rw [bareB_data]
  unfold bareL
  rw [if_neg (by simpa [negB] using h)]
theorem negB_nil (s : ByteArray) (h : ¬ 0 < s.size) : negB s = false := by
  obtain ⟨⟨l⟩⟩ := s
  cases l with
  | nil => rfl
  | cons a r => simp [ByteArray.size] at h
theorem no_num_long (s : ByteArray) (h : 19 < (bareB s).size) : ∀ n, ¬ IsNum s n := by
  intro n hn
  obtain ⟨_, _, _, _, h5⟩ := isNum_parts s n hn
  have : (bareB s).size = (bareL s.data.toList).length := rfl
  omega
theorem no_num_big (s : ByteArray) (k : Nat) (hd : DigL (bareB s).data.toList) (h : 9223372036854775808 < valL ((bareB s).data.toList.take k)) : ∀ n, ¬ IsNum s n := by
  intro n hn
  obtain ⟨_, _, h3, _, _⟩ := isNum_parts s n hn
  obtain ⟨_, h1, h2⟩ := hn
  have hm := valL_mono ((bareB s).data.toList.take k) ((bareB s).data.toList.drop k) (by rw [List.take_append_drop]; exact hd)
  rw [List.take_append_drop, bareB_data, h3] at hm
  rw [bareB_data] at h
  omega
theorem no_num_min (s : ByteArray) (hn : negB s = false) (h : valL (bareB s).data.toList = 9223372036854775808) : ∀ n, ¬ IsNum s n := by
  intro n hx
  obtain ⟨_, _, h3, h4, _⟩ := isNum_parts s n hx
  obtain ⟨_, h1, h2⟩ := hx
  rw [bareB_data, h3] at h
  have : ¬ n < 0 := fun e => by have h5 := h4.2 e; unfold negB at hn; rw [decide_eq_true h5] at hn; cases hn
  omega
/-- the int that spec.TextInt tries -/
theorem try_neg (s : ByteArray) (hn : negB s = true) (h0 : 0 ≤ valL (bareB s).data.toList) (h : valL (bareB s).data.toList ≤ 9223372036854775808) : -valL (bareB s).data.toList = tryB s := by
  rw [bareB_data] at h h0 ⊢
  unfold tryB
  rw [if_pos hn]
  unfold wrap64
  omega
theorem try_pos (s : ByteArray) (hn : negB s = false) (h0 : 0 ≤ valL (bareB s).data.toList) (h : valL (bareB s).data.toList ≤ 9223372036854775807) : valL (bareB s).data.toList = tryB s := by
  rw [bareB_data] at h h0 ⊢
  unfold tryB
  rw [if_neg (by simp [hn])]
  unfold wrap64
  omega
theorem take_all (t : ByteArray) : t.data.toList.take t.size = t.data.toList := List.take_of_length_le (Nat.le_refl _)
/-- the bound that the loop of spec.TextInt asks -/
theorem quo_bound (v d : Int) (hd : 0 ≤ d) (hd9 : d ≤ 9) : (-v < (-9223372036854775808 + d).tdiv 10) ↔ 9223372036854775808 < v * 10 + d := by
  have h := quo_rem (-9223372036854775808 + d) (by omega)
  omega






end Go.Proofs.YtcenmdiblbooeaaDoor

namespace Go.Proofs.YtcenmdiblbooeaaDoor
open Go.RowKit

theorem dec_len : ∀ (k u : Nat), u < 10 ^ (k + 1) → (Lib.decDigits u).length ≤ k + 1 := by
  intro k
  induction k with
  | zero => intro u hu; rw [dec_small u (by simpa using hu)]; simp
  | succ k ih =>
    intro u hu
    by_cases hs : u < 10
    · rw [dec_small u hs]; simp
    · rw [dec_big u hs, List.length_append]
      have := ih (u / 10) (by rw [Nat.pow_succ] at hu; omega)
      simp; omega
theorem num_list (d : Int) (h : 0 ≤ d) : (numB d).data.toList = Lib.decDigits d.toNat := by
  show Lib.itoa d = _
  unfold Lib.itoa
  rw [if_neg (by omega)]
theorem limb_nine {d : Int} (h : 0 ≤ d ∧ d ≤ 999999999) : (numB d).size ≤ 9 := by
  have := dec_len 8 d.toNat (by omega)
  rw [← num_list d h.1] at this
  exact this
theorem pad_nine {d : Int} (h : 0 ≤ d ∧ d ≤ 999999999) : (padB (numB d) 9).size = 9 := by
  have h9 := limb_nine h
  unfold padB
  show (List.toArray _).size = 9
  rw [List.size_toArray, List.length_append, List.length_replicate]
  have : (numB d).data.toList.length = (numB d).size := rfl
  have : (9 : Int).toNat = 9 := rfl
  omega
/-- how long the text of limbs is -/
theorem natT_len (a : List Int) (h : DigN a) (h0 : 0 < a.length) : (natT a).size = (a.length - 1) * 9 + (numB (a[a.length - 1]'(by omega))).size := by
  induction a with
  | nil => simp at h0
  | cons d r ih =>
    cases r with
    | nil => unfold natT; simp
    | cons e r =>
      have hi := ih (fun x hx => h x (by simp at hx ⊢; exact .inr hx)) (by simp)
      unfold natT
      rw [ByteArray.size_append, hi, pad_nine (h d (by simp))]
      simp only [List.length_cons]
      have e1 : (d :: e :: r)[r.length + 1 + 1 - 1] = (e :: r)[r.length + 1 - 1] := by simp
      rw [e1]
      omega

/-- the last k digits -/
def lastD : Nat → Nat → List UInt8
  | 0, _ => []
  | k + 1, u => lastD k (u / 10) ++ [UInt8.ofNat (48 + u % 10)]
theorem dec_split (k : Nat) : ∀ u : Nat, 10 ^ k ≤ u → Lib.decDigits u = Lib.decDigits (u / 10 ^ k) ++ lastD k u := by
  induction k with
  | zero => intro u _; simp [lastD]
  | succ k ih =>
    intro u hu
    rw [Nat.pow_succ] at hu
    have hp : 0 < 10 ^ k := Nat.pow_pos (by omega)
    have h10 : ¬ u < 10 := by omega
    have hk : 10 ^ k ≤ u / 10 := by omega
    rw [dec_big u h10, ih (u / 10) hk, Nat.div_div_eq_div_mul, Nat.mul_comm 10, ← Nat.pow_succ, List.append_assoc]
    rfl
theorem lastD_mod (k : Nat) : ∀ u : Nat, lastD k u = lastD k (u % 10 ^ k) := by
  induction k with
  | zero => intro u; rfl
  | succ k ih =>
    intro u
    have e1 : u % 10 ^ (k + 1) / 10 = u / 10 % 10 ^ k := by
      rw [Nat.pow_succ, Nat.mul_comm, Nat.mod_mul_right_div_self]
    have e2 : u % 10 ^ (k + 1) % 10 = u % 10 := by
      rw [Nat.pow_succ, Nat.mul_comm]
      exact Nat.mod_mul_right_mod _ _ _
    show lastD k (u / 10) ++ _ = lastD k (u % 10 ^ (k + 1) / 10) ++ _
    rw [e1, e2, ← ih (u / 10)]
theorem lastD_zero (k : Nat) : lastD k 0 = List.replicate k 48 := by
  induction k with
  | zero => rfl
  | succ k ih =>
    show lastD k (0 / 10) ++ [UInt8.ofNat (48 + 0 % 10)] = _
    rw [Nat.zero_div, ih, List.replicate_succ']
    rfl
theorem lastD_pad (k : Nat) : ∀ u : Nat, u < 10 ^ k → 0 < k → lastD k u = List.replicate (k - (Lib.decDigits u).length) 48 ++ Lib.decDigits u := by
  induction k with
  | zero => intro u _ h; omega
  | succ k ih =>
    intro u hu _
    show lastD k (u / 10) ++ [UInt8.ofNat (48 + u % 10)] = _
    by_cases h10 : u < 10
    · rw [dec_small u h10, show u / 10 = 0 by omega, lastD_zero, show u % 10 = u by omega]
      simp
    · rw [dec_big u h10]
      have hk : 0 < k := by
        rcases Nat.eq_zero_or_pos k with h | h
        · subst h; simp at hu; omega
        · exact h
      rw [ih (u / 10) (by rw [Nat.pow_succ] at hu; omega) hk, List.append_assoc]
      congr 2
      simp
/-- the text of the limbs of a number is its numeral -/
theorem natT_dec (n : Nat) : (natT (limbs n)).data.toList = Lib.decDigits n := by
  induction n using Nat.strongRecOn with
  | _ n ih =>
    by_cases h0 : n = 0
    · subst h0
      rw [limbs_none, dec_small 0 (by omega)]
      rfl
    · rw [limbs_pos n h0]
      by_cases hs : n / 1000000000 = 0
      · rw [hs, limbs_none]
        show (numB _).data.toList = _
        rw [num_list _ (by omega), show (((n % 1000000000 : Nat) : Int)).toNat = n by omega]
      · have hi := ih (n / 1000000000) (by omega)
        rw [limbs_pos _ hs] at hi ⊢
        show (natT _ ++ padB (numB _) 9).data.toList = _
        rw [ByteArray.data_append, Array.toList_append, hi, dec_split 9 n (by omega), lastD_mod 9 n, lastD_pad 9 (n % 10 ^ 9) (by omega) (by omega)]
        unfold padB
        rw [num_list _ (by omega)]
        have e : (numB ((n % 1000000000 : Nat) : Int)).size = (Lib.decDigits (n % 10 ^ 9)).length := by
          show (numB _).data.toList.length = _
          rw [num_list _ (by omega), show (((n % 1000000000 : Nat) : Int)).toNat = n % 10 ^ 9 by omega]
        rw [e, show (((n % 1000000000 : Nat) : Int)).toNat = n % 10 ^ 9 by omega]
        rfl

theorem limbs_dig (n : Nat) : DigN (limbs n) := by
  induction n using Nat.strongRecOn with
  | _ n ih =>
    by_cases h0 : n = 0
    · subst h0; rw [limbs_none]; exact fun d hd => by cases hd
    · rw [limbs_pos n h0]
      exact DigN.cons (by omega) (by omega) (ih _ (by omega))
theorem limbs_last (n : Nat) : (limbs n).getLastD 1 ≠ 0 := by
  induction n using Nat.strongRecOn with
  | _ n ih =>
    by_cases h0 : n = 0
    · subst h0; rw [limbs_none]; decide
    · rw [limbs_pos n h0]
      by_cases hs : n / 1000000000 = 0
      · rw [hs, limbs_none]
        show ((n % 1000000000 : Nat) : Int) ≠ 0
        omega
      · have hi := ih (n / 1000000000) (by omega)
        rw [limbs_pos _ hs] at hi ⊢
        simpa using hi
theorem limbs_ok (n : Nat) (h : (limbs n).length ≤ 50) : natOkB (limbs n) = true := by
  unfold natOkB
  rw [(all_dig _).2 (limbs_dig n), decide_eq_true h, decide_eq_true (limbs_last n)]
  rfl
theorem natText_limbs (n : Nat) (h : (limbs n).length ≤ 50) : (natTextB (limbs n)).data.toList = Lib.decDigits n := by
  unfold natTextB
  rw [if_pos (limbs_ok n h), natT_dec]
theorem groups_len (l : List UInt8) (e : Nat) : (groups l e).length ≤ (e + 8) / 9 := by
  induction e using Nat.strongRecOn with
  | _ e ih =>
    by_cases h0 : e = 0
    · subst h0; rw [groups_zero]; simp
    · rw [groups_pos l e h0, List.length_cons]
      have := ih (e - 9) (by omega)
      omega

/-! ### numerals -/
theorem dec_head (u : Nat) (h : 0 < u) : (Lib.decDigits u).headD 0 ≠ 48 := by
  induction u using Nat.strongRecOn with
  | _ u ih =>
    by_cases h10 : u < 10
    · rw [dec_small u h10]
      show UInt8.ofNat (48 + u) ≠ 48
      intro e
      have := congrArg UInt8.toNat e
      rw [UInt8.toNat_ofNat'] at this
      have h48 : (48 : UInt8).toNat = 48 := rfl
      omega
    · have hi := ih (u / 10) (by omega) (by omega)
      have hd := (dig_dec (u / 10)).2
      rw [dec_big u h10]
      cases hc : Lib.decDigits (u / 10) with
      | nil => exact absurd hc hd
      | cons c r => rw [hc] at hi; simpa using hi
theorem val_pos (l : List UInt8) (h : DigL l) (hne : l ≠ []) (hh : l.headD 0 ≠ 48) : 0 < valL l := by
  cases l with
  | nil => exact absurd rfl hne
  | cons c r =>
    have e : valL (c :: r) = ((c.toNat : Int) - 48) * 10 ^ r.length + valL r := by
      show List.foldl _ (0 * 10 + ((c.toNat : Int) - 48)) r = _
      rw [fold_app, Int.zero_mul, Int.zero_add]
    have hc := h c (by simp)
    have hc48 : c.toNat ≠ 48 := fun e2 => hh (by
      show c = 48
      apply UInt8.toNat_inj.1
      rw [e2]; rfl)
    have hr := valL_nonneg r (fun x hx => h x (by simp [hx]))
    have hp : (0 : Int) < 10 ^ r.length := Int.pow_pos (by omega)
    have hm := Int.mul_le_mul_of_nonneg_right (show (1 : Int) ≤ (c.toNat : Int) - 48 by omega) (Int.le_of_lt hp)
    omega
theorem dec_val_rev (l : List UInt8) (h : DigL l.reverse) (hne : l ≠ []) (hh : l.reverse.length = 1 ∨ l.reverse.headD 0 ≠ 48) : Lib.decDigits (valL l.reverse).toNat = l.reverse := by
  induction l with
  | nil => exact absurd rfl hne
  | cons c m ih =>
    rw [List.reverse_cons] at h hh ⊢
    have hc := h c (by simp)
    have ec : ∀ x : Nat, x = c.toNat - 48 → UInt8.ofNat (48 + x) = c := by
      intro x hx
      apply UInt8.toNat_inj.1
      rw [UInt8.toNat_ofNat', hx]
      omega
    have hm : DigL m.reverse := fun x hx => h x (by rw [List.mem_append]; exact .inl hx)
    rw [valL_snoc]
    by_cases hn : m = []
    · subst hn
      have e0 : valL ([] : List UInt8).reverse = 0 := rfl
      rw [e0, dec_small _ (by omega), ec _ (by omega)]
      rfl
    · have hh2 : m.reverse.headD 0 ≠ 48 := by
        have hr : m.reverse ≠ [] := by simpa using hn
        rcases hh with hh | hh
        · rw [List.length_append, List.length_singleton] at hh
          have : m.reverse.length ≠ 0 := fun e => hr (List.eq_nil_of_length_eq_zero e)
          omega
        · cases hcm : m.reverse with
          | nil => exact absurd hcm hr
          | cons x y => rw [hcm] at hh; simpa using hh
      have hp := val_pos m.reverse hm (by simpa using hn) hh2
      have hi := ih hm hn (.inr hh2)
      rw [dec_big _ (by omega), show (valL m.reverse * 10 + ((c.toNat : Int) - 48)).toNat / 10 = (valL m.reverse).toNat by omega, hi, ec _ (by omega)]
/-- a text of digits is the numeral of its value where it has no zero ahead -/
theorem dec_val (l : List UInt8) (h : DigL l) (hne : l ≠ []) : Lib.decDigits (valL l).toNat = l ↔ ¬ (1 < l.length ∧ l.headD 0 = 48) := by
  constructor
  · intro e ⟨h1, h2⟩
    by_cases h0 : 0 < (valL l).toNat
    · have := dec_head _ h0
      rw [e] at this
      exact this h2
    · rw [show (valL l).toNat = 0 by omega, dec_small 0 (by omega)] at e
      rw [← e] at h1
      simp at h1
  · intro hn
    have hl : 0 < l.length := List.length_pos_iff.2 hne
    have := dec_val_rev l.reverse (by rw [List.reverse_reverse]; exact h) (by simpa using hne) (by
      rw [List.reverse_reverse]
      by_cases h1 : l.length = 1
      · exact .inl h1
      · exact .inr (fun e => hn ⟨by omega, e⟩))
    rwa [List.reverse_reverse] at this
end Go.Proofs.YtcenmdiblbooeaaDoor

namespace Go.Proofs.YtcenmdiblbooeaaDoor
open Go.RowKit

theorem strInfoD : (Tryd.prog.info? 9).map (fun i => (i.zero, i.size, i.bytes)) = some (some (.string ⟨#[]⟩), 1, 16) := by kernel_rfl
theorem joinTo_leftD (b : ByteArray) (l : List ByteArray) (x : ByteArray) : ∀ k, k ≤ l.length → joinTo b (l ++ [x]) k = joinTo b l k := by
  intro k
  induction k with
  | zero => intro _; rfl
  | succ k ih =>
    intro hk
    have e : (l ++ [x]).getD k ByteArray.empty = l.getD k ByteArray.empty := by
      rw [List.getD_eq_getElem?_getD, List.getD_eq_getElem?_getD, List.getElem?_append_left (by omega)]
    rw [joinTo, joinTo, ih (by omega), e]
/-- nothing between the parts: one part more is laid behind -/
theorem joinB_snoc (l : List ByteArray) (x : ByteArray) : joinB ⟨#[]⟩ (l ++ [x]) = joinB ⟨#[]⟩ l ++ x := by
  have e : (l ++ [x]).getD l.length ByteArray.empty = x := by simp
  apply ByteArray.ext
  unfold joinB
  rw [List.length_append, List.length_singleton, joinTo, joinTo_leftD _ l x _ (Nat.le_refl _), e, ByteArray.data_append]
  simp
theorem joinB_one (x : ByteArray) : joinB ⟨#[]⟩ [x] = x := by
  apply ByteArray.ext
  simp [joinB, joinTo]


/-- the parts so far are the text of the limbs from k on -/
def PartsR (a : List Int) (k : Nat) (ss : List ByteArray) : Prop := joinB ⟨#[]⟩ ss = natT (a.drop k) ∧ (∀ s ∈ ss, s.size ≤ 1048576) ∧ ss.length + k ≤ a.length
theorem PartsR.next {a : List Int} {j : Nat} {ss : List ByteArray} (h : PartsR a (j + 1) ss) (hj : j + 1 < a.length) (hd : DigN a) : PartsR a j (ss ++ [padB (numB a[j]) 9]) := by
  obtain ⟨h1, h2, h3⟩ := h
  refine ⟨by rw [joinB_snoc, h1, natT_step a j hj], ?_, by simp; omega⟩
  intro s hs
  rcases List.mem_append.1 hs with hs | hs
  · exact h2 s hs
  · rw [List.mem_singleton.1 hs, pad_nine (hd.at_ j (by omega))]
    omega
set_option maxHeartbeats 1000000 in
set_option maxRecDepth 100000 in
theorem implNatText_any (v : Value) (a : List Int) (lo hi : Nat) (w : World) (hl : a.length ≤ 1048576) (hhi : hi ≤ w.heap.size) (hr : Row w lo hi v (intsV a)) (ht : Tab w) :
    Calls Tryd.prog 99 #[v] w fun e w' => e = .returned (.string (natTextB a)) ∧ Below w.heap.size w w' := by
  obtain ⟨i0, hi0, hz0, hz1, hz2⟩ := info_parts strInfoD
  have hr0 := hr
  obtain ⟨A, c, rfl, hA⟩ := hr
  rw [intsV_length] at hr0 ⊢
  by_cases ok : natOkB a = true
  · have HV := Lib.hid (show natTextB a = natT a by unfold natTextB; rw [if_pos ok])
    by_cases h0 : a.length = 0
    · have HA := Lib.hid (show a = [] from List.length_eq_zero_iff.1 h0)
      have H0 := Lib.hid h0
      clear h0
      go_enter Tryd.func99, Tryd.ntmps99
      go_wp2_with fail
      refine (implNatOk_same _ a lo hi _ (by omega) hr0).mono ?_
      rintro e w' ⟨rfl, rfl⟩
      rw [ok]
      have h0 := H0.out
      go_wp2
      go_ret
      exact ⟨by rw [HV.out, HA.out]; rfl, Below.refl _ _⟩
    · have hpos : 0 < a.length := by omega
      obtain ⟨ad, rfl, hlo, hbh, hc1⟩ := hA (a.length - 1) _ (intsV_at a (a.length - 1) (by omega))
      have HA := Lib.hid hA
      have PA := Lib.hid (natOk_parts ok).1
      have hlim := (natOk_parts ok).1.at_ (a.length - 1) (by omega)
      have h50 := (natOk_parts ok).2.1
      have hls := limb_nine hlim
      have hix : ((a.length : Int) - 1).toNat = a.length - 1 := by omega
      have hz : ((a.length : Int) == 0) = false := by rw [beq_eq_false_iff_ne]; omega
      have HL : Hid (PartsR a (a.length - 1) [numB a[a.length - 1]]) := Lib.hid ⟨by rw [joinB_one, natT_last a hpos], (fun s hs => by rw [List.mem_singleton.1 hs]; omega), by simp; omega⟩
      clear hA h0
      go_enter Tryd.func99, Tryd.ntmps99
      go_wp2_with fail
      refine (implNatOk_same _ a lo hi _ (by omega) hr0).mono ?_
      rintro e w' ⟨rfl, rfl⟩
      rw [ok]
      go_wp2_with fail
      refine (implIntText_any _ _ (by omega) (by omega) ht).mono ?_
      rintro e w1 ⟨rfl, b1⟩
      go_wp2
      go_loopw [4, 5] (fun s i wr => ∃ (k : Nat) (ss : List ByteArray), k < a.length ∧ i = .int .i64 ((k : Int) - 1) ∧ Hid (PartsR a k ss) ∧ wr.ownsRow w.heap.size 9 1 s ss.length (ss.map Value.string) ∧ Below w.heap.size w wr) (fun _ i _ => (intOf i + 1).toNat)
      case atStart => exact ⟨a.length - 1, [numB a[a.length - 1]], by omega, by congr 1; omega, HL, ⟨rfl, .inr ⟨w1.heap.size, 1, _, rfl, b1.size, heap_alloc_new w1 _, Nat.le_refl _, by unfold maxLen; omega, rfl, rfl⟩⟩, b1.alloc b1.size _⟩
      case round =>
        obtain ⟨k, ss, hk, rfl, HP, hown, hb⟩ := hrel
        have hsl : ss.length ≤ 50 := by have := HP.out.2.2; omega
        by_cases hk0 : 0 < k
        · obtain ⟨j, rfl⟩ : ∃ j, k = j + 1 := ⟨k - 1, by omega⟩
          have hcj : wr.cell? (ad.add j) = some (.int .i64 a[j]) := by
            obtain ⟨_, e, _, _, h⟩ := HA.out j _ (intsV_at a j (by omega))
            cases e
            exact (hb.cell (by rw [block_add]; omega)).trans h
          have hj := PA.out.at_ j (by omega)
          have hlj := limb_nine hj
          have HN := Lib.hid (HP.out.next hk PA.out)
          have e1 : (((j + 1 : Nat) : Int) - 1) = (j : Int) := by omega
          rw [e1]
          clear e1 hk0
          go_wp2_with fail
          refine (implIntText_any _ _ (by omega) (by omega) (ht.below hb)).mono ?_
          rintro e w2 ⟨rfl, b2⟩
          go_wp2_with fail
          refine (implPad_any _ _ _ (by omega) (by omega) (by omega)).mono ?_
          rintro e w3 ⟨rfl, b3⟩
          have hown3 := own_below (own_below hown b2) b3
          have hb3 : Below w.heap.size w w3 := Below.next (Below.next hb b2) b3
          go_wp2_with (at_builtin; refine wpList_append_own _ rfl _ _ 80 rfl w.heap.size 9 i0 (.string ⟨#[]⟩) 1 16 Tryd.underlying80 hi0 hz0 hz1 hz2 rfl (by decide) _ _ _ rfl (own_alloc hown3 _) ⟨w3.heap.size, 0, none⟩ 1 1 [.string (padB (numB a[j]) 9)] rfl rfl (one_new _ _ _) ?c2 ?c3 ?c4 ?c5 ?_)
          case c2 => first | (intro u hu; simp at hu; subst hu; rfl) | rfl
          case c3 => unfold maxLen; omega
          case c4 => omega
          case c5 => have := hb3.size; simp; omega
          intro v1 w4 hown4 hg4 _
          have hb4 := below_push hb3 (Nat.le_refl _) hown3 hg4
          go_wp2
          exact ⟨⟨j, ss ++ [padB (numB a[j]) 9], by omega, rfl, HN, by simpa using hown4, hb4⟩, by simp [intOf]⟩
        · obtain rfl : k = 0 := by omega
          go_wp2_with fail
          refine (implJoin_any _ ⟨#[]⟩ ss w.heap.size _ _ (Nat.le_refl _) (by omega) (by decide) HP.out.2.1 (Row.of_own hown)).mono ?_
          rintro e w2 ⟨rfl, b2⟩
          go_wp2
          go_ret
          exact ⟨ret_str (by rw [HV.out, HP.out.1]; rfl), Below.next hb b2⟩
  · have okf : natOkB a = false := by simpa using ok
    have HV := Lib.hid (show natTextB a = ⟨#[]⟩ by unfold natTextB; rw [if_neg ok])
    clear hA ok
    go_enter Tryd.func99, Tryd.ntmps99
    go_wp2_with fail
    refine (implNatOk_same _ a lo hi _ (by omega) hr0).mono ?_
    rintro e w' ⟨rfl, rfl⟩
    rw [okf]
    go_wp2
    go_ret
    exact ⟨ret_str HV.out.symm, Below.refl _ _⟩
end Go.Proofs.YtcenmdiblbooeaaDoor

namespace Go.Proofs.YtcenmdiblbooeaaDoor
open Go.RowKit

theorem extract_listD (s : ByteArray) (a b : Nat) : (s.extract a b).data.toList = (s.data.toList.take b).drop a := by
  simp [ByteArray.data_extract, List.drop_take]
end Go.Proofs.YtcenmdiblbooeaaDoor

namespace Go.Proofs.YtcenmdiblbooeaaDoor
open Go.RowKit

/-- the limbs that are read are those of the value -/
theorem read_limbs (s : ByteArray) (hd : DigL s.data.toList) : trimL (groups s.data.toList s.size) = limbs (valL s.data.toList).toNat := by
  have hv := groups_val s.data.toList hd s.size (Nat.le_refl _)
  rw [take_full] at hv
  rw [← hv.1, trim_limbs _ hv.2.1]
theorem read_len (s : ByteArray) (hd : DigL s.data.toList) (h : s.size ≤ 450) : (limbs (valL s.data.toList).toNat).length ≤ 50 := by
  rw [← read_limbs s hd]
  have h1 := trimL_length (groups s.data.toList s.size)
  have h2 := groups_len s.data.toList s.size
  omega
/-- the number is written as it was read where the text is a numeral -/
theorem read_text (s : ByteArray) (hd : digitsB s = true) (h : s.size ≤ 450) : natTextB (limbs (valL s.data.toList).toNat) = s ↔ decOk s = true := by
  obtain ⟨h1, h2⟩ := (digitsB_iff s).1 hd
  have hne : s.data.toList ≠ [] := h2
  have e := natText_limbs _ (read_len s h1 h)
  have hdv := dec_val s.data.toList h1 hne
  have hsz : s.data.toList.length = s.size := rfl
  constructor
  · intro hs
    rw [hs] at e
    have hn := hdv.1 e.symm
    unfold decOk
    rw [hd, decide_eq_true h]
    by_cases hc : 1 < s.size
    · have : ¬ s.data.toList.headD 0 = 48 := fun e2 => hn ⟨by omega, e2⟩
      rw [decide_eq_false this]
      simp
    · rw [decide_eq_false hc]
      simp
  · intro ho
    apply WideShapes.bytes_inj
    rw [e]
    apply hdv.2
    rintro ⟨hc1, hc2⟩
    unfold decOk at ho
    rw [decide_eq_true (show 1 < s.size by omega), decide_eq_true hc2] at ho
    simp at ho
end Go.Proofs.YtcenmdiblbooeaaDoor

namespace Go.Proofs.YtcenmdiblbooeaaDoor
open Go.RowKit

/-- the text of a signed number -/
def intStrB (x : SI) : ByteArray := if okS x = true then (if x.1 = true then ⟨#[45]⟩ ++ natTextB x.2 else natTextB x.2) else ⟨#[]⟩
/-- the number that a text is read as, and whether it is one -/
def siR (s : ByteArray) : SI := if decOk (bareB s) = true ∧ ¬ (negB s = true ∧ (tnR (bareB s)).length = 0) then (negB s, tnR (bareB s)) else zeroS
def siB (s : ByteArray) : Bool := decide (decOk (bareB s) = true ∧ ¬ (negB s = true ∧ (tnR (bareB s)).length = 0))
theorem tnR_ok {s : ByteArray} (h : decOk s = true) : natOkB (tnR s) = true := by
  have hd : digitsB s = true := by
    by_cases hd : digitsB s = true
    · exact hd
    · rw [decOk_dig s (by simpa using hd)] at h; exact absurd h (by decide)
  have h4 : s.size ≤ 450 := by
    by_cases h4 : s.size ≤ 450
    · exact h4
    · rw [decOk_long s h4] at h; exact absurd h (by decide)
  unfold tnR
  rw [if_pos h]
  exact limbs_okL _ (read_len s ((digitsB_iff s).1 hd).1 h4)
theorem tnR_bad {s : ByteArray} (h : ¬ decOk s = true) : tnR s = [] := by unfold tnR; rw [if_neg h]
theorem bareB_le (s : ByteArray) : (bareB s).size ≤ s.size := by
  cases h : negB s with
  | true => rw [← bareB_tail s h, ByteArray.size_extract]; omega
  | false => rw [bareB_self s h]; exact Nat.le_refl _
/-- a new signed number, and a bool -/
def NewSb (x : SI) (b : Bool) (w : World) (e : Ending) (w' : World) : Prop := ∃ u, e = .returned (.tuple #[.agg #[.bool x.1, u], .bool b]) ∧ w'.ownsRow w.heap.size 3 1 u x.2.length (intsV x.2) ∧ Below w.heap.size w w'
theorem newSb_ret {r : Nat} {u c0 c1 : Value} {x : SI} {b : Bool} {w W : World} {B : Nat} (hb : BoxAt r #[c0, c1] 30 W) (o : W.ownsRow B 3 1 u x.2.length (intsV x.2)) (hB : w.heap.size ≤ B) (hr : w.heap.size ≤ r) (hW : Below w.heap.size w W) :
    NewSb x b w (.returned (.tuple #[.agg #[.bool x.1, u], .bool b])) ((W.setCell ⟨r, 0, none⟩ (.bool x.1)).setCell ⟨r, 1, none⟩ u) := by
  have hne := Lib.ownBlock_ne o hb (by decide)
  refine ⟨u, rfl, own_low (own_stays o fun i hi => ?_) hB, below_set2 hW hr⟩
  have : i ≠ r := fun e => hne (by rw [hi, e])
  exact (Below.heap_setCell _ _ _ _ this).trans (Below.heap_setCell _ _ _ _ this)
theorem newSb_zeroT {b : Bool} {w W : World} (hW : Below w.heap.size w W) : NewSb zeroS b w (.returned (.tuple #[.agg #[.bool false, .slice none 0 0], .bool b])) W := ⟨_, rfl, World.ownsRow_nil _ _ _ _, hW⟩

set_option maxHeartbeats 1000000 in
set_option maxRecDepth 100000 in
theorem implIntStr_any (v : Value) (x : SI) (w : World) (hl : x.2.length ≤ 1048576) (h : RdS w v x) (ht : Tab w) :
    Calls Tryd.prog 97 #[v] w fun e w' => e = .returned (.string (intStrB x)) ∧ Below w.heap.size w w' := by
  obtain ⟨u, rfl, hp⟩ := h
  obtain ⟨A, c, rfl⟩ := row_form hp
  rw [intsV_length] at hp
  rw [intsV_length]
  have hbx : Below w.heap.size w (w.alloc (.cells #[.bool x.1, .slice A x.2.length c] 30)) := below_al (Below.refl _ _) _
  have kb := box_new w #[.bool x.1, .slice A x.2.length c] 30
  have hrd := rdS_below hp hbx
  by_cases okx : okS x = true
  · have HV := Lib.hid (show intStrB x = if x.1 = true then ⟨#[45]⟩ ++ natTextB x.2 else natTextB x.2 by unfold intStrB; rw [if_pos okx])
    have hts := natTextB_size x.2
    go_enter Tryd.func97, Tryd.ntmps97
    go_wp2_with fail
    refine (implIntOk_any _ x _ hl hrd).mono ?_
    rintro e w1 ⟨rfl, b1⟩
    rw [okx]
    have bb1 := Below.next hbx b1
    replace kb := kb.below b1
    have hrow : Row w1 0 w.heap.size (.slice A x.2.length c) (intsV x.2) := hp.below bb1 (Nat.le_refl _)
    have hsz := bb1.size
    have cb0 := kb.here.cell 0 _ rfl
    have cb1 := kb.here.cell 1 _ rfl
    clear hrd okx hp
    cases hn : x.1 with
    | true =>
      rw [hn] at cb0 HV
      clear hn
      go_wp2_with fail
      refine (implNatText_any _ x.2 0 w.heap.size _ hl hsz hrow (ht.below bb1)).mono ?_
      rintro e w2 ⟨rfl, b2⟩
      have bb2 := Below.next bb1 b2
      generalize natTextB x.2 = t at *
      clear hrow
      go_wp2
      go_ret
      exact ⟨ret_str (by rw [HV.out]; rfl), bb2⟩
    | false =>
      rw [hn] at cb0 HV
      clear hn
      go_wp2_with fail
      refine (implNatText_any _ x.2 0 w.heap.size _ hl hsz hrow (ht.below bb1)).mono ?_
      rintro e w2 ⟨rfl, b2⟩
      have bb2 := Below.next bb1 b2
      generalize natTextB x.2 = t at *
      clear hrow
      go_wp2
      go_ret
      exact ⟨ret_str (by rw [HV.out]; rfl), bb2⟩
  · have okx' : okS x = false := by simpa using okx
    have HV := Lib.hid (show intStrB x = ⟨#[]⟩ by unfold intStrB; rw [if_neg okx])
    clear okx
    go_enter Tryd.func97, Tryd.ntmps97
    go_wp2_with fail
    refine (implIntOk_any _ x _ hl hrd).mono ?_
    rintro e w1 ⟨rfl, b1⟩
    rw [okx']
    have bb1 := Below.next hbx b1
    clear kb hrd
    go_wp2
    go_ret
    exact ⟨ret_str HV.out.symm, bb1⟩


end Go.Proofs.YtcenmdiblbooeaaDoor

namespace Go.Proofs.YtcenmdiblbooeaaDoor
open Go.RowKit

theorem cmpI_self (X : Int) : cmpI X X = 0 := by unfold cmpI; rw [if_neg (by omega), if_neg (by omega)]
theorem cmpI_turn (X Y : Int) : cmpI X Y = -cmpI Y X := by unfold cmpI; split <;> split <;> (try split) <;> (try split) <;> omega
end Go.Proofs.YtcenmdiblbooeaaDoor

namespace Go.Proofs.YtcenmdiblbooeaaDoor
open Go.RowKit

theorem cmpI_range (X Y : Int) : -1 ≤ cmpI X Y ∧ cmpI X Y ≤ 1 := by unfold cmpI; split <;> (try split) <;> omega
theorem text_backI {X : Nat} (hx : (X : Int) < bp 5) : decOk (natTextB (limbs X)) = true ∧ tnR (natTextB (limbs X)) = limbs X ∧ digitsB (natTextB (limbs X)) = true := by
  have h5 : (limbs X).length ≤ 5 := limbs_length_le X 5 hx
  have e : (natTextB (limbs X)).data.toList = Lib.decDigits X := natText_limbs X (by omega)
  have hd := dig_dec X
  have hdig : digitsB (natTextB (limbs X)) = true := by rw [digitsB_iff, e]; exact hd
  have hsz : (natTextB (limbs X)).size ≤ 450 := by
    have h1 : natTextB (limbs X) = natT (limbs X) := by unfold natTextB; rw [if_pos (limbs_okL X (by omega))]
    rw [h1]
    have := natT_size (limbs X) (limbs_digN X)
    omega
  have hok : decOk (natTextB (limbs X)) = true := by
    rw [← read_text _ hdig hsz, e, valL_dec, Int.toNat_natCast]
  refine ⟨hok, ?_, hdig⟩
  unfold tnR
  rw [if_pos hok, e, valL_dec, Int.toNat_natCast]
theorem neg_of_digits {t : ByteArray} (h : digitsB t = true) : negB t = false := by
  have h2 := (digitsB_iff t).1 h
  unfold negB
  rw [decide_eq_false_iff_not]
  intro e
  cases hl : t.data.toList with
  | nil => exact h2.2 hl
  | cons c r =>
    rw [hl] at e
    have := h2.1 c (by rw [hl]; exact List.mem_cons_self ..)
    simp at e
    subst e
    revert this
    decide
theorem minus_bare (t : ByteArray) : negB (⟨#[45]⟩ ++ t) = true ∧ bareB (⟨#[45]⟩ ++ t) = t := by
  have e : ((⟨#[45]⟩ : ByteArray) ++ t).data.toList = 45 :: t.data.toList := by simp
  constructor
  · unfold negB; rw [e]; rfl
  · apply WideShapes.bytes_inj
    rw [bareB_data, e]
    rfl
/-- a short right number is read back from its text -/
theorem str_back {x : SI} (h : okS x = true) (hl : x.2.length ≤ 4) : siR (intStrB x) = x ∧ siB (intStrB x) = true := by
  have hp := okS_parts h
  have hx := natOk_limbs hp.1
  have h1 := nval_lt x.2 (natOk_parts hp.1).1
  have h0 := nval_ok hp.1
  have h2 := bp_mono (show x.2.length ≤ 5 by omega)
  have ht := text_backI (X := (nval x.2).toNat) (by omega)
  rw [← hx] at ht
  have hc : ¬ (x.1 = true ∧ x.2.length = 0) := fun hh => by have := hp.2 hh.1; omega
  have both : negB (intStrB x) = x.1 ∧ bareB (intStrB x) = natTextB x.2 := by
    unfold intStrB
    rw [if_pos h]
    cases hn : x.1 with
    | true => rw [if_pos rfl]; exact minus_bare _
    | false => rw [if_neg (by decide)]; exact ⟨neg_of_digits ht.2.2, bareB_self _ (neg_of_digits ht.2.2)⟩
  unfold siR siB
  rw [both.1, both.2, ht.2.1, if_pos ⟨ht.1, hc⟩]
  exact ⟨rfl, decide_eq_true ⟨ht.1, hc⟩⟩
end Go.Proofs.YtcenmdiblbooeaaDoor

namespace Go.Proofs.YtcenmdiblbooeaaDoor
open Go.RowKit

/-- what NatGcd answers -/
def gcdN (a b : List Int) : List Int := if natOkB a = true ∧ natOkB b = true then limbs (Nat.gcd (nval a).toNat (nval b).toNat) else []
theorem gcd_step (X Y : Nat) : Nat.gcd Y (X % Y) = Nat.gcd X Y := by
  rw [Nat.gcd_comm Y, ← Nat.gcd_rec, Nat.gcd_comm]
theorem limbs_empty {n : Nat} (h : ¬ 0 < (limbs n).length) : n = 0 := by
  rcases Nat.eq_zero_or_pos n with h0 | h0
  · exact h0
  · rw [limbs, dif_neg (by omega)] at h
    simp at h
theorem limbs_some {n : Nat} (h : 0 < (limbs n).length) : 0 < n := by
  rcases Nat.eq_zero_or_pos n with h0 | h0
  · subst h0; rw [limbs, dif_pos rfl] at h; simp at h
  · exact h0
theorem limbs_mod_len (X Y : Nat) (h : (limbs Y).length ≤ 50) (h0 : 0 < Y) : (limbs (X % Y)).length ≤ 50 := by
  have hm := Nat.mod_lt X h0
  have := limbs_mono (m := ((X % Y : Nat) : Int)) (n := (Y : Int)) (by omega) (by omega)
  rw [Int.toNat_natCast, Int.toNat_natCast] at this
  omega
/-- the state of NatGcd's loop -/
def GcdS (w : World) (G : Nat) (n : Nat) (x y : Value) (wr : World) : Prop :=
  ∃ X Y : Nat, n = Y ∧ Nat.gcd X Y = G ∧ (limbs X).length ≤ 50 ∧ (limbs Y).length ≤ 50 ∧ wr.ownsRow w.heap.size 3 1 x (limbs X).length (intsV (limbs X)) ∧ wr.ownsRow w.heap.size 3 1 y (limbs Y).length (intsV (limbs Y)) ∧ Below w.heap.size w wr


/-- powers of ten -/
def tenN (k : Int) : List Int := if 0 ≤ k ∧ k ≤ 449 then limbs (10 ^ k.toNat) else []
theorem bp_ten (m : Nat) : bp m = 10 ^ (9 * m) := by
  induction m with
  | zero => rfl
  | succ m ih =>
    show 1000000000 * bp m = _
    rw [ih, show 9 * (m + 1) = 9 * m + 9 by omega, Int.pow_add, Int.mul_comm]
    rfl
theorem ten_pos (k : Nat) : (0 : Int) < 10 ^ k := Int.pow_pos (by omega)
theorem ten_eight (k : Nat) (h : k ≤ 8) : (10 : Int) ^ k ≤ 100000000 := by
  match k, h with
  | 0, _ => decide
  | 1, _ => decide
  | 2, _ => decide
  | 3, _ => decide
  | 4, _ => decide
  | 5, _ => decide
  | 6, _ => decide
  | 7, _ => decide
  | 8, _ => decide
theorem ten_limbs (k : Nat) : limbs (10 ^ k) = List.replicate (k / 9) 0 ++ [(10 : Int) ^ (k % 9)] := by
  have h8 := ten_eight (k % 9) (by omega)
  have hp := ten_pos (k % 9)
  have hd : DigN (List.replicate (k / 9) 0 ++ [(10 : Int) ^ (k % 9)]) := (dig_zeros _).append (dig_one (by omega) (by omega))
  have hl : (List.replicate (k / 9) 0 ++ [(10 : Int) ^ (k % 9)]).getLastD 1 ≠ 0 := by
    rw [List.getLastD_eq_getLast?, List.getLast?_append]
    simp
    omega
  have hv : nval (List.replicate (k / 9) 0 ++ [(10 : Int) ^ (k % 9)]) = 10 ^ k := by
    rw [nval_append, nval_zeros, List.length_replicate, bp_ten]
    show 0 + 10 ^ (9 * (k / 9)) * (10 ^ (k % 9) + 1000000000 * 0) = _
    rw [Int.mul_zero, Int.add_zero, Int.zero_add, ← Int.pow_add, Nat.div_add_mod]
  rw [← trim_last _ hl, trim_limbs _ hd, hv]
  congr 1


/-- what NatScale answers -/
def scaleN (a : List Int) (k : Int) : List Int := if k < 0 then [] else mulN a (tenN k)
theorem tenN_len (k : Int) : (tenN k).length ≤ 50 := by
  unfold tenN
  split
  · rename_i h
    rw [ten_limbs]
    simp
    omega
  · simp

/-- what NatCut answers -/
def cutN (a : List Int) (k : Int) : List Int × List Int := if 0 ≤ k ∧ k ≤ 440 then divN a (tenN k) else ([], [])

/-- what NatEven answers -/
def evenB (a : List Int) : Bool := natOkB a && decide (a.headD 0 % 2 = 0)
end Go.Proofs.YtcenmdiblbooeaaDoor

namespace Go.Proofs.YtcenmdiblbooeaaDoor
open Go.RowKit

/-- a decimal number as data: its number, its scale -/
abbrev DI : Type := SI × Int
def zeroD : DI := (zeroS, 0)
/-- DecOk -/
def okD (d : DI) : Bool := okS d.1 && (decide (d.1.2.length ≤ 6) && decide (0 ≤ d.2 ∧ d.2 ≤ 30))
def numD (d : DI) : Int := valS d.1
structure PartsD (d : DI) : Prop where
  ok : okS d.1 = true
  len : d.1.2.length ≤ 6
  lo : 0 ≤ d.2
  hi : d.2 ≤ 30
theorem partsD {d : DI} (h : okD d = true) : PartsD d := by
  unfold okD at h
  rw [Bool.and_eq_true, Bool.and_eq_true, decide_eq_true_eq, decide_eq_true_eq] at h
  exact ⟨h.1, h.2.1, h.2.2.1, h.2.2.2⟩
theorem okD_of {d : DI} (h : PartsD d) : okD d = true := by
  unfold okD
  rw [h.ok, decide_eq_true h.len, decide_eq_true (show 0 ≤ d.2 ∧ d.2 ≤ 30 from ⟨h.lo, h.hi⟩)]
  rfl
/-- a number with a scale, where that is right -/
def decD (x : SI) (k : Int) : DI × Bool := if okD (x, k) = true then ((x, k), true) else (zeroD, false)
/-- the same over an integer -/
def decZ (z k : Int) : DI × Bool := if (z.natAbs : Int) < bp 6 ∧ 0 ≤ k ∧ k ≤ 30 then ((ofZ z, k), true) else (zeroD, false)
/-- ten to the power k -/
def pt (k : Int) : Int := 10 ^ k.toNat
def tenS (k : Int) : SI := (false, tenN k)
def topD (d e : DI) : Int := if d.2 < e.2 then e.2 else d.2
def liftD (d : DI) (s : Int) : Int := numD d * pt (s - d.2)
def addD (d e : DI) : DI × Bool := if okD d = true ∧ okD e = true then decZ (liftD d (topD d e) + liftD e (topD d e)) (topD d e) else (zeroD, false)
def subD (d e : DI) : DI × Bool := if okD d = true ∧ okD e = true then decZ (liftD d (topD d e) - liftD e (topD d e)) (topD d e) else (zeroD, false)
def mulD (d e : DI) : DI × Bool := if okD d = true ∧ okD e = true then decZ (numD d * numD e) (d.2 + e.2) else (zeroD, false)
def cmpD (d e : DI) : Int := if okD d = true ∧ okD e = true then cmpI (liftD d (topD d e)) (liftD e (topD d e)) else 0
def atD (d : DI) (k : Int) : DI × Bool :=
  if okD d = true ∧ 0 ≤ k ∧ k ≤ 30 then
    (if d.2 ≤ k then decZ (liftD d k) k
     else if numD d % pt (d.2 - k) = 0 then decZ (numD d / pt (d.2 - k)) k else (zeroD, false))
  else (zeroD, false)

theorem pt_pos (k : Int) : 0 < pt k := ten_pos k.toNat
theorem pt_nat (k : Int) : ((10 ^ k.toNat : Nat) : Int) = pt k := by unfold pt; rw [Int.natCast_pow]; rfl
theorem bp_four : (10 : Int) ^ 30 < bp 4 := by decide
theorem pt_mono {j k : Int} (h : j ≤ k) : pt j ≤ pt k := by
  rw [← pt_nat, ← pt_nat]
  exact Int.ofNat_le.2 (Nat.pow_le_pow_right (by omega) (by omega))
theorem pt_lt {k : Int} (h : k ≤ 30) : pt k < bp 4 := by
  have h1 := pt_mono h
  have h2 : pt 30 < bp 4 := bp_four
  omega
theorem tenN_pt {k : Int} (h0 : 0 ≤ k) (h1 : k ≤ 30) : tenN k = limbs (10 ^ k.toNat) ∧ (tenN k).length ≤ 4 ∧ natOkB (tenN k) = true ∧ nval (tenN k) = pt k := by
  have e : tenN k = limbs (10 ^ k.toNat) := by unfold tenN; rw [if_pos ⟨h0, by omega⟩]
  have hl : (limbs (10 ^ k.toNat)).length ≤ 4 := limbs_length_le _ 4 (by rw [pt_nat]; exact pt_lt h1)
  refine ⟨e, by rw [e]; exact hl, by rw [e]; exact limbs_okL _ (by omega), ?_⟩
  rw [e, limbs_val, pt_nat]
theorem tenS_ok {k : Int} (h0 : 0 ≤ k) (h1 : k ≤ 30) : okS (tenS k) = true ∧ valS (tenS k) = pt k ∧ (tenS k).2.length ≤ 4 := by
  obtain ⟨_, h2, h3, h4⟩ := tenN_pt h0 h1
  exact ⟨by unfold okS tenS; rw [h3]; rfl, h4, h2⟩
/-- a right number of few limbs is small -/
theorem few_lt {x : SI} {k : Nat} (ok : okS x = true) (hl : x.2.length ≤ k) : ((valS x).natAbs : Int) < bp k := by
  have hp := okS_parts ok
  have ha := valS_abs x hp.1
  have h3 := nval_lt x.2 (natOk_parts hp.1).1
  have h4 := nval_ok hp.1
  have h5 : bp x.2.length ≤ bp k := bp_mono hl
  omega
theorem few_len {z : Int} {k : Nat} (hk : k ≤ 50) : (ofZ z).2.length ≤ k ∧ (limbs z.natAbs).length ≤ 50 ↔ (z.natAbs : Int) < bp k := by
  constructor
  · intro ⟨h, hl⟩
    have := few_lt (ofZ_ok z) h
    rw [ofZ_val hl] at this
    exact this
  · intro h
    have hl := limbs_length_le z.natAbs k h
    refine ⟨?_, by omega⟩
    unfold ofZ
    rw [if_pos (by omega)]
    exact hl
theorem ofZ_few {z : Int} {k : Nat} (h : (z.natAbs : Int) < bp k) (hk : k ≤ 50) : okS (ofZ z) = true ∧ valS (ofZ z) = z := ⟨ofZ_ok z, ofZ_val (by have := limbs_length_le z.natAbs k h; omega)⟩
theorem decD_ofZ {z : Int} (k : Int) (h : (z.natAbs : Int) < bp 50) : decD (ofZ z) k = decZ z k := by
  have hl := limbs_length_le z.natAbs 50 h
  unfold decD decZ
  by_cases hc : (z.natAbs : Int) < bp 6 ∧ 0 ≤ k ∧ k ≤ 30
  · rw [if_pos hc, if_pos (okD_of ⟨ofZ_ok z, ((few_len (by omega)).2 hc.1).1, hc.2.1, hc.2.2⟩)]
  · rw [if_neg hc, if_neg]
    intro ho
    have p := partsD ho
    exact hc ⟨(few_len (by omega)).1 ⟨p.len, hl⟩, p.lo, p.hi⟩
theorem decD_ok (x : SI) (k : Int) (h : (decD x k).2 = true) : okD (decD x k).1 = true := by
  unfold decD at h ⊢
  split
  · assumption
  · rename_i hn
    rw [if_neg hn] at h
    exact absurd h (by decide)
theorem decZ_yes {z k : Int} (h : (z.natAbs : Int) < bp 6) (h0 : 0 ≤ k) (h1 : k ≤ 30) : decZ z k = ((ofZ z, k), true) ∧ okD (ofZ z, k) = true ∧ numD (ofZ z, k) = z := by
  refine ⟨by unfold decZ; rw [if_pos ⟨h, h0, h1⟩], okD_of ⟨ofZ_ok z, ((few_len (by omega)).2 h).1, h0, h1⟩, (ofZ_few h (by omega)).2⟩
theorem decZ_parts {z k : Int} (h : (decZ z k).2 = true) : (z.natAbs : Int) < bp 6 ∧ 0 ≤ k ∧ k ≤ 30 := by
  unfold decZ at h
  by_cases hc : (z.natAbs : Int) < bp 6 ∧ 0 ≤ k ∧ k ≤ 30
  · exact hc
  · rw [if_neg hc] at h
    exact absurd h (by decide)
theorem num_lt {d : DI} (h : PartsD d) : ((numD d).natAbs : Int) < bp 6 := few_lt h.ok h.len
theorem absZ_mul (a b : Int) : ((a * b).natAbs : Int) = (a.natAbs : Int) * b.natAbs := by rw [Int.natAbs_mul]; exact Int.natCast_mul _ _
theorem mulZ_lt {a b : Int} {j k : Nat} (ha : (a.natAbs : Int) < bp j) (hb : (b.natAbs : Int) < bp k) : ((a * b).natAbs : Int) < bp (j + k) := by
  rw [absZ_mul, bp_add]
  have hk := bp_pos k
  exact Int.lt_of_le_of_lt (Int.mul_le_mul_of_nonneg_left (Int.le_of_lt hb) (by omega)) (Int.mul_lt_mul_of_pos_right ha hk)
theorem pt_abs {k : Int} (h : k ≤ 30) : ((pt k).natAbs : Int) < bp 4 := by
  have h1 := pt_pos k
  have h2 := pt_lt h
  omega
theorem lift_lt {d : DI} {s : Int} (h : PartsD d) (hs : s ≤ 30) : ((liftD d s).natAbs : Int) < bp 10 := by
  have hm := mulZ_lt (j := 6) (k := 4) (num_lt h) (pt_abs (k := s - d.2) (by have := h.lo; omega))
  exact hm
/-- what a multiplication by a power of ten gives -/
theorem mul_ten {d : DI} {j : Int} (h : PartsD d) (h0 : 0 ≤ j) (h1 : j ≤ 30) : mulS d.1 (tenS j) = ofZ (numD d * pt j) ∧ okS (mulS d.1 (tenS j)) = true ∧ valS (mulS d.1 (tenS j)) = numD d * pt j := by
  have t := tenS_ok h0 h1
  have e : mulS d.1 (tenS j) = ofZ (numD d * pt j) := by unfold mulS; rw [if_pos ⟨h.ok, t.1⟩, t.2.1]; rfl
  have s := ofZ_few (mulZ_lt (j := 6) (k := 4) (num_lt h) (pt_abs h1)) (by omega)
  exact ⟨e, by rw [e]; exact s.1, by rw [e]; exact s.2⟩
theorem topD_le {d e : DI} (hd : PartsD d) (he : PartsD e) : d.2 ≤ topD d e ∧ e.2 ≤ topD d e ∧ 0 ≤ topD d e ∧ topD d e ≤ 30 := by
  have := hd.lo; have := hd.hi; have := he.lo; have := he.hi
  unfold topD
  split <;> omega
theorem bp_ten_one : bp 10 + bp 10 ≤ bp 11 := by decide
theorem sum_few {x y : Int} (hx : (x.natAbs : Int) < bp 10) (hy : (y.natAbs : Int) < bp 10) : ((x + y).natAbs : Int) < bp 50 ∧ ((x - y).natAbs : Int) < bp 50 := by
  have h1 := bp_ten_one
  have h2 : bp 11 ≤ bp 50 := bp_mono (by omega)
  omega
def szD (q : DI) : Int := szS q.1
theorem decZ_sz (z k : Int) : szD (decZ z k).1 ≤ 1048576 := by
  unfold decZ
  split
  · have := ofZ_len z
    unfold szD szS szI
    simp only
    omega
  · decide
theorem decD_sz (x : SI) (k : Int) : szD (decD x k).1 ≤ 1048576 := by
  unfold decD
  split
  · rename_i h
    have := (partsD h).len
    unfold szD szS szI
    simp only at this ⊢
    omega
  · decide
theorem addD_is {d e : DI} (hd : okD d = true) (he : okD e = true) : decD (addS (mulS d.1 (tenS (topD d e - d.2))) (mulS e.1 (tenS (topD d e - e.2)))) (topD d e) = addD d e := by
  have pd := partsD hd
  have pe := partsD he
  have t := topD_le pd pe
  have md := mul_ten pd (j := topD d e - d.2) (by omega) (by have := pd.lo; omega)
  have me := mul_ten pe (j := topD d e - e.2) (by omega) (by have := pe.lo; omega)
  unfold addS
  rw [if_pos ⟨md.2.1, me.2.1⟩, md.2.2, me.2.2]
  unfold addD
  rw [if_pos ⟨hd, he⟩]
  exact decD_ofZ _ (sum_few (lift_lt pd t.2.2.2) (lift_lt pe t.2.2.2)).1
theorem subD_is {d e : DI} (hd : okD d = true) (he : okD e = true) : decD (subS (mulS d.1 (tenS (topD d e - d.2))) (mulS e.1 (tenS (topD d e - e.2)))) (topD d e) = subD d e := by
  have pd := partsD hd
  have pe := partsD he
  have t := topD_le pd pe
  have md := mul_ten pd (j := topD d e - d.2) (by omega) (by have := pd.lo; omega)
  have me := mul_ten pe (j := topD d e - e.2) (by omega) (by have := pe.lo; omega)
  unfold subS
  rw [if_pos ⟨md.2.1, me.2.1⟩, md.2.2, me.2.2]
  unfold subD
  rw [if_pos ⟨hd, he⟩]
  exact decD_ofZ _ (sum_few (lift_lt pd t.2.2.2) (lift_lt pe t.2.2.2)).2
theorem cmpD_is {d e : DI} (hd : okD d = true) (he : okD e = true) : cmpS (mulS d.1 (tenS (topD d e - d.2))) (mulS e.1 (tenS (topD d e - e.2))) = cmpD d e := by
  have pd := partsD hd
  have pe := partsD he
  have t := topD_le pd pe
  have md := mul_ten pd (j := topD d e - d.2) (by omega) (by have := pd.lo; omega)
  have me := mul_ten pe (j := topD d e - e.2) (by omega) (by have := pe.lo; omega)
  unfold cmpS
  rw [if_pos ⟨md.2.1, me.2.1⟩, md.2.2, me.2.2]
  unfold cmpD
  rw [if_pos ⟨hd, he⟩]
  rfl
theorem mulD_is {d e : DI} (hd : okD d = true) (he : okD e = true) : decD (mulS d.1 e.1) (d.2 + e.2) = mulD d e := by
  have pd := partsD hd
  have pe := partsD he
  unfold mulS
  rw [if_pos ⟨pd.ok, pe.ok⟩]
  unfold mulD
  rw [if_pos ⟨hd, he⟩]
  have h := mulZ_lt (j := 6) (k := 6) (num_lt pd) (num_lt pe)
  have h2 : bp (6 + 6) ≤ bp 50 := bp_mono (by omega)
  exact decD_ofZ _ (by show ((numD d * numD e).natAbs : Int) < _; omega)
/-- the same number at another scale, upwards -/
theorem atD_up {d : DI} {k : Int} (hd : okD d = true) (h0 : 0 ≤ k) (h1 : k ≤ 30) (hk : d.2 ≤ k) : decD (mulS d.1 (tenS (k - d.2))) k = atD d k := by
  have pd := partsD hd
  have m := mul_ten pd (j := k - d.2) (by omega) (by have := pd.lo; omega)
  have h2 : bp 10 ≤ bp 50 := bp_mono (by omega)
  unfold atD
  rw [if_pos ⟨hd, h0, h1⟩, if_pos hk, m.1]
  exact decD_ofZ _ (by have := lift_lt pd h1; show ((liftD d k).natAbs : Int) < _; omega)
theorem trunc_of {n : Bool} {A : Nat} {P : Int} (hd : (A : Int) % P = 0) : (if n = true then -(A : Int) else A) % P = 0 ∧ (if n = true then -(A : Int) else A) / P = if n = true then -((A : Int) / P) else (A : Int) / P := by
  cases n
  · exact ⟨by simpa using hd, by simp⟩
  · have hdv : P ∣ (A : Int) := Int.dvd_of_emod_eq_zero hd
    simp only [if_true]
    exact ⟨Int.emod_eq_zero_of_dvd (Int.dvd_neg.2 hdv), Int.neg_ediv_of_dvd hdv⟩
/-- and downwards: cut off what is too much -/
theorem atD_down {d : DI} {k : Int} (hd : okD d = true) (h0 : 0 ≤ k) (hk : k < d.2) :
    (0 < (cutN d.1.2 (d.2 - k)).2.length → atD d k = (zeroD, false)) ∧ (¬ 0 < (cutN d.1.2 (d.2 - k)).2.length → decD (d.1.1, (cutN d.1.2 (d.2 - k)).1) k = atD d k) := by
  have pd := partsD hd
  have hi := pd.hi
  have t := tenN_pt (k := d.2 - k) (by omega) (by omega)
  have hp := okS_parts pd.ok
  have hn := nval_ok hp.1
  have hP := pt_pos (d.2 - k)
  have ht : 0 < (tenN (d.2 - k)).length := by
    rcases Nat.eq_zero_or_pos (tenN (d.2 - k)).length with h | h
    · have e : tenN (d.2 - k) = [] := List.eq_nil_of_length_eq_zero h
      have := t.2.2.2
      rw [e] at this
      simp only [nval] at this
      omega
    · exact h
  have hc : cutN d.1.2 (d.2 - k) = (limbs (nval d.1.2 / pt (d.2 - k)).toNat, limbs (nval d.1.2 % pt (d.2 - k)).toNat) := by
    unfold cutN
    rw [if_pos (by omega)]
    unfold divN
    rw [if_pos ⟨hp.1, t.2.2.1, ht⟩, t.2.2.2]
  rw [hc]
  show (0 < (limbs (nval d.1.2 % pt (d.2 - k)).toNat).length → _) ∧ (¬ 0 < (limbs (nval d.1.2 % pt (d.2 - k)).toNat).length → _)
  have hm0 := Int.emod_nonneg (nval d.1.2) (Int.ne_of_gt hP)
  have hv : numD d = if d.1.1 = true then -((nval d.1.2).toNat : Int) else (nval d.1.2).toNat := by
    unfold numD valS
    rw [Int.toNat_of_nonneg hn]
  have hA : ((nval d.1.2).toNat : Int) = nval d.1.2 := Int.toNat_of_nonneg hn
  have key : (limbs (nval d.1.2 % pt (d.2 - k)).toNat).length = 0 ↔ numD d % pt (d.2 - k) = 0 := by
    rw [limbs_zero_iff]
    constructor
    · intro h
      rw [hv]
      exact (trunc_of (by rw [hA]; omega)).1
    · intro h
      have : nval d.1.2 % pt (d.2 - k) = 0 := by
        rw [hv] at h
        split at h
        · rw [hA] at h
          exact Int.emod_eq_zero_of_dvd (Int.dvd_neg.1 (Int.dvd_of_emod_eq_zero h))
        · rw [hA] at h
          exact h
      omega
  unfold atD
  rw [if_pos ⟨hd, h0, by omega⟩, if_neg (by omega)]
  refine ⟨fun h => by rw [if_neg (fun e => by rw [← key] at e; omega)], fun h => ?_⟩
  have hz : numD d % pt (d.2 - k) = 0 := key.1 (by omega)
  rw [if_pos hz]
  have hr : nval d.1.2 % pt (d.2 - k) = 0 := by
    have := (limbs_zero_iff _).1 (key.2 hz)
    omega
  have tr := trunc_of (n := d.1.1) (A := (nval d.1.2).toNat) (by rw [hA]; exact hr)
  have hq0 : 0 ≤ nval d.1.2 / pt (d.2 - k) := Int.ediv_nonneg hn (by omega)
  have hql : nval d.1.2 / pt (d.2 - k) ≤ nval d.1.2 := Int.ediv_le_self _ hn
  have hlt := num_lt pd
  have hab : ((numD d).natAbs : Int) = nval d.1.2 := by rw [hv]; split <;> omega
  have hb : (((numD d / pt (d.2 - k)).natAbs : Nat) : Int) < bp 6 := by
    rw [hv, tr.2, hA]
    split <;> omega
  have hl6 : (limbs (nval d.1.2 / pt (d.2 - k)).toNat).length ≤ 6 := limbs_length_le _ 6 (by omega)
  have he : ((d.1.1, limbs (nval d.1.2 / pt (d.2 - k)).toNat) : SI) = ofZ (numD d / pt (d.2 - k)) := by
    have e1 : mkS d.1.1 (limbs (nval d.1.2 / pt (d.2 - k)).toNat) = ofZ (numD d / pt (d.2 - k)) := by
      rw [mkS_limbs, hv, tr.2, hA, Int.toNat_of_nonneg hq0]
    rw [← e1]
    unfold mkS capL
    rw [if_neg (by omega)]
    refine Prod.ext ?_ rfl
    show d.1.1 = (d.1.1 && decide (0 < (limbs (nval d.1.2 / pt (d.2 - k)).toNat).length))
    cases hs : d.1.1 with
    | false => rfl
    | true =>
      have h3 : 0 < nval d.1.2 := okS_pos pd.ok (hp.2 hs)
      have h4 : nval d.1.2 / pt (d.2 - k) ≠ 0 := fun e => by
        have := Int.mul_ediv_add_emod (nval d.1.2) (pt (d.2 - k))
        rw [e, hr] at this
        omega
      have h5 : 0 < (limbs (nval d.1.2 / pt (d.2 - k)).toNat).length := by
        rcases Nat.eq_zero_or_pos (limbs (nval d.1.2 / pt (d.2 - k)).toNat).length with h | h
        · have := (limbs_zero_iff _).1 h
          omega
        · exact h
      rw [decide_eq_true h5]
      rfl
  rw [he]
  exact decD_ofZ _ (by have : bp 6 ≤ bp 50 := bp_mono (by omega); omega)

/-! ### the smallest scale -/
theorem decZ_num {d : DI} (h : okD d = true) : decZ (numD d) d.2 = (d, true) := by
  have p := partsD h
  rw [(decZ_yes (num_lt p) p.lo p.hi).1]
  show ((ofZ (valS d.1), d.2), true) = (d, true)
  rw [okS_ofZ p.ok]
theorem pt_zero : pt 0 = 1 := rfl
theorem at_self {d : DI} (h : okD d = true) : atD d d.2 = (d, true) := by
  have p := partsD h
  unfold atD liftD
  rw [if_pos ⟨h, p.lo, p.hi⟩, if_pos (Int.le_refl _), Int.sub_self, pt_zero, Int.mul_one]
  exact decZ_num h
theorem at_parts {d : DI} {k : Int} (hd : okD d = true) (h : (atD d k).2 = true) (hk : k ≤ d.2) : okD (atD d k).1 = true ∧ (atD d k).1.2 = k ∧ liftD (atD d k).1 d.2 = numD d := by
  rcases Int.lt_or_eq_of_le hk with hk | rfl
  · unfold atD at h ⊢
    split at h
    · rename_i hc
      rw [if_pos hc] 
      rw [if_neg (by omega)] at h ⊢
      split at h
      · rename_i hz
        rw [if_pos hz]
        have b := decZ_parts h
        have y := decZ_yes b.1 b.2.1 b.2.2
        rw [y.1]
        refine ⟨y.2.1, rfl, ?_⟩
        unfold liftD
        show numD (ofZ (numD d / pt (d.2 - k)), k) * pt (d.2 - k) = _
        rw [y.2.2]
        exact Int.ediv_mul_cancel (Int.dvd_of_emod_eq_zero hz)
      · exact absurd h (by decide)
    · exact absurd h (by decide)
  · rw [at_self hd]
    refine ⟨hd, rfl, ?_⟩
    unfold liftD
    rw [Int.sub_self, pt_zero, Int.mul_one]
theorem at_back {q d : DI} (hd : okD d = true) (hq : okD q = true) (hk : q.2 ≤ d.2) (h : liftD q d.2 = numD d) : atD q d.2 = (d, true) := by
  have p := partsD hd
  unfold atD
  rw [if_pos ⟨hq, p.lo, p.hi⟩, if_pos hk, h]
  exact decZ_num hd
def lowFrom (d : DI) : Nat → Int → DI
  | 0, _ => zeroD
  | n + 1, k => if (atD d k).2 = true then (atD d k).1 else lowFrom d n (k + 1)
/-- the same number with the smallest scale -/
def lowD (d : DI) : DI := lowFrom d 31 0
theorem low_hit {d : DI} {n : Nat} {k : Int} (h : (atD d k).2 = true) : lowFrom d (n + 1) k = (atD d k).1 := if_pos h
theorem low_miss {d : DI} {n : Nat} {k : Int} (h : (atD d k).2 = false) : lowFrom d (n + 1) k = lowFrom d n (k + 1) := if_neg (by rw [h]; decide)
theorem low_none (d : DI) (k : Int) : lowFrom d 0 k = zeroD := rfl
theorem low_bad {d : DI} (h : ¬ okD d = true) : ∀ (n : Nat) (k : Int), lowFrom d n k = zeroD := by
  intro n
  induction n with
  | zero => intro k; rfl
  | succ n ih => intro k; rw [low_miss (by unfold atD; rw [if_neg (fun e => h e.1)])]; exact ih _
theorem low_from {d : DI} (hd : okD d = true) : ∀ (n : Nat) (k : Int), 0 ≤ k → k ≤ d.2 → d.2 < k + n → ∃ j, k ≤ j ∧ j ≤ d.2 ∧ (atD d j).2 = true ∧ lowFrom d n k = (atD d j).1 ∧ ∀ i, k ≤ i → i < j → (atD d i).2 = false := by
  intro n
  induction n with
  | zero => intro k h0 h1 h2; omega
  | succ n ih =>
    intro k h0 h1 h2
    by_cases hc : (atD d k).2 = true
    · exact ⟨k, Int.le_refl _, h1, hc, low_hit hc, fun i h3 h4 => by omega⟩
    · have hf : (atD d k).2 = false := by simpa using hc
      have hne : k ≠ d.2 := fun e => by rw [e, at_self hd] at hc; exact hc rfl
      obtain ⟨j, j1, j2, j3, j4, j5⟩ := ih (k + 1) (by omega) (by omega) (by omega)
      exact ⟨j, by omega, j2, j3, by rw [low_miss hf]; exact j4, fun i h3 h4 => by
        rcases Int.lt_or_eq_of_le h3 with h | rfl
        · exact j5 i (by omega) h4
        · exact hf⟩
theorem low_is_at {d : DI} (hd : okD d = true) : ∃ j, 0 ≤ j ∧ j ≤ d.2 ∧ (atD d j).2 = true ∧ lowD d = (atD d j).1 ∧ ∀ i, 0 ≤ i → i < j → (atD d i).2 = false :=
  low_from hd 31 0 (Int.le_refl _) (partsD hd).lo (by have := (partsD hd).hi; omega)
theorem lowD_ok {d : DI} (hd : okD d = true) : okD (lowD d) = true ∧ (lowD d).2 ≤ d.2 ∧ liftD (lowD d) d.2 = numD d ∧ atD (lowD d) d.2 = (d, true) := by
  obtain ⟨j, _, j2, j3, j4, _⟩ := low_is_at hd
  obtain ⟨k1, k2, k3⟩ := at_parts hd j3 j2
  rw [j4]
  exact ⟨k1, by rw [k2]; exact j2, k3, at_back hd k1 (by rw [k2]; exact j2) k3⟩
theorem atD_sz (d : DI) (k : Int) : szD (atD d k).1 ≤ 1048576 := by
  unfold atD
  split
  · split
    · exact decZ_sz _ _
    · split
      · exact decZ_sz _ _
      · decide
  · decide
theorem zeroD_sz : szD zeroD ≤ 1048576 := by decide
theorem lowD_sz (d : DI) : szD (lowD d) ≤ 1048576 := by
  by_cases h : okD d = true
  · obtain ⟨j, _, _, _, j4, _⟩ := low_is_at h
    rw [j4]
    exact atD_sz d j
  · unfold lowD
    rw [low_bad h]
    exact zeroD_sz
theorem addD_sz (d e : DI) : szD (addD d e).1 ≤ 1048576 := by unfold addD; split; exact decZ_sz _ _; exact zeroD_sz
theorem subD_sz (d e : DI) : szD (subD d e).1 ≤ 1048576 := by unfold subD; split; exact decZ_sz _ _; exact zeroD_sz
theorem mulD_sz (d e : DI) : szD (mulD d e).1 ≤ 1048576 := by unfold mulD; split; exact decZ_sz _ _; exact zeroD_sz
end Go.Proofs.YtcenmdiblbooeaaDoor

namespace Go.Proofs.YtcenmdiblbooeaaDoor
open Go.RowKit

/-- a point ahead of the last k digits -/
def pointB (s : ByteArray) (k : Int) : ByteArray := if 0 < k then s.extract 0 (s.size - k.toNat) ++ ⟨#[46]⟩ ++ s.extract (s.size - k.toNat) s.size else s
/-- the digits, at least one ahead of the point -/
def bodyD (d : DI) : ByteArray := padB (natTextB d.1.2) (d.2 + 1)
/-- DecText -/
def textD (d : DI) : ByteArray := if okD d = true then (if d.1.1 = true then (⟨#[45]⟩ : ByteArray) ++ pointB (bodyD d) d.2 else pointB (bodyD d) d.2) else ⟨#[]⟩
/-- the bytes that are neither a point nor a minus -/
def rawL (l : List UInt8) : List UInt8 := l.filter fun c => c != 46 && c != 45
/-- how many bytes stand behind the last point -/
def scaleF (l : List UInt8) : Nat → Int
  | 0 => 0
  | k + 1 => if l.getD k 0 = 46 then (l.length : Int) - 1 - k else scaleF l k
/-- noughts ahead are left out, as long as a digit stays -/
def stripL : List UInt8 → List UInt8
  | c :: e :: r => if c = 48 then stripL (e :: r) else c :: e :: r
  | l => l
def rawB (s : ByteArray) : ByteArray := ⟨(stripL (rawL s.data.toList)).toArray⟩
def scaleB (s : ByteArray) : Int := scaleF s.data.toList s.size
/-- what a text is read as -/
def parseD (s : ByteArray) : DI := ((decide (s.data.toList.headD 0 = 45), tnR (rawB s)), scaleB s)
def readD (s : ByteArray) : Bool := decOk (rawB s) && (okD (parseD s) && decide (textD (parseD s) = s))
/-- TextDec -/
def trD (s : ByteArray) : DI × Bool := if readD s = true then (parseD s, true) else (zeroD, false)

theorem listB {s t : ByteArray} (h : s.data.toList = t.data.toList) : s = t := by
  cases s with
  | mk a => cases t with
    | mk b => exact congrArg ByteArray.mk (Array.toList_inj.1 h)
theorem listB_len (s : ByteArray) : s.data.toList.length = s.size := rfl
theorem pad_list (s : ByteArray) (n : Int) : (padB s n).data.toList = List.replicate (n.toNat - s.size) 48 ++ s.data.toList := rfl
theorem point_list (s : ByteArray) (k : Int) : (pointB s k).data.toList = if 0 < k then s.data.toList.take (s.size - k.toNat) ++ 46 :: s.data.toList.drop (s.size - k.toNat) else s.data.toList := by
  unfold pointB
  split
  · rw [ByteArray.data_append, ByteArray.data_append, Array.toList_append, Array.toList_append, extract_listD, extract_listD, List.drop_zero, List.take_of_length_le (Nat.le_of_eq (listB_len s))]
    show s.data.toList.take _ ++ [46] ++ _ = _
    rw [List.append_assoc]
    rfl
  · rfl
/-- the digits of a right number -/
structure BodyD (d : DI) (n m : Nat) : Prop where
  mag : d.1.2 = limbs n
  digits : (natTextB d.1.2).data.toList = Lib.decDigits n
  list : (bodyD d).data.toList = List.replicate m 48 ++ Lib.decDigits n
  dig : DigL (bodyD d).data.toList
  long : d.2.toNat < (bodyD d).size
  size : (bodyD d).size ≤ 100
  short : (natTextB d.1.2).size ≤ 61
theorem body_of {d : DI} (h : okD d = true) : ∃ n m, BodyD d n m := by
  have p := partsD h
  have hp := okS_parts p.ok
  have e : d.1.2 = limbs (nval d.1.2).toNat := natOk_limbs hp.1
  have hl := p.len
  have ed : (natTextB d.1.2).data.toList = Lib.decDigits (nval d.1.2).toNat := by
    rw [e, limbs_val, Int.toNat_natCast]
    exact natText_limbs _ (by rw [← e]; omega)
  have hs : (natTextB d.1.2).size ≤ 61 := by
    unfold natTextB
    rw [if_pos hp.1]
    have := natT_size d.1.2 (natOk_parts hp.1).1
    omega
  have hlist : (bodyD d).data.toList = List.replicate ((d.2 + 1).toNat - (natTextB d.1.2).size) 48 ++ Lib.decDigits (nval d.1.2).toNat := by
    unfold bodyD
    rw [pad_list, ed]
  have hsz : (bodyD d).size = (d.2 + 1).toNat - (natTextB d.1.2).size + (natTextB d.1.2).size := by
    unfold bodyD
    rw [← listB_len, pad_list, List.length_append, List.length_replicate, listB_len]
  have hlo := p.lo
  have hhi := p.hi
  refine ⟨(nval d.1.2).toNat, _, e, ed, hlist, ?_, by omega, by omega, hs⟩
  rw [hlist]
  intro c hc
  rcases List.mem_append.1 hc with hc | hc
  · rw [(List.mem_replicate.1 hc).2]; decide
  · exact (dig_dec _).1 c hc
theorem raw_dig {l : List UInt8} (h : DigL l) : rawL l = l := by
  refine List.filter_eq_self.2 fun c hc => ?_
  have := h c hc
  rw [Bool.and_eq_true, bne_iff_ne, bne_iff_ne]
  refine ⟨fun e => ?_, fun e => ?_⟩
  · subst e; exact absurd this.1 (by decide)
  · subst e; exact absurd this.1 (by decide)
theorem raw_app (a b : List UInt8) : rawL (a ++ b) = rawL a ++ rawL b := List.filter_append ..
theorem dig_take {l : List UInt8} (h : DigL l) (k : Nat) : DigL (l.take k) := fun c hc => h c (List.mem_of_mem_take hc)
theorem dig_drop {l : List UInt8} (h : DigL l) (k : Nat) : DigL (l.drop k) := fun c hc => h c (List.mem_of_mem_drop hc)
theorem raw_point {l : List UInt8} (h : DigL l) (k : Nat) : rawL (l.take k ++ 46 :: l.drop k) = l := by
  rw [raw_app, raw_dig (dig_take h k), show (46 :: l.drop k : List UInt8) = [46] ++ l.drop k from rfl, raw_app, raw_dig (dig_drop h k)]
  show l.take k ++ ([] ++ l.drop k) = l
  rw [List.nil_append, List.take_append_drop]
theorem strip_dec (n : Nat) : stripL (Lib.decDigits n) = Lib.decDigits n := by
  by_cases h : n < 10
  · rw [dec_small n h]; rfl
  · have hh := dec_head n (by omega)
    have hne := (dig_dec n).2
    cases hl : Lib.decDigits n with
    | nil => exact absurd hl hne
    | cons c r =>
      rw [hl] at hh
      cases r with
      | nil => rfl
      | cons e r =>
        have : ¬ c = 48 := hh
        show (if c = 48 then _ else _) = _
        rw [if_neg this]
theorem strip_zero (l : List UInt8) (h : l ≠ []) : stripL (48 :: l) = stripL l := by
  cases l with
  | nil => exact absurd rfl h
  | cons c r => rfl
theorem strip_pad (n m : Nat) : stripL (List.replicate m 48 ++ Lib.decDigits n) = Lib.decDigits n := by
  induction m with
  | zero => exact strip_dec n
  | succ m ih =>
    rw [List.replicate_succ, List.cons_append, strip_zero _ (fun e => (dig_dec n).2 (List.append_eq_nil_iff.1 e).2)]
    exact ih
theorem scale_dig {l : List UInt8} {a b : Nat} (hab : a ≤ b) (h : ∀ k, a ≤ k → k < b → l.getD k 0 ≠ 46) : scaleF l b = scaleF l a := by
  induction b with
  | zero => rw [show a = 0 by omega]
  | succ b ih =>
    rcases Nat.eq_or_lt_of_le hab with e | hlt
    · rw [e]
    · show (if l.getD b 0 = 46 then _ else _) = _
      rw [if_neg (h b (by omega) (by omega))]
      exact ih (by omega) (fun k h1 h2 => h k h1 (by omega))
theorem scale_hit {l : List UInt8} {k : Nat} (h : l.getD k 0 = 46) : scaleF l (k + 1) = (l.length : Int) - 1 - k := if_pos h
theorem getD_of {l : List UInt8} {k : Nat} {c : UInt8} (h : l[k]? = some c) : l.getD k 0 = c := by
  rw [List.getD_eq_getElem?_getD, h]; rfl
theorem getD_mem {l : List UInt8} {k : Nat} (h : k < l.length) : l.getD k 0 ∈ l := by
  rw [List.getD_eq_getElem?_getD, List.getElem?_eq_getElem h]; exact List.getElem_mem h
/-- in digits with a minus ahead, or none, no point stands -/
theorem scale_none {l : List UInt8} (h : ∀ c ∈ l, c ≠ 46) : scaleF l l.length = 0 :=
  scale_dig (a := 0) (Nat.zero_le _) (fun _ _ h2 => h _ (getD_mem h2))
theorem scale_one {a b : List UInt8} (h : ∀ c ∈ b, c ≠ 46) : scaleF (a ++ 46 :: b) (a ++ 46 :: b).length = b.length := by
  have hlen : (a ++ 46 :: b).length = a.length + 1 + b.length := by rw [List.length_append, List.length_cons]; omega
  have hit : (a ++ 46 :: b).getD a.length 0 = 46 := getD_of (by rw [List.getElem?_append_right (Nat.le_refl _), Nat.sub_self]; rfl)
  rw [scale_dig (a := a.length + 1) (by omega) (fun k h1 h2 => ?_), scale_hit hit, hlen]
  · omega
  · have hk : (a ++ 46 :: b).getD k 0 = b.getD (k - a.length - 1) 0 := by
      rw [List.getD_eq_getElem?_getD, List.getD_eq_getElem?_getD, List.getElem?_append_right (by omega), show k - a.length = (k - a.length - 1) + 1 by omega, List.getElem?_cons_succ]
      congr 2
    rw [hk]
    exact h _ (getD_mem (by omega))
theorem dig_no {l : List UInt8} (h : DigL l) : ∀ c ∈ l, c ≠ 46 := fun c hc e => by
  subst e
  exact absurd (h _ hc).1 (by decide)
theorem dig_no' {l : List UInt8} (h : DigL l) : ∀ c ∈ l, c ≠ 45 := fun c hc e => by
  subst e
  exact absurd (h _ hc).1 (by decide)
/-- the text of a right number as a list -/
theorem text_list {d : DI} (h : okD d = true) : (textD d).data.toList = (if d.1.1 = true then [45] else []) ++ (if 0 < d.2 then (bodyD d).data.toList.take ((bodyD d).size - d.2.toNat) ++ 46 :: (bodyD d).data.toList.drop ((bodyD d).size - d.2.toNat) else (bodyD d).data.toList) := by
  unfold textD
  rw [if_pos h]
  have e := point_list (bodyD d) d.2
  split
  · rw [ByteArray.data_append, Array.toList_append, e]
  · rw [e]; rfl
theorem text_size {d : DI} (h : okD d = true) : (textD d).size ≤ 102 := by
  obtain ⟨n, m, b⟩ := body_of h
  have e := text_list h
  have := b.size
  rw [← listB_len, e, List.length_append]
  have h1 : (if d.1.1 = true then [45] else ([] : List UInt8)).length ≤ 1 := by split <;> decide
  have h2 : (if 0 < d.2 then (bodyD d).data.toList.take ((bodyD d).size - d.2.toNat) ++ 46 :: (bodyD d).data.toList.drop ((bodyD d).size - d.2.toNat) else (bodyD d).data.toList).length ≤ 101 := by
    split
    · rw [List.length_append, List.length_cons, List.length_take, List.length_drop, listB_len]; omega
    · rw [listB_len]; omega
  omega
theorem textD_size (d : DI) : (textD d).size ≤ 102 := by
  by_cases h : okD d = true
  · exact text_size h
  · unfold textD
    rw [if_neg h]
    decide
/-- what is read out of a written number -/
theorem parse_text {d : DI} (h : okD d = true) : parseD (textD d) = d ∧ decOk (rawB (textD d)) = true := by
  obtain ⟨n, m, b⟩ := body_of h
  have p := partsD h
  have hp := okS_parts p.ok
  have hlo := p.lo
  have e := text_list h
  have hdig := b.dig
  have hlong := b.long
  have hraw : rawL (textD d).data.toList = (bodyD d).data.toList := by
    rw [e, raw_app]
    have h1 : rawL (if d.1.1 = true then [45] else []) = [] := by split <;> rfl
    rw [h1, List.nil_append]
    split
    · exact raw_point hdig _
    · exact raw_dig hdig
  have hst : (rawB (textD d)).data.toList = Lib.decDigits n := by
    show stripL (rawL (textD d).data.toList) = _
    rw [hraw, b.list]
    exact strip_pad n m
  have hnt : rawB (textD d) = natTextB d.1.2 := listB (by rw [hst, b.digits])
  have hdd : digitsB (rawB (textD d)) = true := by rw [digitsB_iff, hst]; exact dig_dec n
  have hsz : (rawB (textD d)).size ≤ 450 := by rw [hnt]; have := b.short; omega
  have hok : decOk (rawB (textD d)) = true := by
    rw [← read_text _ hdd hsz, hst, valL_dec, Int.toNat_natCast, hnt, b.mag]
  have hval : tnR (rawB (textD d)) = d.1.2 := by
    unfold tnR
    rw [if_pos hok, hst, valL_dec, Int.toNat_natCast]
    exact b.mag.symm
  have hscale : scaleB (textD d) = d.2 := by
    unfold scaleB
    rw [← listB_len, e]
    by_cases h0 : 0 < d.2
    · rw [if_pos h0, ← List.append_assoc, scale_one (dig_no (dig_drop hdig _)), List.length_drop, listB_len]
      omega
    · rw [if_neg h0, scale_none (fun c hc => ?_)]
      · omega
      · rcases List.mem_append.1 hc with hc | hc
        · split at hc
          · rw [List.mem_singleton.1 hc]; decide
          · cases hc
        · exact dig_no hdig c hc
  have hneg : decide ((textD d).data.toList.headD 0 = 45) = d.1.1 := by
    rw [e]
    cases hs : d.1.1 with
    | true => rfl
    | false =>
      rw [decide_eq_false_iff_not]
      show ¬ ([] ++ _ : List UInt8).headD 0 = 45
      rw [List.nil_append]
      intro h45
      have hne : (bodyD d).data.toList ≠ [] := fun e0 => by
        have h5 := listB_len (bodyD d)
        rw [e0] at h5
        simp at h5
        omega
      have hfirst : ∀ l : List UInt8, DigL l → l ≠ [] → ¬ l.headD 0 = 45 := fun l hl hn h4 => by
        cases l with
        | nil => exact hn rfl
        | cons c r => exact dig_no' hl c (List.mem_cons_self ..) h4
      split at h45
      · have hk : (bodyD d).data.toList.take ((bodyD d).size - d.2.toNat) ≠ [] := fun e0 => by
          have h5 := congrArg List.length e0
          rw [List.length_take, listB_len] at h5
          simp at h5
          omega
        cases ht : (bodyD d).data.toList.take ((bodyD d).size - d.2.toNat) with
        | nil => exact hk ht
        | cons c r =>
          rw [ht] at h45
          exact hfirst _ (dig_take hdig _) hk (by rw [ht]; exact h45)
      · exact hfirst _ hdig hne h45
  refine ⟨?_, hok⟩
  unfold parseD
  rw [hneg, hval, hscale]
/-- TextDec answers the number whose text it is -/
theorem trD_text {d : DI} (h : okD d = true) : trD (textD d) = (d, true) := by
  have p := parse_text h
  unfold trD readD
  rw [p.2, p.1, h, decide_eq_true rfl]
  rfl
theorem trD_yes {s : ByteArray} (h : (trD s).2 = true) : okD (trD s).1 = true ∧ textD (trD s).1 = s := by
  unfold trD at h ⊢
  split at h
  · rename_i hr
    rw [if_pos hr]
    unfold readD at hr
    rw [Bool.and_eq_true, Bool.and_eq_true, decide_eq_true_eq] at hr
    exact hr.2
  · exact absurd h (by decide)
theorem trD_iff (s : ByteArray) (d : DI) : trD s = (d, true) ↔ okD d = true ∧ textD d = s := by
  constructor
  · intro h
    have := trD_yes (s := s) (by rw [h])
    rw [h] at this
    exact this
  · intro ⟨h1, h2⟩
    rw [← h2]
    exact trD_text h1
theorem trD_no {s : ByteArray} (h : ∀ d, okD d = true → ¬ textD d = s) : trD s = (zeroD, false) := by
  unfold trD
  rw [if_neg]
  intro hr
  have : (trD s).2 = true := by unfold trD; rw [if_pos hr]
  have y := trD_yes this
  exact h _ y.1 y.2
theorem trD_sz (s : ByteArray) : szD (trD s).1 ≤ 1048576 := by
  by_cases h : (trD s).2 = true
  · have := (partsD (trD_yes h).1).len
    unfold szD szS szI
    omega
  · unfold trD at h ⊢
    split at h
    · exact absurd rfl h
    · rename_i hr
      rw [if_neg hr]
      exact zeroD_sz
end Go.Proofs.YtcenmdiblbooeaaDoor

namespace Go.Proofs.YtcenmdiblbooeaaDoor
open Go.RowKit

def pointAt (s : ByteArray) : Int := Lib.indexByte s.data.toList 46
/-- what stands ahead of the first point, and behind it -/
def preB (s : ByteArray) : ByteArray := if pointAt s < 0 then s else s.extract 0 (pointAt s).toNat
def postB (s : ByteArray) : ByteArray := if pointAt s < 0 then ⟨#[]⟩ else s.extract ((pointAt s).toNat + 1) s.size
def magB (s : ByteArray) : ByteArray := ⟨(Lib.trimLeftB (preB s ++ postB s).data.toList 48).toArray⟩
/-- the number that package impl reads -/
def parseI (s : ByteArray) : DI := ((negB s, tnR (magB (bareB s))), ((postB (bareB s)).size : Int))
theorem index_hitP (a b : List UInt8) (h : ∀ c ∈ a, c ≠ 46) : Lib.indexByte (a ++ 46 :: b) 46 = a.length := by
  have hg := Lib.indexByte_ge (a ++ 46 :: b) 46
  have hat : (a ++ 46 :: b)[a.length]? = some 46 := by rw [List.getElem?_append_right (Nat.le_refl _), Nat.sub_self]; rfl
  by_cases e : Lib.indexByte (a ++ 46 :: b) 46 = -1
  · exact absurd hat (Lib.indexByte_none e _)
  · have ho : Lib.indexByte (a ++ 46 :: b) 46 = ((Lib.indexByte (a ++ 46 :: b) 46).toNat : Nat) := by omega
    obtain ⟨h1, h2⟩ := Lib.indexByte_some ho
    generalize (Lib.indexByte (a ++ 46 :: b) 46).toNat = o at *
    rcases Nat.lt_trichotomy o a.length with hl | hl | hl
    · rw [List.getElem?_append_left hl] at h1
      exact absurd rfl (h 46 (List.mem_of_getElem? h1))
    · rw [ho, hl]
    · exact absurd hat (h2 _ hl)
theorem index_noneP (a : List UInt8) (h : ∀ c ∈ a, c ≠ 46) : Lib.indexByte a 46 = -1 := by
  have hg := Lib.indexByte_ge a 46
  by_cases e : Lib.indexByte a 46 = -1
  · exact e
  · have ho : Lib.indexByte a 46 = ((Lib.indexByte a 46).toNat : Nat) := by omega
    obtain ⟨h1, _⟩ := Lib.indexByte_some ho
    exact absurd rfl (h 46 (List.mem_of_getElem? h1))
theorem chr_eqT {k : Nat} (h : k < 10) : (UInt8.ofNat (48 + k) = 48) ↔ k = 0 := by
  constructor
  · intro e
    have e2 := congrArg UInt8.toNat e
    rw [UInt8.toNat_ofNat'] at e2
    have : (48 : UInt8).toNat = 48 := rfl
    omega
  · rintro rfl; rfl
theorem parts_some (s : ByteArray) (a b : List UInt8) (hs : s.data.toList = a ++ 46 :: b) (h : ∀ c ∈ a, c ≠ 46) : (preB s).data.toList = a ∧ (postB s).data.toList = b := by
  have hp : pointAt s = a.length := by unfold pointAt; rw [hs]; exact index_hitP a b h
  have hn : ¬ pointAt s < 0 := by omega
  unfold preB postB
  rw [if_neg hn, if_neg hn, hp, Int.toNat_natCast, extract_listD, extract_listD, List.drop_zero, hs]
  refine ⟨List.take_left .., ?_⟩
  have hsz : s.size = (a ++ 46 :: b).length := by rw [← listB_len, hs]
  rw [hsz, List.take_length]
  have : (a ++ 46 :: b).drop (a.length + 1) = b := by
    rw [List.drop_append, List.drop_of_length_le (by omega), show a.length + 1 - a.length = 1 by omega]
    rfl
  exact this
theorem parts_none (s : ByteArray) (h : ∀ c ∈ s.data.toList, c ≠ 46) : preB s = s ∧ postB s = ⟨#[]⟩ := by
  have hp : pointAt s = -1 := index_noneP _ h
  unfold preB postB
  rw [if_pos (by omega), if_pos (by omega)]
  exact ⟨rfl, rfl⟩
theorem bare_text {d : DI} (h : okD d = true) : negB (textD d) = d.1.1 ∧ (bareB (textD d)).data.toList = if 0 < d.2 then (bodyD d).data.toList.take ((bodyD d).size - d.2.toNat) ++ 46 :: (bodyD d).data.toList.drop ((bodyD d).size - d.2.toNat) else (bodyD d).data.toList := by
  have hp := (parse_text h).1
  have hn : negB (textD d) = d.1.1 := congrArg (fun x : DI => x.1.1) hp
  have e := text_list h
  refine ⟨hn, ?_⟩
  cases hs : d.1.1 with
  | true =>
    rw [hs] at e hn
    rw [if_pos rfl] at e
    rw [bareB_data, e]
    rfl
  | false =>
    rw [hs] at e hn
    rw [if_neg (by decide), List.nil_append] at e
    rw [bareB_self _ hn, e]
theorem trim_pad (n m : Nat) : Lib.trimLeftB (List.replicate m 48 ++ Lib.decDigits n) 48 = if n = 0 then [] else Lib.decDigits n := by
  unfold Lib.trimLeftB
  induction m with
  | zero =>
    rw [List.replicate_zero, List.nil_append]
    by_cases h0 : n = 0
    · subst h0
      rw [if_pos rfl, dec_small 0 (by omega)]
      rfl
    · rw [if_neg h0]
      have hh : ∃ c r, Lib.decDigits n = c :: r ∧ ¬ c = 48 := by
        by_cases hs : n < 10
        · refine ⟨_, _, dec_small n hs, ?_⟩
          rw [chr_eqT hs]
          exact h0
        · have hd := dec_head n (by omega)
          cases hl : Lib.decDigits n with
          | nil => exact absurd hl (dig_dec n).2
          | cons c r =>
            rw [hl] at hd
            exact ⟨c, r, rfl, hd⟩
      obtain ⟨c, r, e, hc⟩ := hh
      rw [e]
      exact List.dropWhile_cons_of_neg (by simpa using hc)
  | succ m ih =>
    rw [List.replicate_succ, List.cons_append, List.dropWhile_cons_of_pos (by rfl)]
    exact ih
theorem tn_empty : tnR ⟨#[]⟩ = [] := by
  unfold tnR
  rw [if_neg]
  intro h
  rw [decOk_dig ⟨#[]⟩ (by
    by_cases hd : digitsB ⟨#[]⟩ = true
    · exact absurd rfl ((digitsB_iff _).1 hd).2
    · simpa using hd)] at h
  exact absurd h (by decide)
/-- a written number is read back -/
theorem parseI_text {d : DI} (h : okD d = true) : parseI (textD d) = d := by
  obtain ⟨n, m, b⟩ := body_of h
  have p := partsD h
  have hlo := p.lo
  have hb := bare_text h
  have pt := parse_text h
  have hlong := b.long
  have key : (preB (bareB (textD d)) ++ postB (bareB (textD d))).data.toList = (bodyD d).data.toList ∧ ((postB (bareB (textD d))).size : Int) = d.2 := by
    have hl := hb.2
    by_cases h0 : 0 < d.2
    · rw [if_pos h0] at hl
      have q := parts_some _ _ _ hl (dig_no (dig_take b.dig _))
      constructor
      · rw [ByteArray.data_append, Array.toList_append, q.1, q.2, List.take_append_drop]
      · rw [← listB_len, q.2, List.length_drop, listB_len]
        omega
    · rw [if_neg h0] at hl
      have q := parts_none (bareB (textD d)) (by rw [hl]; exact dig_no b.dig)
      constructor
      · rw [ByteArray.data_append, Array.toList_append, q.1, q.2, hl]
        exact List.append_nil _
      · rw [q.2]
        show (0 : Int) = _
        omega
  have hmag : tnR (magB (bareB (textD d))) = d.1.2 := by
    have hl : (magB (bareB (textD d))).data.toList = if n = 0 then [] else Lib.decDigits n := by
      show Lib.trimLeftB _ 48 = _
      rw [key.1, b.list, trim_pad]
    by_cases hn : n = 0
    · rw [if_pos hn] at hl
      have e : magB (bareB (textD d)) = ⟨#[]⟩ := listB (by rw [hl])
      rw [e, tn_empty, b.mag, hn, limbs_zero]
    · rw [if_neg hn] at hl
      have hr : magB (bareB (textD d)) = rawB (textD d) := listB (by
        rw [hl]
        show _ = stripL (rawL (textD d).data.toList)
        have hraw : rawL (textD d).data.toList = (bodyD d).data.toList := by
          rw [text_list h, raw_app]
          have h1 : rawL (if d.1.1 = true then [45] else []) = [] := by split <;> rfl
          rw [h1, List.nil_append]
          split
          · exact raw_point b.dig _
          · exact raw_dig b.dig
        rw [hraw, b.list]
        exact (strip_pad n m).symm)
      rw [hr]
      exact congrArg (fun x : DI => x.1.2) pt.1
  unfold parseI
  rw [hb.1, hmag, key.2]
theorem parseI_empty : parseI ⟨#[]⟩ = zeroD := by
  have hn : negB ⟨#[]⟩ = false := negB_nil _ (by decide)
  have hb : bareB ⟨#[]⟩ = ⟨#[]⟩ := bareB_self _ hn
  have q := parts_none ⟨#[]⟩ (fun c hc => by cases hc)
  unfold parseI
  rw [hn, hb, q.2]
  have e : magB ⟨#[]⟩ = ⟨#[]⟩ := by unfold magB; rw [q.1, q.2]; rfl
  rw [e, tn_empty]
  rfl
/-- TextDec as package impl reckons it -/
theorem trD_impl (s : ByteArray) : (if textD (parseI s) = s then (parseI s, true) else (zeroD, false)) = trD s := by
  by_cases hx : textD (parseI s) = s
  · rw [if_pos hx]
    by_cases ok : okD (parseI s) = true
    · have := trD_text ok
      rw [hx] at this
      exact this.symm
    · exfalso
      have e : textD (parseI s) = ⟨#[]⟩ := by unfold textD; rw [if_neg ok]
      rw [e] at hx
      rw [← hx, parseI_empty] at ok
      exact ok (by decide)
  · rw [if_neg hx]
    refine (trD_no fun d hd he => hx ?_).symm
    rw [← he, parseI_text hd]
end Go.Proofs.YtcenmdiblbooeaaDoor

namespace Go.Proofs.YtcenmdiblbooeaaDoor
open Go.RowKit

/-- a value that stands for it, its limbs of the call's own -/
def OwnD (v : Value) (q : DI) (w : World) : Prop := ∃ u, v = .agg #[.bool q.1.1, u, .int .i64 q.2] ∧ OwnI u q.1.2 w
def MarkD (v : Value) (q : DI) (m : Int) (w : World) : Prop := ∃ u, v = .agg #[.bool q.1.1, u, .int .i64 q.2] ∧ MarkI u q.1.2 m w
/-- a value that reads as it -/
def RdD (w : World) (v : Value) (q : DI) : Prop := ∃ u, v = .agg #[.bool q.1.1, u, .int .i64 q.2] ∧ Row w 0 w.heap.size u (intsV q.1.2)
theorem OwnD.rd {v : Value} {q : DI} {w : World} (h : OwnD v q w) : RdD w v q := by
  obtain ⟨u, rfl, o⟩ := h
  exact ⟨u, rfl, o.row⟩
theorem OwnD.mk {u : Value} {q : DI} {w : World} (h : OwnI u q.1.2 w) : OwnD (.agg #[.bool q.1.1, u, .int .i64 q.2]) q w := ⟨u, rfl, h⟩
theorem OwnD.below {w W : World} {v : Value} {q : DI} (h : OwnD v q w) (hb : Below w.heap.size w W) : OwnD v q W := by
  obtain ⟨u, rfl, o⟩ := h
  exact ⟨u, rfl, own_below o hb⟩
theorem RdD.below {w W : World} {v : Value} {q : DI} (h : RdD w v q) (hb : Below w.heap.size w W) : RdD W v q := by
  obtain ⟨u, rfl, o⟩ := h
  exact ⟨u, rfl, (o.below hb (Nat.le_refl _)).wide (Nat.le_refl _) hb.size⟩
def capD (q : DI) : Prop := q.1.2.length ≤ 9223372036854775807
theorem szD_nonneg (q : DI) : 0 ≤ szD q := by unfold szD szS szI; omega
theorem szD_len {q : DI} (h : szD q ≤ 1048576) : q.1.2.length ≤ 1048576 := by unfold szD szS szI at h; omega
theorem capD_of {q : DI} (h : szD q ≤ 1048576) : capD q := by have := szD_len h; unfold capD; omega
theorem ownD_form {v : Value} {q : DI} {w : World} (h : OwnD v q w) : ∃ A c, v = .agg #[.bool q.1.1, .slice A q.1.2.length c, .int .i64 q.2] := by
  obtain ⟨u, rfl, o⟩ := h
  obtain ⟨A, c, rfl⟩ := own_len o
  exact ⟨A, c, rfl⟩
theorem rdD_form {v : Value} {q : DI} {w : World} (h : RdD w v q) : ∃ A c, v = .agg #[.bool q.1.1, .slice A q.1.2.length c, .int .i64 q.2] := by
  obtain ⟨u, rfl, o⟩ := h
  obtain ⟨A, c, rfl⟩ := row_form o
  rw [intsV_length]
  exact ⟨A, c, rfl⟩
theorem ownD_open {u c s : Value} {q : DI} {w : World} (h : OwnD (.agg #[c, u, s]) q w) : OwnI u q.1.2 w := by
  obtain ⟨u', e, hu⟩ := h
  injection e with e
  simp at e
  obtain ⟨_, e2, _⟩ := e
  subst e2
  exact hu
theorem ownS_openD {u c : Value} {x : SI} {w : World} (h : OwnS (.agg #[c, u]) x w) : OwnI u x.2 w := by
  obtain ⟨u', e, hu⟩ := h
  injection e with e
  simp at e
  obtain ⟨_, e2⟩ := e
  subst e2
  exact hu
/-- a value whose blocks stay while others are written -/
theorem newV_chg {φ : Value → World → Prop} {S T : List Nat} {v : Value} {w W : World} (o : At S (φ v) W) (hd : ∀ i ∈ S, i ∉ T) (hT : ∀ i ∈ T, w.heap.size ≤ i) (l : ∀ i ∈ S, w.heap.size ≤ i) (hW : Below w.heap.size w W) :
    ∀ W', Chg T W W' → NewV φ w (.returned v) W' :=
  fun _ hc => ⟨v, S, rfl, o.chg hc hd, fun i hi => ⟨l i hi, Nat.lt_of_lt_of_le (o.lt i hi) hc.size⟩, below_chg hW hc hW.size hT⟩
/-- what a call answers: a new decimal number and a bool -/
def PostDb (R0 : DI) (R1 : Bool) (w : World) (e : Ending) (w' : World) : Prop :=
  ∃ (v : Value) (S : List Nat), e = .returned (.tuple #[v, .bool R1]) ∧ At S (OwnD v R0) w' ∧ Within S w.heap.size w'.heap.size ∧ Below w.heap.size w w'
theorem postDb_is {q : DI × Bool} {X : DI} {b : Bool} (e : q = (X, b)) {w w' : World} {n : Ending} (h : PostDb q.1 q.2 w n w') : PostDb X b w n w' := by rw [e] at h; exact h
theorem postDb_eq {q p : DI × Bool} (e : q = p) {w w' : World} {n : Ending} (h : PostDb q.1 q.2 w n w') : PostDb p.1 p.2 w n w' := by rw [e] at h; exact h
theorem postn_eqD {a b : Int} (h : a = b) {w w' : World} {e : Ending} (k : Postn a w e w') : Postn b w e w' := h ▸ k
theorem newVD_eq {a b : DI} (e : a = b) {w w' : World} {n : Ending} (h : NewV (fun v => OwnD v a) w n w') : NewV (fun v => OwnD v b) w n w' := e ▸ h
theorem postDb_chg {S T : List Nat} {v : Value} {x : DI} {b : Bool} {w W : World} (o : At S (OwnD v x) W) (hd : ∀ i ∈ S, i ∉ T) (hT : ∀ i ∈ T, w.heap.size ≤ i) (l : ∀ i ∈ S, w.heap.size ≤ i) (hW : Below w.heap.size w W) :
    ∀ W', Chg T W W' → PostDb x b w (.returned (.tuple #[v, .bool b])) W' :=
  fun _ hc => ⟨v, S, rfl, o.chg hc hd, fun i hi => ⟨l i hi, Nat.lt_of_lt_of_le (o.lt i hi) hc.size⟩, below_chg hW hc hW.size hT⟩
theorem chg_set3 {r : Nat} {c0 c1 c2 : Value} {W : World} : Chg [r] W (((W.setCell ⟨r, 0, none⟩ c0).setCell ⟨r, 1, none⟩ c1).setCell ⟨r, 2, none⟩ c2) := (((Chg.refl _ _).setCell (by simp) _).setCell (by simp) _).setCell (by simp) _
/-- results that lie in their cells at block r -/
theorem newD_at {r B : Nat} {S : List Nat} {c0 c1 c2 : Value} {x : DI} {w W : World} (o : At S (OwnD (.agg #[c0, c1, c2]) x) W) (l : Within S B W.heap.size) (hrB : r < B) (hr : w.heap.size ≤ r) (hW : Below w.heap.size w W) :
    NewV (fun v => OwnD v x) w (.returned (.agg #[c0, c1, c2])) (((W.setCell ⟨r, 0, none⟩ c0).setCell ⟨r, 1, none⟩ c1).setCell ⟨r, 2, none⟩ c2) :=
  newV_chg o (fun i hi hm => by have := l i hi; simp at hm; omega) (fun i hi => by simp at hi; omega) (fun i hi => by have := l i hi; omega) hW _ chg_set3
theorem newDb_at {r B : Nat} {S : List Nat} {c0 c1 c2 : Value} {x : DI} {b : Bool} {w W : World} (o : At S (OwnD (.agg #[c0, c1, c2]) x) W) (l : Within S B W.heap.size) (hrB : r < B) (hr : w.heap.size ≤ r) (hW : Below w.heap.size w W) :
    PostDb x b w (.returned (.tuple #[.agg #[c0, c1, c2], .bool b])) (((W.setCell ⟨r, 0, none⟩ c0).setCell ⟨r, 1, none⟩ c1).setCell ⟨r, 2, none⟩ c2) :=
  postDb_chg o (fun i hi hm => by have := l i hi; simp at hm; omega) (fun i hi => by simp at hi; omega) (fun i hi => by have := l i hi; omega) hW _ chg_set3
theorem ownD_zero (w : World) : OwnD (.agg #[.bool false, .slice none 0 0, .int .i64 0]) zeroD w := ⟨_, rfl, World.ownsRow_nil _ _ _ _⟩
theorem atD_zero (w : World) : At [] (OwnD (.agg #[.bool false, .slice none 0 0, .int .i64 0]) zeroD) w := ⟨ownD_zero _, fun _ hg => absurd hg List.not_mem_nil, fun w' _ => ownD_zero w'⟩
theorem newDb_zero {w W : World} (b : Bool) (hW : Below w.heap.size w W) : PostDb zeroD b w (.returned (.tuple #[.agg #[.bool false, .slice none 0 0, .int .i64 0], .bool b])) W :=
  ⟨_, [], rfl, atD_zero _, fun _ hg => absurd hg List.not_mem_nil, hW⟩
theorem newD_zero {w W : World} (hW : Below w.heap.size w W) : NewV (fun v => OwnD v zeroD) w (.returned (.agg #[.bool false, .slice none 0 0, .int .i64 0])) W :=
  ⟨_, [], rfl, atD_zero _, fun _ hg => absurd hg List.not_mem_nil, hW⟩
end Go.Proofs.YtcenmdiblbooeaaDoor
