/-
  What spec.TextInt and impl.TextInt return: the int whose numeral the text is, if there is one.
-/
import Derived.Test.YtecaghbakjalgaaDoorIntText
import Derived.Test.YtecaghbakjalgaaDoorDigits
import Derived.Lib.IndexBytes
namespace Go.Proofs.YtecaghbakjalgaaDoor
open Go.RowKit

theorem valL_dec (u : Nat) : valL (Lib.decDigits u) = u := by
  induction u using Nat.strongRecOn with
  | _ u ih =>
    by_cases h : u < 10
    · rw [dec_small u h]
      show (0 : Int) * 10 + (((UInt8.ofNat (48 + u)).toNat : Int) - 48) = u
      rw [UInt8.toNat_ofNat']
      omega
    · rw [dec_big u h, valL_snoc, ih (u / 10) (by omega), UInt8.toNat_ofNat']
      omega
theorem dig_dec (u : Nat) : DigL (Lib.decDigits u) ∧ Lib.decDigits u ≠ [] := by
  induction u using Nat.strongRecOn with
  | _ u ih =>
    by_cases h : u < 10
    · rw [dec_small u h]
      refine ⟨fun c hc => ?_, by simp⟩
      rw [List.mem_singleton.1 hc, UInt8.toNat_ofNat']
      omega
    · rw [dec_big u h]
      refine ⟨fun c hc => ?_, by simp⟩
      rcases List.mem_append.1 hc with hc | hc
      · exact (ih (u / 10) (by omega)).1 c hc
      · rw [List.mem_singleton.1 hc, UInt8.toNat_ofNat']
        omega
/-- s is the numeral of the int n -/
def IsNum (s : ByteArray) (n : Int) : Prop := numB n = s ∧ -9223372036854775808 ≤ n ∧ n ≤ 9223372036854775807

/-- without a leading '-' -/
def bareL (l : List UInt8) : List UInt8 := if l.headD 0 = 45 then l.tail else l
theorem isNum_parts (s : ByteArray) (n : Int) (h : IsNum s n) : DigL (bareL s.data.toList) ∧ bareL s.data.toList ≠ [] ∧ valL (bareL s.data.toList) = n.natAbs ∧ ((s.data.toList.headD 0 = 45) ↔ n < 0) ∧ (bareL s.data.toList).length ≤ 19 := by
  obtain ⟨rfl, h1, h2⟩ := h
  have hsz := numB_size n 18 (by omega)
  have e : (numB n).data.toList = Lib.itoa n := rfl
  have hsz' : (Lib.itoa n).length ≤ 20 := hsz
  rw [e]
  unfold Lib.itoa at hsz' ⊢
  by_cases hn : n < 0
  · rw [if_pos hn] at hsz' ⊢
    have hb : bareL (45 :: Lib.decDigits n.natAbs) = Lib.decDigits n.natAbs := rfl
    rw [hb]
    exact ⟨(dig_dec _).1, (dig_dec _).2, valL_dec _, by simp [hn], by simp at hsz'; omega⟩
  · rw [if_neg hn] at hsz' ⊢
    have hd := dig_dec n.toNat
    have hh : ¬ (Lib.decDigits n.toNat).headD 0 = 45 := by
      intro e2
      cases hc : Lib.decDigits n.toNat with
      | nil => exact hd.2 hc
      | cons c r =>
        rw [hc] at e2
        have h3 := hd.1 c (by rw [hc]; simp)
        have : c = 45 := e2
        rw [this] at h3
        simp at h3
    have hb : bareL (Lib.decDigits n.toNat) = Lib.decDigits n.toNat := by unfold bareL; rw [if_neg hh]
    rw [hb]
    refine ⟨hd.1, hd.2, by rw [valL_dec]; omega, ⟨fun e => absurd e hh, fun e => absurd e hn⟩, ?_⟩
    have h4 : ∀ (k u : Nat), u < 10 ^ (k + 1) → (Lib.decDigits u).length ≤ k + 1 := by
      intro k
      induction k with
      | zero => intro u hu; rw [dec_small u (by simpa using hu)]; simp
      | succ k ih =>
        intro u hu
        by_cases hs : u < 10
        · rw [dec_small u hs]; simp
        · rw [dec_big u hs, List.length_append]
          have := ih (u / 10) (by rw [Nat.pow_succ] at hu; omega)
          simp; omega
    exact h4 18 _ (by omega)
theorem isNum_inj (s : ByteArray) (n m : Int) (h : IsNum s n) (k : IsNum s m) : n = m := by
  obtain ⟨_, _, a1, a2, _⟩ := isNum_parts s n h
  obtain ⟨_, _, b1, b2, _⟩ := isNum_parts s m k
  rw [a1] at b1
  rw [a2] at b2
  omega

/-- what TextInt answers -/
def TIPost (s : ByteArray) (w : World) (e : Ending) (w' : World) : Prop :=
  Below w.heap.size w w' ∧ ((∃ n, IsNum s n ∧ e = .returned (.tuple #[.int .i64 n, .bool true])) ∨ ((∀ n, ¬ IsNum s n) ∧ e = .returned (.tuple #[.int .i64 0, .bool false])))

theorem wrap_step (a c : Int) : wrap64 (wrap64 (wrap64 a * 10) + c) = wrap64 (a * 10 + c) := by unfold wrap64; omega

set_option maxHeartbeats 400000 in
set_option maxRecDepth 100000 in
theorem digitsValue_any (s : ByteArray) (w : World) (hd : DigL s.data.toList) :
    Calls Tryd.prog 56 #[.string s] w fun e w' => e = .returned (.int .i64 (wrap64 (valL s.data.toList))) ∧ Below w.heap.size w w' := by
  have HD := Lib.hid hd
  clear hd
  go_enter Tryd.func56, Tryd.ntmps56
  go_wp2
  go_loopw [3] (fun a w' => ∃ (pos : Nat) (v : Int), pos ≤ s.size ∧ w' = w.iter s pos ∧ a = .int .i64 (wrap64 v) ∧ Hid (v = valL (s.data.toList.take pos))) (fun _ w' => s.size - w'.iterPos w.heap.size)
  case atStart => exact ⟨0, 0, Nat.zero_le _, rfl, by rw [show wrap64 0 = 0 from by unfold wrap64; omega], Lib.hid rfl⟩
  case round =>
    obtain ⟨pos, v, hpl, rfl, rfl, HV⟩ := hrel
    by_cases hp : pos < s.size
    · have hdg := dig_at s pos hp HD.out
      have hnx : ∀ ty, (Instr.next (.pointer (some ⟨w.heap.size, 0, none⟩)) true ty).run Tryd.prog (w.iter s pos) = _ := fun ty => run_next_ascii w s pos ty hp (by omega)
      have HT := Lib.hid (take_val s pos hp)
      go_wp2
      go_roundw
      case rel => exact ⟨pos + 1, v * 10 + ((s[pos].toNat : Int) - 48), by omega, rfl, by rw [wrap_step], Lib.hid (by rw [HT.out, HV.out])⟩
      case measure => simp; omega
    · have hnx : ∀ ty, (Instr.next (.pointer (some ⟨w.heap.size, 0, none⟩)) true ty).run Tryd.prog (w.iter s pos) = _ := fun ty => run_next_end w s pos ty hp
      go_wp2
      go_ret
      exact ⟨ret_int (by rw [HV.out, List.take_of_length_le (by simp; omega)]), (Below.refl _ _).alloc (Nat.le_refl _) _⟩

theorem prefix_head (l : List UInt8) : Lib.hasPrefix l [45] = decide (l.headD 0 = 45) := by
  unfold Lib.hasPrefix
  cases l with
  | nil => rfl
  | cons c r =>
    show (List.isPrefixOf [45] (c :: r)) = decide (c = 45)
    simp [List.isPrefixOf]
    by_cases h : c = 45
    · subst h; simp
    · rw [decide_eq_false h, beq_eq_false_iff_ne]
      exact fun e => h e.symm
theorem trim_bare (l : List UInt8) : Lib.trimPrefix l [45] = bareL l := by
  unfold Lib.trimPrefix bareL
  rw [prefix_head]
  by_cases h : l.headD 0 = 45
  · rw [if_pos h, if_pos (by simpa using h), List.length_singleton, List.drop_one]
  · rw [if_neg h, if_neg (by simpa using h)]
/-- the digits of a text, and whether it has a '-' ahead -/
def bareB (s : ByteArray) : ByteArray := ⟨(bareL s.data.toList).toArray⟩
def negB (s : ByteArray) : Bool := decide (s.data.toList.headD 0 = 45)
theorem cutPrefix_any (s : ByteArray) (w : World) :
    Calls Tryd.prog 29 #[.string s, .string ⟨#[45]⟩] w fun e w' => e = .returned (.tuple #[.string (bareB s), .bool (negB s)]) ∧ w = w' := by
  refine (Tryd.strings_CutPrefix s ⟨#[45]⟩ w).mono ?_
  rintro e w' ⟨rfl, rfl⟩
  exact ⟨by rw [trim_bare, prefix_head]; rfl, rfl⟩

/-- the int that impl.TextInt tries -/
def tryB (s : ByteArray) : Int := if negB s = true then wrap64 (-(wrap64 (valL (bareL s.data.toList)))) else wrap64 (valL (bareL s.data.toList))
theorem try_range (s : ByteArray) : -9223372036854775808 ≤ tryB s ∧ tryB s ≤ 9223372036854775807 := by
  unfold tryB
  split <;> (unfold wrap64; omega)
theorem try_is (s : ByteArray) (n : Int) (h : IsNum s n) : tryB s = n := by
  obtain ⟨_, _, h3, h4, _⟩ := isNum_parts s n h
  obtain ⟨_, h1, h2⟩ := h
  unfold tryB negB
  rw [h3]
  by_cases hn : n < 0
  · rw [if_pos (by rw [decide_eq_true_eq]; exact h4.2 hn)]
    unfold wrap64
    omega
  · rw [if_neg (by rw [decide_eq_true_eq]; exact fun e => hn (h4.1 e))]
    unfold wrap64
    omega
theorem no_num_digits (s : ByteArray) (h : digitsB (bareB s) = false) : ∀ n, ¬ IsNum s n := by
  intro n hn
  obtain ⟨h1, h2, _⟩ := isNum_parts s n hn
  rw [(digitsB_iff (bareB s)).2 ⟨h1, h2⟩] at h
  cases h
theorem no_num_try (s : ByteArray) (h : ¬ numB (tryB s) = s) : ∀ n, ¬ IsNum s n := by
  intro n hn
  apply h
  rw [try_is s n hn]
  exact hn.1
theorem bytes_ne' {a b : ByteArray} (h : ¬ a = b) : (a.toList == b.toList) = false := by
  rw [beq_eq_false_iff_ne, ByteArray.toList_eq, ByteArray.toList_eq]
  exact fun e => h (WideShapes.bytes_inj e)


theorem bareB_data (s : ByteArray) : (bareB s).data.toList = bareL s.data.toList := rfl
theorem negB_head (s : ByteArray) (h0 : 0 < s.size) : negB s = ((s[0].toNat : Int) == 45) := by
  unfold negB
  rw [head_get s h0]
  by_cases h : s[0] = 45
  · rw [h]; rfl
  · rw [decide_eq_false h]
    symm
    rw [beq_eq_false_iff_ne]
    intro e
    exact h (UInt8.toNat_inj.1 (by show s[0].toNat = 45; omega))
theorem bareB_tail (s : ByteArray) (h : negB s = true) : s.extract 1 s.size = bareB s := by
  apply WideShapes.bytes_inj
  rw [bareB_data, Lib.extract_to_end]
  unfold bareL
  rw [if_pos (by simpa [negB] using h), List.drop_one]
theorem bareB_self (s : ByteArray) (h : negB s = false) : bareB s = s := by
  apply WideShapes.bytes_inj
  rw [bareB_data]
  unfold bareL
  rw [if_neg (by simpa [negB] using h)]
theorem negB_nil (s : ByteArray) (h : ¬ 0 < s.size) : negB s = false := by
  obtain ⟨⟨l⟩⟩ := s
  cases l with
  | nil => rfl
  | cons a r => simp [ByteArray.size] at h
theorem no_num_long (s : ByteArray) (h : 19 < (bareB s).size) : ∀ n, ¬ IsNum s n := by
  intro n hn
  obtain ⟨_, _, _, _, h5⟩ := isNum_parts s n hn
  have : (bareB s).size = (bareL s.data.toList).length := rfl
  omega
theorem no_num_big (s : ByteArray) (k : Nat) (hd : DigL (bareB s).data.toList) (h : 9223372036854775808 < valL ((bareB s).data.toList.take k)) : ∀ n, ¬ IsNum s n := by
  intro n hn
  obtain ⟨_, _, h3, _, _⟩ := isNum_parts s n hn
  obtain ⟨_, h1, h2⟩ := hn
  have hm := valL_mono ((bareB s).data.toList.take k) ((bareB s).data.toList.drop k) (by rw [List.take_append_drop]; exact hd)
  rw [List.take_append_drop, bareB_data, h3] at hm
  rw [bareB_data] at h
  omega
theorem no_num_min (s : ByteArray) (hn : negB s = false) (h : valL (bareB s).data.toList = 9223372036854775808) : ∀ n, ¬ IsNum s n := by
  intro n hx
  obtain ⟨_, _, h3, h4, _⟩ := isNum_parts s n hx
  obtain ⟨_, h1, h2⟩ := hx
  rw [bareB_data, h3] at h
  have : ¬ n < 0 := fun e => by have h5 := h4.2 e; unfold negB at hn; rw [decide_eq_true h5] at hn; cases hn
  omega
/-- the int that spec.TextInt tries -/
theorem try_neg (s : ByteArray) (hn : negB s = true) (h0 : 0 ≤ valL (bareB s).data.toList) (h : valL (bareB s).data.toList ≤ 9223372036854775808) : -valL (bareB s).data.toList = tryB s := by
  rw [bareB_data] at h h0 ⊢
  unfold tryB
  rw [if_pos hn]
  unfold wrap64
  omega
theorem try_pos (s : ByteArray) (hn : negB s = false) (h0 : 0 ≤ valL (bareB s).data.toList) (h : valL (bareB s).data.toList ≤ 9223372036854775807) : valL (bareB s).data.toList = tryB s := by
  rw [bareB_data] at h h0 ⊢
  unfold tryB
  rw [if_neg (by simp [hn])]
  unfold wrap64
  omega
theorem take_all (t : ByteArray) : t.data.toList.take t.size = t.data.toList := List.take_of_length_le (Nat.le_refl _)
/-- the bound that the loop of spec.TextInt asks -/
theorem quo_bound (v d : Int) (hd : 0 ≤ d) (hd9 : d ≤ 9) : (-v < (-9223372036854775808 + d).tdiv 10) ↔ 9223372036854775808 < v * 10 + d := by
  have h := quo_rem (-9223372036854775808 + d) (by omega)
  omega






end Go.Proofs.YtecaghbakjalgaaDoor
