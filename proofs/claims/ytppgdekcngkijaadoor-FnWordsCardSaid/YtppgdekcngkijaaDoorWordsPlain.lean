/-
  Plain facts on texts: what is cut and joined again is as it was; how many pieces there are; the texts that FnWords makes.
-/
import Derived.Test.YtppgdekcngkijaaDoorCutWalks
import Derived.Test.YtppgdekcngkijaaDoorPadWalks
import Derived.Test.YtppgdekcngkijaaDoorTextInt
namespace Go.Proofs.YtppgdekcngkijaaDoor
open Go.RowKit

/-! ### cut and join -/
theorem joinTo_left (b : ByteArray) (l : List ByteArray) (x : ByteArray) : ∀ k, k ≤ l.length → joinTo b (l ++ [x]) k = joinTo b l k := by
  intro k
  induction k with
  | zero => intro _; rfl
  | succ k ih =>
    intro hk
    have e : (l ++ [x]).getD k ByteArray.empty = l.getD k ByteArray.empty := by
      rw [List.getD_eq_getElem?_getD, List.getD_eq_getElem?_getD, List.getElem?_append_left (by omega)]
    rw [joinTo, joinTo, ih (by omega), e]
/-- all parts with b between them -/
def joinL (b : ByteArray) (l : List ByteArray) : List UInt8 := joinTo b l l.length
theorem joinL_snoc (b : ByteArray) (l : List ByteArray) (x : ByteArray) : joinL b (l ++ [x]) = joinL b l ++ (if 0 < l.length then b.data.toList else []) ++ x.data.toList := by
  have e : (l ++ [x]).getD l.length ByteArray.empty = x := by simp
  unfold joinL
  rw [List.length_append, List.length_singleton, joinTo, joinTo_left b l x _ (Nat.le_refl _), e]
theorem extract_list (s : ByteArray) (a b : Nat) : (s.extract a b).data.toList = (s.data.toList.take b).drop a := by
  simp [ByteArray.data_extract, List.drop_take]
theorem cut_join_to (s : ByteArray) (c : UInt8) (k : Nat) (hk : k ≤ s.size) : joinL ⟨#[c]⟩ ((cutsTo s ⟨#[c]⟩ k).1 ++ [s.extract (cutsTo s ⟨#[c]⟩ k).2 k]) = s.data.toList.take k := by
  induction k with
  | zero => rw [joinL_snoc, extract_list]; simp [cutsTo, joinL, joinTo]
  | succ k ih =>
    have hlt : k < s.size := by omega
    have hle := (cutsTo_le s ⟨#[c]⟩ k).1
    have ih' := ih (by omega)
    rw [joinL_snoc, extract_list] at ih'
    have htk : s.data.toList.take (k + 1) = s.data.toList.take k ++ [s[k]] := by
      rw [List.take_succ_eq_append_getElem (by simpa using hlt)]
      rfl
    by_cases hh : hitB ⟨#[c]⟩ s[k] = true
    · have hc : s[k] = c := by simpa [hitB] using hh
      rw [cutsTo_hit s ⟨#[c]⟩ k hlt hh, joinL_snoc, joinL_snoc, extract_list, extract_list, ih', htk, hc]
      simp
      omega
    · rw [cutsTo_miss s ⟨#[c]⟩ k hlt (by simpa using hh), joinL_snoc, extract_list, htk, List.drop_append_of_le_length (by simp; omega), ← List.append_assoc, ih']
theorem join_cut (s : ByteArray) (c : UInt8) : joinB ⟨#[c]⟩ (cutAtB s ⟨#[c]⟩) = s := by
  apply WideShapes.bytes_inj
  have h := cut_join_to s c s.size (Nat.le_refl _)
  rw [take_all] at h
  exact h

/-! ### how many pieces -/
theorem cuts_count (s b : ByteArray) (k : Nat) (hk : k ≤ s.size) : (cutsTo s b k).1.length = (s.data.toList.take k).countP (hitB b) := by
  induction k with
  | zero => simp [cutsTo]
  | succ k ih =>
    have hlt : k < s.size := by omega
    have htk : s.data.toList.take (k + 1) = s.data.toList.take k ++ [s[k]] := by
      rw [List.take_succ_eq_append_getElem (by simpa using hlt)]
      rfl
    rw [htk, List.countP_append, ← ih (by omega)]
    by_cases hh : hitB b s[k] = true
    · rw [cutsTo_hit s b k hlt hh]; simp [hh]
    · rw [cutsTo_miss s b k hlt (by simpa using hh)]; simp [hh]
theorem cutAt_count (s b : ByteArray) : (cutAtB s b).length = s.data.toList.countP (hitB b) + 1 := by
  have h := cuts_count s b s.size (Nat.le_refl _)
  rw [take_all] at h
  rw [cutAtB, List.length_append, h]
  rfl
theorem cutAt_sizes (s b x : ByteArray) (h : x ∈ cutAtB s b) : x.size ≤ s.size := by
  have hx : ∀ k, ∀ y ∈ (cutsTo s b k).1, y.size ≤ s.size := by
    intro k
    induction k with
    | zero => intro y hy; simp [cutsTo] at hy
    | succ k ih =>
      intro y hy
      unfold cutsTo at hy
      split at hy
      · rcases List.mem_append.1 hy with hy | hy
        · exact ih y hy
        · rw [List.mem_singleton.1 hy, ByteArray.size_extract]; omega
      · exact ih y hy
  rcases List.mem_append.1 h with h | h
  · exact hx _ x h
  · rw [List.mem_singleton.1 h, ByteArray.size_extract]; omega
theorem lines_two (t : ByteArray) (h1 : t.data.toList.countP (hitB ⟨#[10]⟩) = 1) (h2 : 0 < t.size) (h3 : ∀ h : t.size - 1 < t.size, hitB ⟨#[10]⟩ t[t.size - 1] = false) : (linesB t).length = 2 := by
  have hst : (cutsTo t ⟨#[10]⟩ t.size).2 < t.size := by
    obtain ⟨m, hm⟩ : ∃ m, t.size = m + 1 := ⟨t.size - 1, by omega⟩
    have hlt : m < t.size := by omega
    have hmiss : hitB ⟨#[10]⟩ t[m] = false := by
      have := h3 (by omega)
      simpa [hm] using this
    rw [hm, cutsTo_miss t ⟨#[10]⟩ m hlt hmiss]
    have := (cutsTo_le t ⟨#[10]⟩ m).1
    omega
  have hne : ¬ (lastB t).toList.isEmpty = true := by
    rw [isEmpty_size, decide_eq_true_eq]
    unfold lastB
    rw [ByteArray.size_extract]
    omega
  have hc := cuts_count t ⟨#[10]⟩ t.size (Nat.le_refl _)
  rw [take_all, h1] at hc
  unfold linesB
  rw [if_neg hne, List.length_append]
  unfold firstB
  rw [hc]
  rfl

/-! ### the texts of FnWords -/
theorem itoa_mem (n : Int) (c : UInt8) (h : c ∈ Lib.itoa n) : c = 45 ∨ (48 ≤ c.toNat ∧ c.toNat ≤ 57) := by
  unfold Lib.itoa at h
  split at h
  · rcases List.mem_cons.1 h with h | h
    · exact .inl h
    · exact .inr ((dig_dec _).1 c h)
  · exact .inr ((dig_dec _).1 c h)
theorem itoa_none (n : Int) (b : UInt8) (hb : b ≠ 45) (hb2 : ¬ (48 ≤ b.toNat ∧ b.toNat ≤ 57)) : (Lib.itoa n).countP (hitB ⟨#[b]⟩) = 0 := by
  rw [List.countP_eq_zero]
  intro c hc hh
  have e : c = b := by simpa [hitB] using hh
  subst e
  rcases itoa_mem n c hc with h | h
  · exact hb h
  · exact hb2 h
/-- the text that FnWords cuts -/
def wordsB (n : Int) : ByteArray := numB n ++ ⟨#[32]⟩ ++ numB (-n) ++ ⟨#[32, 32, 120]⟩
theorem wordsB_list (n : Int) : (wordsB n).data.toList = Lib.itoa n ++ [32] ++ Lib.itoa (-n) ++ [32, 32, 120] := by
  simp [wordsB, numB]
theorem wordsB_pieces (n : Int) : (cutAtB (wordsB n) ⟨#[32]⟩).length = 4 := by
  rw [cutAt_count, wordsB_list, List.countP_append, List.countP_append, List.countP_append, itoa_none n 32 (by decide) (by decide), itoa_none (-n) 32 (by decide) (by decide)]
  rfl
theorem wordsB_size (n : Int) (h : n.natAbs < 10 ^ 7) : (wordsB n).size ≤ 20 := by
  have h1 := numB_size n 6 h
  have h2 := numB_size (-n) 6 (by omega)
  unfold wordsB
  rw [ByteArray.size_append, ByteArray.size_append, ByteArray.size_append]
  show (numB n).size + 1 + (numB (-n)).size + 3 ≤ 20
  omega
theorem wordsB_lines (n : Int) : (linesB (wordsB n ++ ⟨#[10]⟩ ++ wordsB n)).length = 2 := by
  have hl : (wordsB n ++ ⟨#[10]⟩ ++ wordsB n).data.toList = (wordsB n).data.toList ++ [10] ++ (wordsB n).data.toList := by simp
  have hz : (wordsB n).data.toList.countP (hitB ⟨#[10]⟩) = 0 := by
    rw [wordsB_list, List.countP_append, List.countP_append, List.countP_append, itoa_none n 10 (by decide) (by decide), itoa_none (-n) 10 (by decide) (by decide)]
    rfl
  refine lines_two _ (by rw [hl, List.countP_append, List.countP_append, hz]; rfl) (by rw [ByteArray.size_append, ByteArray.size_append]; show 0 < (wordsB n).size + 1 + _; omega) ?_
  intro h
  have hlast : (wordsB n ++ ⟨#[10]⟩ ++ wordsB n).data.toList.getLast? = some 120 := by
    rw [hl, List.getLast?_append, wordsB_list, List.getLast?_append]
    rfl
  have hg : (wordsB n ++ ⟨#[10]⟩ ++ wordsB n).data.toList.getLast? = some ((wordsB n ++ ⟨#[10]⟩ ++ wordsB n)[(wordsB n ++ ⟨#[10]⟩ ++ wordsB n).size - 1]) := by
    rw [List.getLast?_eq_getElem?]
    exact List.getElem?_eq_getElem h
  rw [hlast] at hg
  rw [← Option.some.inj hg]
  rfl
theorem numB_digits (n : Int) (h1 : -9223372036854775808 ≤ n) (h2 : n ≤ 9223372036854775807) : digitsB (numB n) = decide (0 ≤ n) := by
  by_cases h : n < 0
  · rw [decide_eq_false (by omega)]
    have hf : ¬ digitsB (numB n) = true := by
      rw [digitsB_iff]
      intro ⟨hd, _⟩
      have hm : (45 : UInt8) ∈ (numB n).data.toList := by
        show (45 : UInt8) ∈ Lib.itoa n
        unfold Lib.itoa
        rw [if_pos h]
        simp
      have := hd 45 hm
      simp at this
    simpa using hf
  · rw [decide_eq_true (by omega), digitsB_iff]
    have e : (numB n).data.toList = Lib.decDigits n.toNat := by
      show Lib.itoa n = _
      unfold Lib.itoa
      rw [if_neg h]
    rw [e]
    exact dig_dec _
theorem padB_size (s : ByteArray) (n : Int) : (padB s n).size = (n.toNat - s.size) + s.size := by
  show (padB s n).data.toList.length = _
  simp [padB]
theorem word_x : wordB (⟨#[120]⟩ ++ padB ⟨#[]⟩ 3) = true := by decide +kernel
end Go.Proofs.YtppgdekcngkijaaDoor
