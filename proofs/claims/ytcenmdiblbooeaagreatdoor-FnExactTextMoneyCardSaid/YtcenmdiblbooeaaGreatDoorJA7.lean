/-
  Amounts of money in plain words: what impl's ways of reckoning come to.
  A text in pieces, in plain words: cut at every byte that occurs in another one.
  Texts of amounts in plain words: how one is written, and what is read.
  Chapter 10 of package impl: what MoneyText returns.
  strings.Cut at a space.
  Chapter 10 of package impl: what TextMoney returns.
  Chapter 8 of package spec: DecText.
  Chapter 10 of package spec: what MoneyText returns.
  Chapter 8 of package spec: DecAdd, DecSub, DecMul, DecCmp.
  Chapter 8 of package spec: TextDec.
  What spec.CutAt and impl.CutAt return: the same pieces, in a row of new memory.
  Chapter 10 of package spec: what TextMoney returns.
-/
import Derived.Lib.IndexLaws
import Derived.Deep.RegionHeld3
import Derived.Deep.DeepCutAuto
import Derived.IntWalk
import Derived.Test.YtcenmdiblbooeaaGreatDoorJA6
namespace Go.Proofs.YtcenmdiblbooeaaGreatDoor
open Go.RowKit

theorem negS_parts {x : SI} (h : okS x = true) : negS x = (decide (0 < cmpS x zeroS), x.2) := by
  have e := okS_ofZ h
  have hl : (limbs (valS x).natAbs).length ≤ 50 := by
    by_cases hl : (limbs (valS x).natAbs).length ≤ 50
    · exact hl
    · have e2 := e.symm.trans (ofZ_big hl)
      subst e2
      rw [zeroS_val, show (0 : Int).natAbs = 0 from rfl, show limbs 0 = [] by rw [limbs, dif_pos rfl]]
      decide
  have e2 : limbs (valS x).natAbs = x.2 := by
    unfold ofZ at e
    rw [if_pos hl] at e
    exact congrArg Prod.snd e
  unfold negS cmpS
  rw [if_pos h, if_pos ⟨h, zeroS_ok⟩, zeroS_val]
  unfold ofZ
  rw [Int.natAbs_neg, if_pos hl, e2]
  congr 1
  unfold cmpI
  rw [decide_eq_decide]
  split
  · omega
  · split <;> omega
theorem addS_zeroL {x : SI} (h : okS x = true) : addS zeroS x = x := by
  unfold addS
  rw [if_pos ⟨zeroS_ok, h⟩, zeroS_val, Int.zero_add, okS_ofZ h]
theorem okM_parts {m : MI} (h : okM m = true) : knownC m.1 = true ∧ okS m.2 = true ∧ m.2.2.length ≤ 4 := by
  unfold okM at h
  rw [Bool.and_eq_true, Bool.and_eq_true, decide_eq_true_eq] at h
  exact ⟨h.1.1, h.1.2, h.2⟩
theorem okM_of {m : MI} (h1 : knownC m.1 = true) (h2 : okS m.2 = true) (h3 : m.2.2.length ≤ 4) : okM m = true := by
  unfold okM
  rw [h1, h2, decide_eq_true h3]
  rfl
theorem bothM_parts {m n : MI} (h : bothM m n = true) : okM m = true ∧ okM n = true ∧ m.1 = n.1 := by
  unfold bothM at h
  rw [Bool.and_eq_true, Bool.and_eq_true, decide_eq_true_eq] at h
  exact ⟨h.1.1, h.1.2, h.2⟩
theorem knownC_empty : knownC ⟨#[]⟩ = false := by decide +kernel
theorem okM_zero : okM zeroM = false := by
  unfold okM
  rw [show knownC zeroM.1 = false from knownC_empty]
  rfl
theorem okM_negS {m : MI} (h : okM m = true) : okM (m.1, negS m.2) = true := by
  obtain ⟨h1, h2, h3⟩ := okM_parts h
  refine okM_of h1 (negS_ok _) ?_
  show (negS m.2).2.length ≤ 4
  rw [negS_parts h2]
  exact h3
theorem negM_good {m : MI} (h : okM m = true) : negM m = ((m.1, (decide (0 < cmpS m.2 zeroS), m.2.2)), true) := by
  unfold negM makeM
  rw [if_pos h, if_pos (okM_negS h), negS_parts (okM_parts h).2.1]
theorem negM_bad {m : MI} (h : ¬ okM m = true) : negM m = (zeroM, false) := by unfold negM; rw [if_neg h]
theorem negM_len {m : MI} (h : m.2.2.length ≤ 1048576) : (negM m).1.2.2.length ≤ 1048576 := by
  by_cases hk : okM m = true
  · rw [negM_good hk]; exact h
  · rw [negM_bad hk]; exact Nat.zero_le _
theorem sub_neg (m n : MI) : addM m (negM n).1 = subM m n := by
  by_cases h : okM n = true
  · have hp := okM_parts h
    have e : (negM n).1 = (n.1, negS n.2) := by rw [negM_good h, negS_parts hp.2.1]
    rw [e]
    unfold addM subM
    rw [show bothM m (n.1, negS n.2) = bothM m n by unfold bothM; rw [okM_negS h, h]]
    by_cases hb : bothM m n = true
    · rw [if_pos hb, if_pos hb]
      have hm := (okM_parts (bothM_parts hb).1).2.1
      show makeM m.1 (addS m.2 (negS n.2)) = makeM m.1 (subS m.2 n.2)
      congr 1
      unfold addS subS
      rw [if_pos ⟨hm, negS_ok _⟩, if_pos ⟨hm, hp.2.1⟩, negS_val hp.2.1, Int.sub_eq_add_neg]
    · rw [if_neg hb, if_neg hb]
  · rw [negM_bad h]
    unfold addM subM
    rw [if_neg (by unfold bothM; rw [okM_zero, Bool.and_false, Bool.false_and]; decide), if_neg (fun hb => h (bothM_parts hb).2.1)]
theorem okM_size {m : MI} (h : okM m = true) : m.1.size ≤ 3 := by
  obtain ⟨r, hr, e, _⟩ := known_row (okM_parts h).1
  rw [← e]
  have h : (specT.all fun r => decide (r.1.size ≤ 3)) = true := by decide +kernel
  exact of_decide_eq_true (List.all_eq_true.1 h r hr)
theorem makeM_sz (cu : ByteArray) (x : SI) : szM (makeM cu x).1 ≤ 1048576 := by
  unfold makeM
  split
  · rename_i h
    have h1 := okM_size h
    have h2 := (okM_parts h).2.2
    dsimp only at h1 h2
    unfold szM szS szI
    dsimp only
    omega
  · decide
theorem addM_sz (m n : MI) : szM (addM m n).1 ≤ 1048576 := by unfold addM; split; exact makeM_sz _ _; decide
theorem subM_sz (m n : MI) : szM (subM m n).1 ≤ 1048576 := by unfold subM; split; exact makeM_sz _ _; decide
theorem negM_sz (m : MI) : szM (negM m).1 ≤ 1048576 := by unfold negM; split; exact makeM_sz _ _; decide
theorem timesM_sz (m : MI) (k : Int) : szM (timesM m k).1 ≤ 1048576 := by unfold timesM; split; exact makeM_sz _ _; decide
end Go.Proofs.YtcenmdiblbooeaaGreatDoor

namespace Go.Proofs.YtcenmdiblbooeaaGreatDoor
open Go.RowKit

/-- does the byte occur in by -/
def hitB (by_ : ByteArray) (c : UInt8) : Bool := by_.data.toList.contains c
/-- the pieces that the first k bytes of s end, and where the next piece begins -/
def cutsTo (s by_ : ByteArray) : Nat → List ByteArray × Nat
  | 0 => ([], 0)
  | k + 1 => if hitB by_ (s.data.toList.getD k 0) then ((cutsTo s by_ k).1 ++ [s.extract (cutsTo s by_ k).2 k], k + 1) else cutsTo s by_ k
def cutAtB (s by_ : ByteArray) : List ByteArray := (cutsTo s by_ s.size).1 ++ [s.extract (cutsTo s by_ s.size).2 s.size]

theorem cutsTo_le (s by_ : ByteArray) (k : Nat) : (cutsTo s by_ k).2 ≤ k ∧ (cutsTo s by_ k).1.length ≤ k := by
  induction k with
  | zero => simp [cutsTo]
  | succ k ih =>
    unfold cutsTo
    split
    · simp; omega
    · omega
theorem getD_get (s : ByteArray) (k : Nat) (h : k < s.size) : s.data.toList.getD k 0 = s[k] := by
  rw [List.getD_eq_getElem?_getD, List.getElem?_eq_getElem (by simpa using h)]
  rfl
theorem cutsTo_hit (s by_ : ByteArray) (k : Nat) (h : k < s.size) (hh : hitB by_ s[k] = true) : cutsTo s by_ (k + 1) = ((cutsTo s by_ k).1 ++ [s.extract (cutsTo s by_ k).2 k], k + 1) := by
  rw [cutsTo, getD_get s k h, if_pos hh]
theorem cutsTo_miss (s by_ : ByteArray) (k : Nat) (h : k < s.size) (hh : hitB by_ s[k] = false) : cutsTo s by_ (k + 1) = cutsTo s by_ k := by
  rw [cutsTo, getD_get s k h, if_neg (by simp [hh])]
theorem index_hit (l : List UInt8) (c : UInt8) : (0 ≤ Lib.indexByte l c) ↔ l.contains c = true := by
  induction l with
  | nil => simp [Lib.indexByte]
  | cons b l ih =>
    have hg := Lib.indexByte_ge l c
    unfold Lib.indexByte
    by_cases hbc : b = c
    · simp [hbc]
    · have hne : (b == c) = false := by simpa using hbc
      rw [hne, List.contains_cons]
      have hne' : (c == b) = false := by simpa using fun e => hbc e.symm
      rw [hne', Bool.false_or, ← ih]
      by_cases hm : Lib.indexByte l c = -1
      · simp [hm]
      · simp [hm]; omega
end Go.Proofs.YtcenmdiblbooeaaGreatDoor

namespace Go.Proofs.YtcenmdiblbooeaaGreatDoor
open Go.RowKit

def textM (m : MI) : ByteArray := if okM m = true then m.1 ++ ⟨#[32]⟩ ++ textD (m.2, placesC m.1) else ⟨#[]⟩
theorem textM_size (m : MI) : (textM m).size ≤ 106 := by
  unfold textM
  split
  · rename_i h
    have h1 := okM_size h
    have h2 := textD_size (m.2, placesC m.1)
    rw [ByteArray.size_append, ByteArray.size_append]
    show m.1.size + 1 + _ ≤ 106
    omega
  · decide
/-! ### a text at its first space -/
def spaceAt (s : ByteArray) : Int := Lib.indexByte s.data.toList 32
def hdM (s : ByteArray) : ByteArray := if spaceAt s < 0 then s else s.extract 0 (spaceAt s).toNat
def tlM (s : ByteArray) : ByteArray := if spaceAt s < 0 then ⟨#[]⟩ else s.extract ((spaceAt s).toNat + 1) s.size
/-- what is read -/
def readM (s : ByteArray) : MI := (hdM s, (trD (tlM s)).1.1)
def trM (s : ByteArray) : MI × Bool := if (trD (tlM s)).2 = true ∧ textM (readM s) = s then (readM s, true) else (zeroM, false)
theorem trM_bad1 {s : ByteArray} (h : (trD (tlM s)).2 = false) : trM s = (zeroM, false) := by
  unfold trM
  rw [if_neg]
  rintro ⟨h1, _⟩
  rw [h] at h1
  cases h1
theorem trM_bad2 {s : ByteArray} (h : ¬ textM (readM s) = s) : trM s = (zeroM, false) := by
  unfold trM
  rw [if_neg (fun hp => h hp.2)]
theorem trM_good {s : ByteArray} (h : (trD (tlM s)).2 = true) (h2 : textM (readM s) = s) : trM s = (readM s, true) := by
  unfold trM
  rw [if_pos ⟨h, h2⟩]
theorem textD_pos {d : DI} (h : okD d = true) : ¬ textD d = ⟨#[]⟩ := by
  obtain ⟨n, m, b⟩ := body_of h
  have hb := b.long
  intro e
  have h6 := congrArg List.length (text_list h)
  rw [e, List.length_append] at h6
  have h7 : 1 ≤ (if 0 < d.2 then (bodyD d).data.toList.take ((bodyD d).size - d.2.toNat) ++ 46 :: (bodyD d).data.toList.drop ((bodyD d).size - d.2.toNat) else (bodyD d).data.toList).length := by
    split
    · rw [List.length_append, List.length_cons]; omega
    · rw [listB_len]; omega
  have h8 : ((⟨#[]⟩ : ByteArray).data.toList).length = 0 := rfl
  rw [h8] at h6
  omega
theorem trD_none : (trD ⟨#[]⟩).2 = false := by
  cases e : (trD ⟨#[]⟩).2 with
  | false => rfl
  | true =>
    obtain ⟨h1, h2⟩ := trD_yes e
    exact absurd h2 (textD_pos h1)
theorem trM_sz (s : ByteArray) : szM (trM s).1 ≤ 1048576 := by
  unfold trM
  split
  · rename_i h
    obtain ⟨h1, h2⟩ := h
    by_cases hk : okM (readM s) = true
    · have h3 := (okM_parts hk).2.2
      have h4 := okM_size hk
      unfold szM szS szI
      dsimp only
      omega
    · exfalso
      have e : s = ⟨#[]⟩ := by rw [← h2]; unfold textM; rw [if_neg hk]
      subst e
      have h4 : tlM ⟨#[]⟩ = ⟨#[]⟩ := by decide
      rw [h4, trD_none] at h1
      cases h1
  · decide
theorem dig_noM {l : List UInt8} (h : DigL l) : ∀ c ∈ l, c ≠ 32 := fun c hc e => by
  subst e
  exact absurd (h _ hc).1 (by decide)
theorem textD_nospace {d : DI} (h : okD d = true) : ∀ c ∈ (textD d).data.toList, c ≠ 32 := by
  obtain ⟨n, m, b⟩ := body_of h
  rw [text_list h]
  intro c hc
  rcases List.mem_append.1 hc with hc | hc
  · split at hc
    · rw [List.mem_singleton.1 hc]; decide
    · exact absurd hc List.not_mem_nil
  · split at hc
    · rcases List.mem_append.1 hc with hc | hc
      · exact dig_noM b.dig c (List.mem_of_mem_take hc)
      · rcases List.mem_cons.1 hc with rfl | hc
        · decide
        · exact dig_noM b.dig c (List.mem_of_mem_drop hc)
    · exact dig_noM b.dig c hc
theorem trD_space {s : ByteArray} (h : 32 ∈ s.data.toList) : (trD s).2 = false := by
  cases e : (trD s).2 with
  | false => rfl
  | true =>
    obtain ⟨h1, h2⟩ := trD_yes e
    rw [← h2] at h
    exact absurd rfl (textD_nospace h1 32 h)
/-! ### the pieces at every space -/
theorem hit32 (c : UInt8) : hitB ⟨#[32]⟩ c = decide (c = 32) := by
  unfold hitB
  show List.contains [32] c = _
  by_cases h : c = 32
  · subst h; decide
  · rw [decide_eq_false h]
    simp [h]
theorem cuts_none (s : ByteArray) (k : Nat) (h : ∀ j, j < k → ¬ s.data.toList.getD j 0 = 32) : cutsTo s ⟨#[32]⟩ k = ([], 0) := by
  induction k with
  | zero => rfl
  | succ k ih =>
    unfold cutsTo
    rw [hit32, decide_eq_false (h k (by omega)), if_neg (by decide)]
    exact ih fun j hj => h j (by omega)
theorem cuts_some (s : ByteArray) (o : Nat) (h : ∀ j, j < o → ¬ s.data.toList.getD j 0 = 32) (ho : s.data.toList.getD o 0 = 32) (k : Nat) :
    (cutsTo s ⟨#[32]⟩ (o + 1 + k) = ([s.extract 0 o], o + 1)) ∨ (2 ≤ (cutsTo s ⟨#[32]⟩ (o + 1 + k)).1.length ∧ ∃ j, o < j ∧ j < o + 1 + k ∧ s.data.toList.getD j 0 = 32) := by
  induction k with
  | zero =>
    left
    show cutsTo s ⟨#[32]⟩ (o + 1) = _
    unfold cutsTo
    rw [hit32, decide_eq_true ho, if_pos rfl, cuts_none s o h]
    rfl
  | succ k ih =>
    show (cutsTo s ⟨#[32]⟩ (o + 1 + k + 1) = _) ∨ _
    have e : cutsTo s ⟨#[32]⟩ (o + 1 + (k + 1)) = if hitB ⟨#[32]⟩ (s.data.toList.getD (o + 1 + k) 0) then ((cutsTo s ⟨#[32]⟩ (o + 1 + k)).1 ++ [s.extract (cutsTo s ⟨#[32]⟩ (o + 1 + k)).2 (o + 1 + k)], o + 1 + k + 1) else cutsTo s ⟨#[32]⟩ (o + 1 + k) := rfl
    rw [hit32] at e
    by_cases hc : s.data.toList.getD (o + 1 + k) 0 = 32
    · rw [decide_eq_true hc, if_pos rfl] at e
      right
      rw [e]
      refine ⟨?_, o + 1 + k, by omega, by omega, hc⟩
      rcases ih with h1 | ⟨h1, _⟩
      · rw [h1]; simp
      · simp; omega
    · rw [decide_eq_false hc, if_neg (by decide)] at e
      rcases ih with h1 | ⟨h1, j, h2, h3, h4⟩
      · left; exact e.trans h1
      · right
        rw [e]
        exact ⟨h1, j, h2, by omega, h4⟩
theorem space_lt {s : ByteArray} {o : Nat} (h : spaceAt s = o) : o < s.size := by
  obtain ⟨h1, _⟩ := Lib.indexByte_some h
  have := (List.getElem?_eq_some_iff.1 h1).1
  rw [listB_len] at this
  exact this
theorem space_cases (s : ByteArray) : spaceAt s = -1 ∨ ∃ o : Nat, spaceAt s = o ∧ o < s.size := by
  have h := Lib.indexByte_ge s.data.toList 32
  by_cases e : spaceAt s = -1
  · exact .inl e
  · have ho : spaceAt s = ((spaceAt s).toNat : Nat) := by unfold spaceAt at *; omega
    exact .inr ⟨_, ho, space_lt ho⟩
theorem space_no (l : List UInt8) (h : Lib.indexByte l 32 = -1) : ∀ c ∈ l, c ≠ 32 := by
  intro c hc e
  subst e
  have := (index_hit l 32).2 (List.contains_iff_mem.2 hc)
  omega
/-- either the text is two pieces, or it is not read -/
theorem cut_two (s : ByteArray) : (cutAtB s ⟨#[32]⟩ = [hdM s, tlM s] ∧ ¬ s = ⟨#[]⟩) ∨ (¬ (cutAtB s ⟨#[32]⟩).length = 2 ∧ trM s = (zeroM, false)) := by
  rcases space_cases s with h | ⟨o, h, ho⟩
  · right
    have hn := space_no _ h
    have e := cuts_none s s.size (fun j hj he => hn _ (getD_mem (l := s.data.toList) hj) he)
    refine ⟨?_, trM_bad1 ?_⟩
    · unfold cutAtB
      rw [e]
      simp
    · rw [show tlM s = ⟨#[]⟩ by unfold tlM; rw [if_pos (by omega)]]
      exact trD_none
  · obtain ⟨h1, h2⟩ := Lib.indexByte_some h
    have hb : ∀ j, j < o → ¬ s.data.toList.getD j 0 = 32 := fun j hj he => h2 j hj (by
      rw [← he, List.getD_eq_getElem?_getD, List.getElem?_eq_getElem (by rw [listB_len]; omega)]
      rfl)
    have hc := cuts_some s o hb (getD_of h1) (s.size - (o + 1))
    rw [show o + 1 + (s.size - (o + 1)) = s.size by omega] at hc
    have eh : hdM s = s.extract 0 o := by unfold hdM; rw [if_neg (by omega), h, Int.toNat_natCast]
    have et : tlM s = s.extract (o + 1) s.size := by unfold tlM; rw [if_neg (by omega), h, Int.toNat_natCast]
    rcases hc with hc | ⟨hc, j, j1, j2, j3⟩
    · left
      refine ⟨?_, fun e => by subst e; exact absurd ho (Nat.not_lt_zero _)⟩
      unfold cutAtB
      rw [hc, eh, et]
      rfl
    · right
      refine ⟨?_, trM_bad1 (trD_space ?_)⟩
      · unfold cutAtB
        rw [List.length_append]
        simp
        omega
      · rw [et, extract_listD, List.take_of_length_le (Nat.le_of_eq (listB_len s))]
        refine List.mem_of_getElem? (i := j - (o + 1)) ?_
        rw [List.getElem?_drop, show o + 1 + (j - (o + 1)) = j by omega, List.getElem?_eq_getElem (by rw [listB_len]; omega)]
        rw [List.getD_eq_getElem?_getD, List.getElem?_eq_getElem (by rw [listB_len]; omega)] at j3
        exact congrArg some j3
/-- spec's reading of two pieces -/
theorem read_no {s : ByteArray} (hs : ¬ s = ⟨#[]⟩) (h : (makeM (hdM s) (trD (tlM s)).1.1).2 = false) : trM s = (zeroM, false) := by
  refine trM_bad2 fun e => hs ?_
  rw [← e]
  unfold textM
  rw [if_neg]
  intro hk
  unfold makeM at h
  rw [if_pos (show okM (hdM s, (trD (tlM s)).1.1) = true from hk)] at h
  cases h
theorem read_yes {s : ByteArray} (h : (makeM (hdM s) (trD (tlM s)).1.1).2 = true) : makeM (hdM s) (trD (tlM s)).1.1 = (readM s, true) := by
  unfold makeM at h ⊢
  split at h
  · rw [if_pos (by assumption)]; rfl
  · cases h
end Go.Proofs.YtcenmdiblbooeaaGreatDoor

namespace Go.Proofs.YtcenmdiblbooeaaGreatDoor
open Go.RowKit

theorem join_two (A B : ByteArray) : joinB ⟨#[32]⟩ [A, B] = A ++ ⟨#[32]⟩ ++ B := by
  apply ByteArray.ext
  simp [joinB, joinTo]
theorem two_smallM {A B : ByteArray} (h1 : A.size ≤ 1048576) (h2 : B.size ≤ 1048576) : ∀ s ∈ [A, B], s.size ≤ 1048576 := fun s hs => by
  simp at hs
  rcases hs with rfl | rfl
  · exact h1
  · exact h2
theorem join2_at (A B T0 : ByteArray) (g : Nat) (W : World) (T : TypeId) (h1 : A.size ≤ 1048576) (h2 : B.size ≤ 1048576) (hT : A ++ ⟨#[32]⟩ ++ B = T0) (hb : BoxAt g #[.string A, .string B] T W) :
    Calls Tryz.prog 37 #[.slice (some ⟨g, 0, none⟩) 2 2, .string ⟨#[32]⟩] W (PostT T0 W) := by
  have h := implJoin_any (.slice (some ⟨g, 0, none⟩) 2 2) ⟨#[32]⟩ [A, B] 0 _ W (Nat.le_refl _) (by simp) (by decide) (two_smallM h1 h2) (box_rowD hb)
  rw [join_two, hT] at h
  exact h
theorem postT_isM {a b : ByteArray} (h : a = b) {w w' : World} {e : Ending} (k : PostT a w e w') : PostT b w e w' := h ▸ k
theorem eq_boxed {cs ds : Array Value} (e : ds = cs) (w : World) : At [] ((fun (v : Value) (_ : World) => v = .agg cs) (.agg ds)) w := ⟨by rw [e], fun _ h => absurd h List.not_mem_nil, fun _ _ => by rw [e]⟩
set_option maxHeartbeats 4000000 in
set_option maxRecDepth 100000 in
theorem implMoneyText_any (vm : Value) (m : MI) (w : World) (hl : m.2.2.length ≤ 1048576) (hm : OwnM vm m w) (ht : CurTab w) (hd : Tab w) :
    Calls Tryz.prog 8 #[vm] w (PostT (textM m) w) := by
  have Hm := Lib.hid hm
  obtain ⟨Am, cm, rfl⟩ := ownM_form hm
  have OMm := Lib.hid (show ∀ W, Below w.heap.size w W → OwnM (.agg #[.string m.1, .bool m.2.1, .slice Am m.2.2.length cm]) m W from fun W hb => OwnM.below Hm.out hb)
  have OIm := Lib.hid (show ∀ W, Below w.heap.size w W → OwnI (.slice Am m.2.2.length cm) m.2.2 W from fun W hb => ownM_open (OMm.out W hb))
  have OSm := Lib.hid (show ∀ W, Below w.heap.size w W → OwnS (.agg #[.bool m.2.1, .slice Am m.2.2.length cm]) m.2 W from fun W hb => OwnS.mk (OIm.out W hb))
  clear hm
  have HT := Lib.hid ht
  clear ht
  have HD := Lib.hid hd
  clear hd
  have bb0 : Below w.heap.size w (w.alloc (.cells #[.string m.1, .bool m.2.1, .slice Am m.2.2.length cm] 27)) := below_al (Below.refl _ _) _
  have km := (box_new w #[.string m.1, .bool m.2.1, .slice Am m.2.2.length cm] 27)
  go_enter Tryz.func8, Tryz.ntmps8
  have km_c0 := km.here.cell 0 _ rfl
  have km_c1 := km.here.cell 1 _ rfl
  have km_c2 := km.here.cell 2 _ rfl
  go_wp2_with fail
  clear km_c0 km_c1 km_c2
  refine (implMoneyOk_any _ m _ hl (OMm.out _ bb0) (HT.out.below bb0)).mono ?_
  rintro e w1 ⟨rfl, b1⟩
  have bb1 := Below.next bb0 b1
  replace km := km.below b1
  by_cases ok : okM m = true
  · rw [ok]
    obtain ⟨T, hT⟩ : ∃ T, textD (m.2, placesC m.1) = T := ⟨_, rfl⟩
    have ET := Lib.hid hT
    have HV := Lib.hid (show m.1 ++ ⟨#[32]⟩ ++ T = textM m by unfold textM; rw [if_pos ok, hT])
    have hs1 : m.1.size ≤ 1048576 := by have := okM_size ok; omega
    have hs2 : T.size ≤ 1048576 := by rw [← hT]; have := textD_size (m.2, placesC m.1); omega
    clear ok hT
    have km_c0 := km.here.cell 0 _ rfl
    have km_c1 := km.here.cell 1 _ rfl
    have km_c2 := km.here.cell 2 _ rfl
    go_upto_region 3 with fail
    go_cut [3] (fun s wx => NewLocV 67 (fun (v : Value) (_ : World) => v = .agg #[.bool m.2.1, .slice Am m.2.2.length cm, .int .i64 (placesC m.1)]) w1 s wx)
    case first =>
      have hlk := km.lt w.heap.size (by simp)
      have hne1 : ¬ w1.heap.size = w.heap.size := by omega
      have hne2 : ¬ w.heap.size = w1.heap.size := by omega
      have BB := Lib.hid bb1
      have HKM := Lib.hid (show ∀ W, Below w1.heap.size w1 W → At [w.heap.size] (BoxAt w.heap.size #[.string m.1, .bool m.2.1, .slice Am m.2.2.length cm] 27) W from fun W hb => km.below hb)
      have HK2 := HKM
      go_region_with (go_at_call 36; (first
        | (refine (implCurPlaces_any m.1 _ (HT.out.below (below_al (Below.drew1 BB.out) (.cells #[.bool false, .slice none 0 0, .int .i64 0] 67)))).mono ?_; rintro e wc ⟨rfl, bc⟩; have HBC := Lib.hid (Below.next (below_al (Below.drew1 (Below.refl _ _)) _) bc : Below w1.heap.size w1 wc); have hbxf : At [w1.heap.size] (BoxAt w1.heap.size #[.bool false, .slice none 0 0, .int .i64 0] 67) wc := At.below (box_new w1.drew #[.bool false, .slice none 0 0, .int .i64 0] 67) bc; have HGB := Lib.hid (show w1.heap.size < (w1.drew.alloc (.cells #[.bool false, .slice none 0 0, .int .i64 0] 67)).heap.size from (box_new w1.drew #[.bool false, .slice none 0 0, .int .i64 0] 67).lt _ (List.mem_singleton.2 rfl)); have cz0 := hbxf.here.cell 0 _ rfl; have cz1 := hbxf.here.cell 1 _ rfl; have cz2 := hbxf.here.cell 2 _ rfl; have fz0 := Lib.frozen_of_heap hbxf.here 0; have fz1 := Lib.frozen_of_heap hbxf.here 1; have fz2 := Lib.frozen_of_heap hbxf.here 2; clear bc; (have kmc := HKM.out _ HBC.out; have dm0 := kmc.here.cell 0 _ rfl; have dm1 := kmc.here.cell 1 _ rfl; have dm2 := kmc.here.cell 2 _ rfl; have hlc := kmc.lt w.heap.size (by simp); have hnc2 : ¬ w.heap.size = wc.heap.size := Nat.ne_of_lt hlc; have hnc1 : ¬ wc.heap.size = w.heap.size := fun e => Nat.ne_of_lt hlc e.symm; clear kmc))
        | (refine (implCurPlaces_any m.1 _ (HT.out.below (Below.drew1 BB.out))).mono ?_; rintro e wc ⟨rfl, bc⟩; have HBC := Lib.hid (Below.next (Below.drew1 (Below.refl _ _)) bc : Below w1.heap.size w1 wc); clear bc; (have kmc := HKM.out _ HBC.out; have dm0 := kmc.here.cell 0 _ rfl; have dm1 := kmc.here.cell 1 _ rfl; have dm2 := kmc.here.cell 2 _ rfl; have hlc := kmc.lt w.heap.size (by simp); have hnc2 : ¬ w.heap.size = wc.heap.size := Nat.ne_of_lt hlc; have hnc1 : ¬ wc.heap.size = w.heap.size := fun e => Nat.ne_of_lt hlc e.symm; clear kmc))))
      all_goals (go_wp2_with fail; go_meet; first | exact newLocV_last (W1 := w1) (eq_boxed rfl _) (fun _ hi => absurd hi List.not_mem_nil) (Nat.le_refl _) HBC.out | exact newLocV_early3 hbxf.here (eq_boxed rfl _) (fun _ hi => absurd hi List.not_mem_nil) (Nat.le_refl _) HGB.out HBC.out)
    rename World => w2
    clear km_c0 km_c1 km_c2
    obtain ⟨gn, csn, Sn, rfl, kn, on, nn, ln, b2⟩ := hcut
    have en := on.here
    injection en with en
    subst en
    clear on nn ln
    have bb2 := Below.next bb1 b2
    replace km := km.below b2
    have km_c0 := km.here.cell 0 _ rfl
    have km_c1 := km.here.cell 1 _ rfl
    have km_c2 := km.here.cell 2 _ rfl
    have kn_c0 := kn.here.cell 0 _ rfl
    have kn_c1 := kn.here.cell 1 _ rfl
    have kn_c2 := kn.here.cell 2 _ rfl
    go_wp2_with fail
    have HC0 := Lib.hid (show Chg [] w2 w2.drew from (Chg.refl _ _).drew1)
    have HCr := Lib.hid (show Chg [] w2 w2 from Chg.refl _ _)
    have KL := Lib.hid (show ∀ W, Chg [] w2 W → W.cell? ⟨w.heap.size, 0, none⟩ = some (.string m.1) ∧ W.cell? ⟨w.heap.size, 1, none⟩ = some (.bool m.2.1) ∧ W.cell? ⟨w.heap.size, 2, none⟩ = some (.slice Am m.2.2.length cm) ∧ W.cell? ⟨gn, 0, none⟩ = some (.bool m.2.1) ∧ W.cell? ⟨gn, 1, none⟩ = some (.slice Am m.2.2.length cm) ∧ W.cell? ⟨gn, 2, none⟩ = some (.int .i64 (placesC m.1)) ∧ Hid (Chg [] w2 W) from fun W hc => ⟨(km.chg hc (fun i hi hm => by simp at hm)).here.cell 0 _ rfl, (km.chg hc (fun i hi hm => by simp at hm)).here.cell 1 _ rfl, (km.chg hc (fun i hi hm => by simp at hm)).here.cell 2 _ rfl, (kn.chg hc (fun i hi hm => by simp at hm)).here.cell 0 _ rfl, (kn.chg hc (fun i hi hm => by simp at hm)).here.cell 1 _ rfl, (kn.chg hc (fun i hi hm => by simp at hm)).here.cell 2 _ rfl, Lib.hid hc⟩)
    have BBF := Lib.hid (show ∀ W, Chg [] w2 W → Below w.heap.size w W from fun W hc => below_chg bb2 hc bb2.size (fun i hi => by simp at hi))
    clear km_c0 km_c1 km_c2 kn_c0 kn_c1 kn_c2
    go_region_held3 (fun W => W.cell? ⟨w.heap.size, 0, none⟩ = some (.string m.1) ∧ W.cell? ⟨w.heap.size, 1, none⟩ = some (.bool m.2.1) ∧ W.cell? ⟨w.heap.size, 2, none⟩ = some (.slice Am m.2.2.length cm) ∧ W.cell? ⟨gn, 0, none⟩ = some (.bool m.2.1) ∧ W.cell? ⟨gn, 1, none⟩ = some (.slice Am m.2.2.length cm) ∧ W.cell? ⟨gn, 2, none⟩ = some (.int .i64 (placesC m.1)) ∧ Hid (Chg [] w2 W))
      ((refine KL.out _ ?_; (first | exact HC4.out | exact HC3.out | exact HCr.out | exact HC0.out | exact HC4.out.drew1 | exact HC3.out.drew1 | exact HCr.out.drew1 | exact HC0.out.drew1 | exact HC4.out.trans (Chg.of_below (below_al (Below.refl _ _) _)) | exact HC3.out.trans (Chg.of_below (below_al (Below.refl _ _) _)) | exact HCr.out.trans (Chg.of_below (below_al (Below.refl _ _) _)) | exact HC0.out.trans (Chg.of_below (below_al (Below.refl _ _) _)) | fail)))
      (first
        | (go_at_call 38; (have hBB := (‹_ ∧ _ ∧ _ ∧ _ ∧ _ ∧ _ ∧ Hid (Chg [] w2 _)›).2.2.2.2.2.2); (with_reducible refine ((implDecText_any _ (m.2, placesC m.1) _ hl (OwnD.mk (q := (m.2, placesC m.1)) (OIm.out _ (BBF.out _ hBB.out))) (HD.out.below (BBF.out _ hBB.out))).mono fun _ _ h => postT_isM ET.out h).mono ?_); rintro e w3 ⟨rfl, b3⟩; have HC3 := Lib.hid (hBB.out.trans (Chg.of_below b3)); have HBZ3 := Lib.hid hBB.out.size; clear hBB)
        | (go_at_call 37; (have hBB := (‹_ ∧ _ ∧ _ ∧ _ ∧ _ ∧ _ ∧ Hid (Chg [] w2 _)›).2.2.2.2.2.2); (with_reducible refine (join2_at m.1 T (textM m) _ _ _ hs1 hs2 HV.out (by first | exact (box_new _ _ 9).here | exact box_drewD (box_new _ _ 9).here)).mono ?_); rintro e w4 ⟨rfl, b4⟩; have HC4 := Lib.hid (hBB.out.trans (Chg.of_below b4)); have HBZ4 := Lib.hid hBB.out.size; clear hBB))
    all_goals
      have bb4 := BBF.out _ HC4.out
      replace km := km.chg HC4.out (fun i hi hm => by simp at hm)
      replace kn := kn.chg HC4.out (fun i hi hm => by simp at hm)
      go_wp2
      go_ret
      exact ⟨rfl, bb4⟩
  · have ok' : okM m = false := by simpa using ok
    have HV := Lib.hid (show textM m = ⟨#[]⟩ by unfold textM; rw [if_neg ok])
    rw [ok']
    clear ok ok'
    go_wp2
    go_ret
    exact ⟨ret_str HV.out.symm, bb1⟩
end Go.Proofs.YtcenmdiblbooeaaGreatDoor

namespace Go.Proofs.YtcenmdiblbooeaaGreatDoor
open Go.RowKit

set_option maxHeartbeats 400000 in
set_option maxRecDepth 100000 in
theorem liteCutM_none (s : ByteArray) (w : World) (h : spaceAt s = -1) :
    Calls Tryz.prog 69 #[.string s, .string ⟨#[32]⟩] w fun e w' => e = .returned (.tuple #[.string (hdM s), .string ⟨#[]⟩, .bool false]) ∧ w = w' := by
  have eh : hdM s = s := by unfold hdM; rw [if_pos (by omega)]
  rw [eh]
  go_enter Tryz.func69, Tryz.ntmps69
  go_wp2_with fail
  refine (Tryz.stringslite_Index_one s 32 _).mono ?_
  rintro e w1 ⟨rfl, rfl⟩
  rw [show Lib.indexByte s.data.toList 32 = -1 from h]
  go_wp2
  go_ret3
  exact ⟨rfl, rfl⟩
set_option maxHeartbeats 400000 in
set_option maxRecDepth 100000 in
theorem liteCutM_some (s : ByteArray) (o : Nat) (w : World) (hs : s.size ≤ 1048576) (h : spaceAt s = o) :
    Calls Tryz.prog 69 #[.string s, .string ⟨#[32]⟩] w fun e w' => e = .returned (.tuple #[.string (hdM s), .string (tlM s), .bool true]) ∧ Below w.heap.size w w' := by
  have hl := space_lt h
  have eh : hdM s = s.extract 0 o := by unfold hdM; rw [if_neg (by omega), h, Int.toNat_natCast]
  have et : tlM s = s.extract (o + 1) s.size := by unfold tlM; rw [if_neg (by omega), h, Int.toNat_natCast]
  rw [eh, et]
  have c1 : (0 : Int) ≤ ↑o := by omega
  have c2 : (↑o : Int) ≤ ↑s.size := by omega
  have c3 : (0 : Int) ≤ ↑o + 1 := by omega
  have c4 : (↑o + 1 : Int) ≤ ↑s.size := by omega
  have c5 : (s.size : Int) ≤ 1048576 := by omega
  go_enter Tryz.func69, Tryz.ntmps69
  go_wp2_with fail
  refine (Tryz.stringslite_Index_one s 32 _).mono ?_
  rintro e w1 ⟨rfl, rfl⟩
  rw [show Lib.indexByte s.data.toList 32 = (o : Int) from h]
  go_wp2
  go_quiet (fail)
  go_wp2
  go_ret3
  exact ⟨rfl, below_drewN (Below.refl _ _) _⟩
set_option maxHeartbeats 400000 in
set_option maxRecDepth 100000 in
theorem cutM_none (s : ByteArray) (w : World) (h : spaceAt s = -1) :
    Calls Tryz.prog 33 #[.string s, .string ⟨#[32]⟩] w fun e w' => e = .returned (.tuple #[.string (hdM s), .string ⟨#[]⟩, .bool false]) ∧ Below w.heap.size w w' := by
  go_enter Tryz.func33, Tryz.ntmps33
  go_wp2_with fail
  refine (liteCutM_none s _ h).mono ?_
  rintro e w1 ⟨rfl, rfl⟩
  go_wp2
  go_ret3
  exact ⟨rfl, Below.refl _ _⟩
set_option maxHeartbeats 400000 in
set_option maxRecDepth 100000 in
theorem cutM_some (s : ByteArray) (o : Nat) (w : World) (hs : s.size ≤ 1048576) (h : spaceAt s = o) :
    Calls Tryz.prog 33 #[.string s, .string ⟨#[32]⟩] w fun e w' => e = .returned (.tuple #[.string (hdM s), .string (tlM s), .bool true]) ∧ Below w.heap.size w w' := by
  go_enter Tryz.func33, Tryz.ntmps33
  go_wp2_with fail
  refine (liteCutM_some s o _ hs h).mono ?_
  rintro e w1 ⟨rfl, b1⟩
  go_wp2
  go_ret3
  exact ⟨rfl, b1⟩
theorem cutM_any (s : ByteArray) (w : World) (hs : s.size ≤ 1048576) :
    Calls Tryz.prog 33 #[.string s, .string ⟨#[32]⟩] w fun e w' => ∃ b : Bool, e = .returned (.tuple #[.string (hdM s), .string (tlM s), .bool b]) ∧ Below w.heap.size w w' := by
  rcases space_cases s with h | ⟨o, h, _⟩
  · refine (cutM_none s w h).mono ?_
    rintro e w' ⟨rfl, b⟩
    have e2 : tlM s = ⟨#[]⟩ := by unfold tlM; rw [if_pos (by omega)]
    exact ⟨false, by rw [e2], b⟩
  · refine (cutM_some s o w hs h).mono ?_
    rintro e w' ⟨rfl, b⟩
    exact ⟨true, rfl, b⟩
theorem hd_tl_size (s : ByteArray) : (hdM s).size ≤ s.size ∧ (tlM s).size ≤ s.size := by
  unfold hdM tlM
  split
  · exact ⟨Nat.le_refl _, Nat.zero_le _⟩
  · rw [ByteArray.size_extract, ByteArray.size_extract]
    omega
end Go.Proofs.YtcenmdiblbooeaaGreatDoor

namespace Go.Proofs.YtcenmdiblbooeaaGreatDoor
open Go.RowKit

set_option maxHeartbeats 4000000 in
set_option maxRecDepth 100000 in
theorem implTextMoney_any (s : ByteArray) (w : World) (hs : s.size ≤ 1048576) (ht : CurTab w) (hd : Tab w) :
    Calls Tryz.prog 7 #[.string s] w (PostMb (trM s).1 (trM s).2 w) := by
  have HT := Lib.hid ht
  clear ht
  have HD := Lib.hid hd
  clear hd
  have bb0 : Below w.heap.size w (w.alloc (.cells #[.string ⟨#[]⟩, .bool false, .slice none 0 0] 27)) := below_al (Below.refl _ _) _
  have ko := (box_new w #[.string ⟨#[]⟩, .bool false, .slice none 0 0] 27)
  have HKO := Lib.hid (ko.lt w.heap.size (by simp))
  have hts := (hd_tl_size s).2
  obtain ⟨⟨D, db⟩, hD⟩ : ∃ D, trD (tlM s) = D := ⟨_, rfl⟩
  have ED := Lib.hid hD
  have hDl : D.1.2.length ≤ 1048576 := by have h := szD_len (trD_sz (tlM s)); rw [hD] at h; exact h
  have B1 := Lib.hid (show db = false → trM s = (zeroM, false) from fun h => trM_bad1 (by rw [hD]; exact h))
  have B2 := Lib.hid (show ¬ textM (hdM s, D.1) = s → trM s = (zeroM, false) from fun h => trM_bad2 (by unfold readM; rw [hD]; exact h))
  have B3 := Lib.hid (show db = true → textM (hdM s, D.1) = s → trM s = ((hdM s, D.1), true) from fun h1 h2 => by have h := trM_good (s := s) (by rw [hD]; exact h1) (by unfold readM; rw [hD]; exact h2); rw [h]; unfold readM; rw [hD])
  clear hD
  obtain ⟨P, hP⟩ : ∃ P, trM s = P := ⟨_, rfl⟩
  rw [hP] at B1 B2 B3 ⊢
  clear hP
  go_enter Tryz.func7, Tryz.ntmps7
  go_wp2_with fail
  refine (cutM_any s _ hs).mono ?_
  rintro e w1 ⟨bc, rfl, b1⟩
  have bb1 := Below.next bb0 b1
  replace ko := ko.below b1
  have z1 : w.heap.size + 1 ≤ w1.heap.size := by have := b1.size; simp at this; omega
  generalize hdM s = C at *
  generalize tlM s = L at *
  go_wp2_with fail
  refine ((implTextDec_any L _ (by omega) (HD.out.below bb1)).mono fun _ _ h => postDb_is ED.out h).mono ?_
  rintro e w2 ⟨ud, Sd, rfl, od, ld, b2⟩
  obtain ⟨Ad, cd, rfl⟩ := ownD_form od.here
  have bb2 := Below.next bb1 b2
  replace ko := ko.below b2
  have kd := box_new (w2) #[.bool D.1.1, .slice Ad D.1.2.length cd, .int .i64 D.2] 67
  have ald := below_al (Below.refl (w2).heap.size (w2)) (.cells #[.bool D.1.1, .slice Ad D.1.2.length cd, .int .i64 D.2] 67)
  have bbd := Below.next bb2 ald
  replace ko := ko.below ald
  replace od := od.below ald
  have km := box_new ((w2.alloc (.cells #[.bool D.1.1, .slice Ad D.1.2.length cd, .int .i64 D.2] 67))) #[.string C, .bool D.1.1, .slice Ad D.1.2.length cd] 27
  have alm := below_al (Below.refl ((w2.alloc (.cells #[.bool D.1.1, .slice Ad D.1.2.length cd, .int .i64 D.2] 67))).heap.size ((w2.alloc (.cells #[.bool D.1.1, .slice Ad D.1.2.length cd, .int .i64 D.2] 67)))) (.cells #[.string C, .bool D.1.1, .slice Ad D.1.2.length cd] 27)
  have bbm := Below.next bbd alm
  replace ko := ko.below alm
  replace od := od.below alm
  replace kd := kd.below alm
  rw [show (w2.alloc (.cells #[.bool D.1.1, .slice Ad D.1.2.length cd, .int .i64 D.2] 67)).heap.size = w2.heap.size + 1 by simp] at km
  have om := od.imp fun _ h => (OwnM.mk (q := (C, D.1)) (ownD_open h) : OwnM (.agg #[.string C, .bool D.1.1, .slice Ad D.1.2.length cd]) (C, D.1) _)
  cases db with
  | false =>
    have HV := Lib.hid (B1.out (by simp))
    have kd_c0 := kd.here.cell 0 _ rfl
    have kd_c1 := kd.here.cell 1 _ rfl
    have kd_c2 := kd.here.cell 2 _ rfl
    have cz0 := ko.here.cell 0 _ rfl
    have fz0 := Lib.frozen_of_heap ko.here 0
    have cz1 := ko.here.cell 1 _ rfl
    have fz1 := Lib.frozen_of_heap ko.here 1
    have cz2 := ko.here.cell 2 _ rfl
    have fz2 := Lib.frozen_of_heap ko.here 2
    go_wp2
    refine bodyPost_ret (v := .tuple #[.agg #[.string ⟨#[]⟩, .bool false, .slice none 0 0], .bool false]) (by simp [results, Tryz.results7, go_sem, cz0, cz1, cz2]) rfl ?_
    rw [HV.out]
    first | exact newMb_zero _ bbm | exact newMb_zero _ (below_set3 bbm (by omega))
  | true =>
    obtain ⟨T, hT⟩ : ∃ T, textM (C, D.1) = T := ⟨_, rfl⟩
    have ET := Lib.hid hT
    rw [hT] at B2 B3
    clear hT
    have kd_c0 := kd.here.cell 0 _ rfl
    have kd_c1 := kd.here.cell 1 _ rfl
    have kd_c2 := kd.here.cell 2 _ rfl
    have km_c0 := km.here.cell 0 _ rfl
    have km_c1 := km.here.cell 1 _ rfl
    have km_c2 := km.here.cell 2 _ rfl
    go_wp2_with fail
    clear kd_c0 kd_c1 kd_c2 km_c0 km_c1 km_c2
    refine ((implMoneyText_any _ (C, D.1) _ hDl om.here (HT.out.below bbm) (HD.out.below bbm)).mono fun _ _ h => postT_isM ET.out h).mono ?_
    rintro e w3 ⟨rfl, b3⟩
    have bb3 := Below.next bbm b3
    replace ko := ko.below b3
    replace od := od.below b3
    replace kd := kd.below b3
    replace km := km.below b3
    replace om := om.below b3
    by_cases he : T = s
    · have HV := Lib.hid (B3.out (by simp) he)
      rw [he]
      have HW := Lib.hid (newMb_at (r := w.heap.size) (b := true) (B := w.heap.size + 1) om (fun i hi => ⟨by have := (ld i hi).1; omega, om.lt i hi⟩) (by omega) (Nat.le_refl _) bb3)
      have cz0 := ko.here.cell 0 _ rfl
      have fz0 := Lib.frozen_of_heap ko.here 0
      have cz1 := ko.here.cell 1 _ rfl
      have fz1 := Lib.frozen_of_heap ko.here 1
      have cz2 := ko.here.cell 2 _ rfl
      have fz2 := Lib.frozen_of_heap ko.here 2
      have km_c0 := km.here.cell 0 _ rfl
      have km_c1 := km.here.cell 1 _ rfl
      have km_c2 := km.here.cell 2 _ rfl
      clear he om od ko kd km ld
      go_wp2
      refine bodyPost_ret (v := .tuple #[.agg #[.string C, .bool D.1.1, .slice Ad D.1.2.length cd], .bool true]) (by simp [results, Tryz.results7, go_sem, cz0, cz1, cz2]) rfl ?_
      rw [HV.out]
      exact HW.out
    · have HV := Lib.hid (B2.out he)
      have hbe0 := bytes_neC he
      have hbe : (T.toList != s.toList) = true := by rw [bne, hbe0]; rfl
      clear he om od kd km
      have cz0 := ko.here.cell 0 _ rfl
      have fz0 := Lib.frozen_of_heap ko.here 0
      have cz1 := ko.here.cell 1 _ rfl
      have fz1 := Lib.frozen_of_heap ko.here 1
      have cz2 := ko.here.cell 2 _ rfl
      have fz2 := Lib.frozen_of_heap ko.here 2
      go_wp2
      refine bodyPost_ret (v := .tuple #[.agg #[.string ⟨#[]⟩, .bool false, .slice none 0 0], .bool false]) (by simp [results, Tryz.results7, go_sem, cz0, cz1, cz2]) rfl ?_
      rw [HV.out]
      first | exact newMb_zero _ bb3 | exact newMb_zero _ (below_set3 bb3 (by omega))
end Go.Proofs.YtcenmdiblbooeaaGreatDoor

namespace Go.Proofs.YtcenmdiblbooeaaGreatDoor
open Go.RowKit

theorem specPadT (s : ByteArray) (n : Int) (w : World) (T : ByteArray) (hs : s.size ≤ 1048576) (hn : n ≤ 2000) (hT : padB s n = T) : Calls Tryz.prog 122 #[.string s, .int .i64 n] w (PostT T w) := by
  subst hT
  refine (specPad_any s n w hs hn).mono ?_
  rintro e w' ⟨rfl, rfl⟩
  exact ⟨rfl, Below.refl _ _⟩
set_option maxHeartbeats 4000000 in
set_option maxRecDepth 100000 in
theorem specDecText_any (va : Value) (a : DI) (w : World) (hla : a.1.2.length ≤ 1048576) (ha : OwnD va a w) :
    Calls Tryz.prog 88 #[va] w (PostT (textD a) w) := by
  have Ha := Lib.hid ha
  obtain ⟨Aa, ca, rfl⟩ := ownD_form ha
  have ODa := Lib.hid (show ∀ W, Below w.heap.size w W → OwnD (.agg #[.bool a.1.1, .slice Aa a.1.2.length ca, .int .i64 a.2]) a W from fun W hb => OwnD.below Ha.out hb)
  have OIa := Lib.hid (show ∀ W, Below w.heap.size w W → OwnI (.slice Aa a.1.2.length ca) a.1.2 W from fun W hb => ownD_open (ODa.out W hb))
  have OSa := Lib.hid (show ∀ W, Below w.heap.size w W → OwnS (.agg #[.bool a.1.1, .slice Aa a.1.2.length ca]) a.1 W from fun W hb => OwnS.mk (OIa.out W hb))
  clear ha
  have bb0 : Below w.heap.size w (w.alloc (.cells #[.bool a.1.1, .slice Aa a.1.2.length ca, .int .i64 a.2] 67)) := below_al (Below.refl _ _) _
  have ka := (box_new w #[.bool a.1.1, .slice Aa a.1.2.length ca, .int .i64 a.2] 67)
  obtain ⟨T, hT⟩ : ∃ T, textD a = T := ⟨_, rfl⟩
  have ET := Lib.hid hT
  rw [hT]
  clear hT
  go_enter Tryz.func88, Tryz.ntmps88
  have ka_c0 := ka.here.cell 0 _ rfl
  have ka_c1 := ka.here.cell 1 _ rfl
  have ka_c2 := ka.here.cell 2 _ rfl
  go_wp2_with fail
  clear ka_c0 ka_c1 ka_c2
  refine (specDecOk_any _ a _ hla (ODa.out _ bb0)).mono ?_
  rintro e w1 ⟨rfl, b1⟩
  have bb1 := Below.next bb0 b1
  replace ka := ka.below b1
  by_cases ok : okD a = true
  · rw [ok]
    have HO := Lib.hid ok
    have qa := partsD ok
    have ta := qa.lo
    have ta2 := qa.hi
    obtain ⟨K, hK, hKl, hB⟩ := body_K ok
    have HV := Lib.hid (show T = if a.1.1 = true then (⟨#[45]⟩ : ByteArray) ++ pointB (bodyD a) a.2 else pointB (bodyD a) a.2 by rw [← ET.out]; unfold textD; rw [if_pos HO.out])
    have hP0 : ¬ 0 < a.2 → pointB (bodyD a) a.2 = bodyD a := fun h => by unfold pointB; rw [if_neg h]
    have hP1 : 0 < a.2 → pointB (bodyD a) a.2 = (bodyD a).extract 0 K ++ ⟨#[46]⟩ ++ (bodyD a).extract K (bodyD a).size := fun h => by unfold pointB; rw [if_pos h, show (bodyD a).size - a.2.toNat = K by omega]
    obtain ⟨n1, hn1⟩ : ∃ n, IntKind.i64.wrap (a.2 + 1) = n := ⟨_, rfl⟩
    have hn2 : n1 = a.2 + 1 := by rw [← hn1]; exact IntWalk.i64_in _ (by omega)
    obtain ⟨D, hD⟩ : ∃ D, natTextB a.1.2 = D := ⟨_, rfl⟩
    have hDs : D.size ≤ 1048576 := by rw [← hD]; have := natTextB_size a.1.2; omega
    have EB := Lib.hid (show padB D n1 = bodyD a by rw [← hD, hn2]; rfl)
    have hn3 : n1 ≤ 2000 := by omega
    obtain ⟨Q, hQ⟩ : ∃ Q, pointB (bodyD a) a.2 = Q := ⟨_, rfl⟩
    rw [hQ] at HV hP0 hP1
    generalize bodyD a = B at *
    have ED := Lib.hid hD
    have hKw : IntKind.i64.wrap ((B.size : Int) - a.2) = (K : Int) := by rw [hK]; exact IntWalk.i64_in _ (by omega)
    have c1 : (0 : Int) ≤ (K : Int) := by omega
    have c2 : (K : Int) ≤ (B.size : Int) := by omega
    have HP0 := Lib.hid hP0
    have HP1 := Lib.hid hP1
    have hQs : Q.size ≤ 200 := by
      by_cases h : 0 < a.2
      · rw [hP1 h, ByteArray.size_append, ByteArray.size_append, ByteArray.size_extract, ByteArray.size_extract]; have e : (⟨#[46]⟩ : ByteArray).size = 1 := rfl; omega
      · rw [hP0 h]; omega
    clear hD hn2 hK ok qa hP0 hP1 hQ
    have ka_c0 := ka.here.cell 0 _ rfl
    have ka_c1 := ka.here.cell 1 _ rfl
    have ka_c2 := ka.here.cell 2 _ rfl
    go_wp2_with fail
    have HC0 := Lib.hid (show Chg [] w1 w1.drew from (Chg.refl _ _).drew1)
    have HCr := Lib.hid (show Chg [] w1 w1 from Chg.refl _ _)
    have KL := Lib.hid (show ∀ W, Chg [] w1 W → W.cell? ⟨w.heap.size, 0, none⟩ = some (.bool a.1.1) ∧ W.cell? ⟨w.heap.size, 1, none⟩ = some (.slice Aa a.1.2.length ca) ∧ W.cell? ⟨w.heap.size, 2, none⟩ = some (.int .i64 a.2) ∧ Hid (Chg [] w1 W) from fun W hc => ⟨(ka.chg hc (fun i hi hm => by simp at hm)).here.cell 0 _ rfl, (ka.chg hc (fun i hi hm => by simp at hm)).here.cell 1 _ rfl, (ka.chg hc (fun i hi hm => by simp at hm)).here.cell 2 _ rfl, Lib.hid hc⟩)
    have BBF := Lib.hid (show ∀ W, Chg [] w1 W → Below w.heap.size w W from fun W hc => below_chg bb1 hc bb1.size (fun i hi => by simp at hi))
    clear ka_c0 ka_c1 ka_c2
    go_region_held3 (fun W => W.cell? ⟨w.heap.size, 0, none⟩ = some (.bool a.1.1) ∧ W.cell? ⟨w.heap.size, 1, none⟩ = some (.slice Aa a.1.2.length ca) ∧ W.cell? ⟨w.heap.size, 2, none⟩ = some (.int .i64 a.2) ∧ Hid (Chg [] w1 W))
      ((refine KL.out _ ?_; (first | exact HC3.out | exact HC2.out | exact HCr.out | exact HC0.out | exact HC3.out.drew1 | exact HC2.out.drew1 | exact HCr.out.drew1 | exact HC0.out.drew1 | exact HC3.out.trans (Chg.of_below (below_al (Below.refl _ _) _)) | exact HC2.out.trans (Chg.of_below (below_al (Below.refl _ _) _)) | exact HCr.out.trans (Chg.of_below (below_al (Below.refl _ _) _)) | exact HC0.out.trans (Chg.of_below (below_al (Below.refl _ _) _)) | fail)))
      (first
        | (go_at_call 123; (have hBB := (‹_ ∧ _ ∧ _ ∧ Hid (Chg [] w1 _)›).2.2.2); (with_reducible refine ((specNatText_any _ a.1.2 0 _ _ hla (Nat.le_refl _) (OIa.out _ (BBF.out _ hBB.out)).row).mono fun _ _ h => postT_eqD ED.out h).mono ?_); rintro e w2 ⟨rfl, b2⟩; have HC2 := Lib.hid (hBB.out.trans (Chg.of_below b2)); have HBZ2 := Lib.hid hBB.out.size; clear hBB)
        | (go_at_call 122; (have hBB := (‹_ ∧ _ ∧ _ ∧ Hid (Chg [] w1 _)›).2.2.2); (with_reducible refine (specPadT D n1 _ B hDs hn3 EB.out).mono ?_); rintro e w3 ⟨rfl, b3⟩; have HC3 := Lib.hid (hBB.out.trans (Chg.of_below b3)); have HBZ3 := Lib.hid hBB.out.size; clear hBB))
    all_goals
      have bb3 := BBF.out _ HC3.out
      replace ka := ka.chg HC3.out (fun i hi hm => by simp at hm)
      (try (rename _ ∧ _ ∧ _ ∧ Hid (Chg _ _ _) => hgone; clear hgone))
      have hq1 : ¬ (9223372036854775807 < (1 : Int) + Q.size) := by omega
      by_cases h0 : 0 < a.2
      · have EQ := Lib.hid (HP1.out (by omega))
        have hs1 : (B.extract 0 K).size = K := by rw [ByteArray.size_extract]; omega
        have hs2 : (B.extract K B.size).size = B.size - K := by rw [ByteArray.size_extract]; omega
        cases hneg : a.1.1 with
        | true =>
          have HVV := Lib.hid (show T = (⟨#[45]⟩ : ByteArray) ++ (B.extract 0 K ++ ⟨#[46]⟩ ++ B.extract K B.size) by have h := HV.out; rw [hneg, EQ.out] at h; exact h)
          rw [hneg] at ka
          clear hneg
          have ka_c0 := ka.here.cell 0 _ rfl
          have ka_c1 := ka.here.cell 1 _ rfl
          have ka_c2 := ka.here.cell 2 _ rfl
          go_wp2
          go_quiet (fail)
          go_wp2
          go_ret
          exact ⟨ret_strD HVV.out.symm, below_drewN bb3 _⟩
        | false =>
          have HVV := Lib.hid (show T = (B.extract 0 K ++ ⟨#[46]⟩ ++ B.extract K B.size) by have h := HV.out; rw [hneg, EQ.out] at h; exact h)
          rw [hneg] at ka
          clear hneg
          have ka_c0 := ka.here.cell 0 _ rfl
          have ka_c1 := ka.here.cell 1 _ rfl
          have ka_c2 := ka.here.cell 2 _ rfl
          go_wp2
          go_quiet (fail)
          go_wp2
          go_ret
          exact ⟨ret_strD HVV.out.symm, below_drewN bb3 _⟩
      · have EQ := Lib.hid (HP0.out (by omega))
        cases hneg : a.1.1 with
        | true =>
          have HVV := Lib.hid (show T = (⟨#[45]⟩ : ByteArray) ++ B by have h := HV.out; rw [hneg, EQ.out] at h; exact h)
          rw [hneg] at ka
          clear hneg
          have ka_c0 := ka.here.cell 0 _ rfl
          have ka_c1 := ka.here.cell 1 _ rfl
          have ka_c2 := ka.here.cell 2 _ rfl
          go_wp2
          go_ret
          exact ⟨ret_strD HVV.out.symm, bb3⟩
        | false =>
          have HVV := Lib.hid (show T = B by have h := HV.out; rw [hneg, EQ.out] at h; exact h)
          rw [hneg] at ka
          clear hneg
          have ka_c0 := ka.here.cell 0 _ rfl
          have ka_c1 := ka.here.cell 1 _ rfl
          have ka_c2 := ka.here.cell 2 _ rfl
          go_wp2
          go_ret
          exact ⟨ret_strD HVV.out.symm, bb3⟩
  · have ok' : okD a = false := by simpa using ok
    have HV := Lib.hid (show (⟨#[]⟩ : ByteArray) = T by rw [← ET.out]; unfold textD; rw [if_neg ok])
    rw [ok']
    clear ok ok' ka
    go_wp2
    go_ret
    exact ⟨ret_strD HV.out, bb1⟩
end Go.Proofs.YtcenmdiblbooeaaGreatDoor

namespace Go.Proofs.YtcenmdiblbooeaaGreatDoor
open Go.RowKit

set_option maxHeartbeats 4000000 in
set_option maxRecDepth 100000 in
theorem specMoneyText_any (vm : Value) (m : MI) (w : World) (hl : m.2.2.length ≤ 1048576) (hm : OwnM vm m w) :
    Calls Tryz.prog 50 #[vm] w (PostT (textM m) w) := by
  have Hm := Lib.hid hm
  obtain ⟨Am, cm, rfl⟩ := ownM_form hm
  have OMm := Lib.hid (show ∀ W, Below w.heap.size w W → OwnM (.agg #[.string m.1, .bool m.2.1, .slice Am m.2.2.length cm]) m W from fun W hb => OwnM.below Hm.out hb)
  have OIm := Lib.hid (show ∀ W, Below w.heap.size w W → OwnI (.slice Am m.2.2.length cm) m.2.2 W from fun W hb => ownM_open (OMm.out W hb))
  have OSm := Lib.hid (show ∀ W, Below w.heap.size w W → OwnS (.agg #[.bool m.2.1, .slice Am m.2.2.length cm]) m.2 W from fun W hb => OwnS.mk (OIm.out W hb))
  clear hm
  have bb0 : Below w.heap.size w (w.alloc (.cells #[.string m.1, .bool m.2.1, .slice Am m.2.2.length cm] 27)) := below_al (Below.refl _ _) _
  have km := (box_new w #[.string m.1, .bool m.2.1, .slice Am m.2.2.length cm] 27)
  go_enter Tryz.func50, Tryz.ntmps50
  have km_c0 := km.here.cell 0 _ rfl
  have km_c1 := km.here.cell 1 _ rfl
  have km_c2 := km.here.cell 2 _ rfl
  go_wp2_with fail
  clear km_c0 km_c1 km_c2
  refine (specMoneyOk_any _ m _ hl (OMm.out _ bb0)).mono ?_
  rintro e w1 ⟨rfl, b1⟩
  have bb1 := Below.next bb0 b1
  replace km := km.below b1
  by_cases ok : okM m = true
  · rw [ok]
    have HV := Lib.hid (show textM m = m.1 ++ ⟨#[32]⟩ ++ textD (m.2, placesC m.1) by unfold textM; rw [if_pos ok])
    have HOK := Lib.hid ok
    clear ok
    have hs1 := (okM_size HOK.out)
    have hs2 := textD_size (m.2, placesC m.1)
    have hs3 : m.1.size + 1 ≤ 9223372036854775807 := by omega
    have hs4 : m.1.size + 1 + (textD (m.2, placesC m.1)).size ≤ 9223372036854775807 := by omega
    have hs5 : (m.1 ++ (⟨#[32]⟩ : ByteArray)).size + (textD (m.2, placesC m.1)).size ≤ 9223372036854775807 := by rw [ByteArray.size_append]; exact hs4
    have hs6 : ¬ 9223372036854775807 < m.1.size + 1 := by omega
    have hs7 : ¬ 9223372036854775807 < m.1.size + 1 + (textD (m.2, placesC m.1)).size := by omega
    have hs8 : ¬ 9223372036854775807 ≤ m.1.size := by omega
    have hs9 : m.1.size < 9223372036854775807 := by omega
    clear HOK
    have km_c0 := km.here.cell 0 _ rfl
    have km_c1 := km.here.cell 1 _ rfl
    have km_c2 := km.here.cell 2 _ rfl
    go_wp2_with fail
    have HC0 := Lib.hid (show Chg [] w1 w1.drew from (Chg.refl _ _).drew1)
    have HCr := Lib.hid (show Chg [] w1 w1 from Chg.refl _ _)
    have KL := Lib.hid (show ∀ W, Chg [] w1 W → W.cell? ⟨w.heap.size, 0, none⟩ = some (.string m.1) ∧ W.cell? ⟨w.heap.size, 1, none⟩ = some (.bool m.2.1) ∧ W.cell? ⟨w.heap.size, 2, none⟩ = some (.slice Am m.2.2.length cm) ∧ Hid (Chg [] w1 W) from fun W hc => ⟨(km.chg hc (fun i hi hm => by simp at hm)).here.cell 0 _ rfl, (km.chg hc (fun i hi hm => by simp at hm)).here.cell 1 _ rfl, (km.chg hc (fun i hi hm => by simp at hm)).here.cell 2 _ rfl, Lib.hid hc⟩)
    have BBF := Lib.hid (show ∀ W, Chg [] w1 W → Below w.heap.size w W from fun W hc => below_chg bb1 hc bb1.size (fun i hi => by simp at hi))
    clear km_c0 km_c1 km_c2
    go_region_held3 (fun W => W.cell? ⟨w.heap.size, 0, none⟩ = some (.string m.1) ∧ W.cell? ⟨w.heap.size, 1, none⟩ = some (.bool m.2.1) ∧ W.cell? ⟨w.heap.size, 2, none⟩ = some (.slice Am m.2.2.length cm) ∧ Hid (Chg [] w1 W))
      ((refine KL.out _ ?_; (first | exact HC3.out | exact HC2.out | exact HCr.out | exact HC0.out | exact HC3.out.drew1 | exact HC2.out.drew1 | exact HCr.out.drew1 | exact HC0.out.drew1 | exact HC3.out.trans (Chg.of_below (below_al (Below.refl _ _) _)) | exact HC2.out.trans (Chg.of_below (below_al (Below.refl _ _) _)) | exact HCr.out.trans (Chg.of_below (below_al (Below.refl _ _) _)) | exact HC0.out.trans (Chg.of_below (below_al (Below.refl _ _) _)) | fail)))
      (first
        | (go_at_call 90; (have hBB := (‹_ ∧ _ ∧ _ ∧ Hid (Chg [] w1 _)›).2.2.2); (with_reducible refine (specCurPlaces_any m.1 _).mono ?_); rintro e w2 ⟨rfl, b2⟩; have HC2 := Lib.hid (hBB.out.trans (Chg.of_below b2)); have HBZ2 := Lib.hid hBB.out.size; clear hBB)
        | (go_at_call 88; (have hBB := (‹_ ∧ _ ∧ _ ∧ Hid (Chg [] w1 _)›).2.2.2); (with_reducible refine (specDecText_any _ (m.2, placesC m.1) _ hl (OwnD.mk (q := (m.2, placesC m.1)) (OIm.out _ (BBF.out _ hBB.out)))).mono ?_); rintro e w3 ⟨rfl, b3⟩; have HC3 := Lib.hid (hBB.out.trans (Chg.of_below b3)); have HBZ3 := Lib.hid hBB.out.size; clear hBB))
    all_goals
      have bb3 := BBF.out _ HC3.out
      replace km := km.chg HC3.out (fun i hi hm => by simp at hm)
      go_wp2
      go_ret
      exact ⟨ret_str HV.out.symm, bb3⟩
  · have ok' : okM m = false := by simpa using ok
    have HV := Lib.hid (show textM m = ⟨#[]⟩ by unfold textM; rw [if_neg ok])
    rw [ok']
    clear ok ok'
    go_wp2
    go_ret
    exact ⟨ret_str HV.out.symm, bb1⟩
end Go.Proofs.YtcenmdiblbooeaaGreatDoor

namespace Go.Proofs.YtcenmdiblbooeaaGreatDoor
open Go.RowKit

/-- what a call answers: two new signed numbers (and an int) -/
def PostSS (X Y : SI) (w : World) (e : Ending) (w' : World) : Prop :=
  ∃ (u v : Value) (S T : List Nat), e = .returned (.tuple #[u, v]) ∧ At S (OwnS u X) w' ∧ At T (OwnS v Y) w' ∧ Within S w.heap.size w'.heap.size ∧ Within T w.heap.size w'.heap.size ∧ Below w.heap.size w w'
def PostSSn (X Y : SI) (n : Int) (w : World) (e : Ending) (w' : World) : Prop :=
  ∃ (u v : Value) (S T : List Nat), e = .returned (.tuple #[u, v, .int .i64 n]) ∧ At S (OwnS u X) w' ∧ At T (OwnS v Y) w' ∧ Within S w.heap.size w'.heap.size ∧ Within T w.heap.size w'.heap.size ∧ Below w.heap.size w w'
theorem postSSn_chg {S T R : List Nat} {u v : Value} {X Y : SI} {n : Int} {w W : World} (o : At S (OwnS u X) W) (q : At T (OwnS v Y) W) (hS : ∀ i ∈ S, i ∉ R) (hT : ∀ i ∈ T, i ∉ R) (hR : ∀ i ∈ R, w.heap.size ≤ i) (lS : ∀ i ∈ S, w.heap.size ≤ i) (lT : ∀ i ∈ T, w.heap.size ≤ i) (hW : Below w.heap.size w W) :
    ∀ W', Chg R W W' → PostSSn X Y n w (.returned (.tuple #[u, v, .int .i64 n])) W' :=
  fun _ hc => ⟨u, v, S, T, rfl, o.chg hc hS, q.chg hc hT, fun i hi => ⟨lS i hi, Nat.lt_of_lt_of_le (o.lt i hi) hc.size⟩, fun i hi => ⟨lT i hi, Nat.lt_of_lt_of_le (q.lt i hi) hc.size⟩, below_chg hW hc hW.size hR⟩
theorem postSS_chg {S T R : List Nat} {u v : Value} {X Y : SI} {w W : World} (o : At S (OwnS u X) W) (q : At T (OwnS v Y) W) (hS : ∀ i ∈ S, i ∉ R) (hT : ∀ i ∈ T, i ∉ R) (hR : ∀ i ∈ R, w.heap.size ≤ i) (lS : ∀ i ∈ S, w.heap.size ≤ i) (lT : ∀ i ∈ T, w.heap.size ≤ i) (hW : Below w.heap.size w W) :
    ∀ W', Chg R W W' → PostSS X Y w (.returned (.tuple #[u, v])) W' :=
  fun _ hc => ⟨u, v, S, T, rfl, o.chg hc hS, q.chg hc hT, fun i hi => ⟨lS i hi, Nat.lt_of_lt_of_le (o.lt i hi) hc.size⟩, fun i hi => ⟨lT i hi, Nat.lt_of_lt_of_le (q.lt i hi) hc.size⟩, below_chg hW hc hW.size hR⟩
theorem newVS_eqD {x y : SI} (h : x = y) {w w' : World} {e : Ending} (k : NewV (fun v => OwnS v x) w e w') : NewV (fun v => OwnS v y) w e w' := h ▸ k
theorem newS_is {x y : SI} (h : x = y) {w w' : World} {e : Ending} (k : NewS x w e w') : NewV (fun v => OwnS v y) w e w' := by subst h; exact k.newV
/-- a number at the greater scale -/
def upS (a : DI) (s : Int) : SI := mulS a.1 (tenS (s - a.2))
theorem upS_len (a : DI) (s : Int) : (upS a s).2.length ≤ 50 := by unfold upS mulS; split; exact ofZ_len _; decide
theorem tenS_len (k : Int) : (tenS k).2.length ≤ 1048576 := by have := tenN_len k; show (tenN k).length ≤ _; omega
theorem topD_max (a b : DI) : max a.2 b.2 = topD a b := by unfold topD; split <;> omega
theorem topD_lt {a b : DI} (h : a.2 < b.2) : topD a b = b.2 := if_pos h
theorem topD_ge {a b : DI} (h : ¬ a.2 < b.2) : topD a b = a.2 := if_neg h
end Go.Proofs.YtcenmdiblbooeaaGreatDoor

namespace Go.Proofs.YtcenmdiblbooeaaGreatDoor
open Go.RowKit

theorem raw_step (l : List UInt8) (k : Nat) (h : k < l.length) : rawL (l.take (k + 1)) = rawL (l.take k) ++ (if l[k] != 46 && l[k] != 45 then [l[k]] else []) := by
  rw [List.take_succ_eq_append_getElem h, raw_app]
  congr 1
  unfold rawL
  rw [List.filter_cons]
  rfl
theorem at_list (s : ByteArray) (k : Nat) (h : k < s.size) : s.data.toList[k]'h = s[k] := Array.getElem_toList ..
theorem eq_nat {c : UInt8} {n : Nat} (hn : n < 256) (h : c.toNat = n) : c = UInt8.ofNat n := UInt8.toNat_inj.1 (by rw [h, UInt8.toNat_ofNat']; omega)
theorem raw_skip (s : ByteArray) (k : Nat) (h : k < s.size) (hc : s[k].toNat = 46 ∨ s[k].toNat = 45) : rawL (s.data.toList.take (k + 1)) = rawL (s.data.toList.take k) := by
  rw [raw_step _ k h, at_list]
  rcases hc with hc | hc
  · rw [show s[k] = 46 from eq_nat (by decide) hc]; exact List.append_nil _
  · rw [show s[k] = 45 from eq_nat (by decide) hc]; exact List.append_nil _
theorem raw_more (s : ByteArray) (k : Nat) (h : k < s.size) (h1 : ¬ s[k].toNat = 46) (h2 : ¬ s[k].toNat = 45) {G : ByteArray} (hG : G.data.toList = rawL (s.data.toList.take k)) : (G ++ s.extract k (k + 1)).data.toList = rawL (s.data.toList.take (k + 1)) := by
  have hk : k < s.data.toList.length := h
  have e : (s.extract k (k + 1)).data.toList = [s[k]] := by
    rw [extract_listD, List.take_succ_eq_append_getElem hk, List.drop_append_of_le_length (by rw [List.length_take]; omega), List.drop_of_length_le (by rw [List.length_take]; omega), at_list]
    rfl
  rw [ByteArray.data_append, Array.toList_append, hG, e, raw_step _ k h, at_list]
  have b1 : (s[k] != 46) = true := by rw [bne_iff_ne]; intro e; exact h1 (by rw [e]; rfl)
  have b2 : (s[k] != 45) = true := by rw [bne_iff_ne]; intro e; exact h2 (by rw [e]; rfl)
  rw [b1, b2]
  rfl
theorem scale_dot (s : ByteArray) (k : Nat) (h : k < s.size) (hc : s[k].toNat = 46) : scaleF s.data.toList (k + 1) = (s.size : Int) - 1 - k := by
  have e : s.data.toList.getD k 0 = 46 := getD_of (by rw [List.getElem?_eq_getElem h, at_list]; exact congrArg some (eq_nat (by decide) hc))
  exact scale_hit e
theorem scale_keep (s : ByteArray) (k : Nat) (h : k < s.size) (hc : ¬ s[k].toNat = 46) : scaleF s.data.toList (k + 1) = scaleF s.data.toList k := by
  have e : s.data.toList.getD k 0 = s[k] := getD_of (by rw [List.getElem?_eq_getElem h, at_list])
  show (if s.data.toList.getD k 0 = 46 then _ else _) = _
  rw [e, if_neg]
  intro e2
  exact hc (by rw [e2]; rfl)
theorem scale_bound (l : List UInt8) : ∀ k, k ≤ l.length → 0 ≤ scaleF l k ∧ scaleF l k ≤ l.length
  | 0, _ => ⟨Int.le_refl _, by show (0 : Int) ≤ _; omega⟩
  | k + 1, h => by
    show 0 ≤ (if l.getD k 0 = 46 then _ else _) ∧ (if l.getD k 0 = 46 then _ else _) ≤ _
    split
    · omega
    · exact scale_bound l k (by omega)
theorem two_cons (G : ByteArray) (h1 : 1 < G.size) : ∃ c e r, G.data.toList = c :: e :: r ∧ G[0] = c := by
  have h := listB_len G
  have e0 := at_list G 0 (by omega)
  cases hl : G.data.toList with
  | nil => rw [hl] at h; simp at h; omega
  | cons c r =>
    cases r with
    | nil => rw [hl] at h; simp at h; omega
    | cons e r =>
      refine ⟨c, e, r, rfl, ?_⟩
      rw [← e0]
      simp [hl]
theorem strip_step (G : ByteArray) (h1 : 1 < G.size) (h48 : G[0].toNat = 48) : stripL (G.extract 1 G.size).data.toList = stripL G.data.toList := by
  obtain ⟨c, e, r, hl, h0⟩ := two_cons G h1
  rw [extract_listD, List.take_of_length_le (Nat.le_of_eq (listB_len G)), hl]
  have hc : c = 48 := by rw [← h0]; exact eq_nat (by decide) h48
  rw [hc]
  rfl
theorem strip_stay (G : ByteArray) (h1 : 1 < G.size) (h48 : ¬ G[0].toNat = 48) : stripL G.data.toList = G.data.toList := by
  obtain ⟨c, e, r, hl, h0⟩ := two_cons G h1
  rw [hl]
  show (if c = 48 then _ else _) = _
  rw [if_neg]
  intro hc
  exact h48 (by rw [h0, hc]; rfl)
theorem strip_short (G : ByteArray) (h1 : ¬ 1 < G.size) : stripL G.data.toList = G.data.toList := by
  have h := listB_len G
  cases hl : G.data.toList with
  | nil => rfl
  | cons c r =>
    cases r with
    | nil => rfl
    | cons e r => rw [hl] at h; simp at h; omega
theorem raw_end {s G : ByteArray} (h : stripL G.data.toList = G.data.toList) (e : stripL G.data.toList = stripL (rawL s.data.toList)) : G = rawB s := listB (by rw [← h, e]; rfl)
theorem head_no {s : ByteArray} (h : ¬ 0 < s.size) : decide (s.data.toList.headD 0 = 45) = false := by
  have hl := listB_len s
  cases he : s.data.toList with
  | nil => rfl
  | cons c r => rw [he] at hl; simp at hl; omega
theorem head_yes {s : ByteArray} (h : 0 < s.size) : decide (s.data.toList.headD 0 = 45) = ((s[0].toNat : Int) == 45) := by
  rw [head_get s h]
  by_cases e : s[0].toNat = 45
  · rw [decide_eq_true (show s[0] = 45 from eq_nat (by decide) e)]
    exact (beq_iff_eq.2 (by omega)).symm
  · rw [decide_eq_false (fun h => e (by rw [h]; rfl))]
    exact (beq_eq_false_iff_ne.2 (by omega)).symm
/-- the answer by what the two readings say -/
theorem trD_bad1 {s : ByteArray} (h : decOk (rawB s) = false) : trD s = (zeroD, false) := by unfold trD readD; rw [h]; rfl
theorem trD_bad2 {s : ByteArray} (h : okD (parseD s) = false) : trD s = (zeroD, false) := by
  unfold trD
  rw [if_neg]
  unfold readD
  rw [h, Bool.false_and, Bool.and_false]
  decide
theorem trD_bad3 {s : ByteArray} (h : ¬ textD (parseD s) = s) : trD s = (zeroD, false) := by
  unfold trD
  rw [if_neg]
  unfold readD
  rw [decide_eq_false h, Bool.and_false, Bool.and_false]
  decide
theorem trD_good {s : ByteArray} (h1 : decOk (rawB s) = true) (h2 : okD (parseD s) = true) (h3 : textD (parseD s) = s) : trD s = (parseD s, true) := by
  unfold trD
  rw [if_pos]
  unfold readD
  rw [h1, h2, decide_eq_true h3]
  rfl
set_option maxHeartbeats 4000000 in
set_option maxRecDepth 100000 in
theorem specTextDec_any (s : ByteArray) (w : World) (hs : s.size ≤ 1048576) :
    Calls Tryz.prog 48 #[.string s] w (PostDb (trD s).1 (trD s).2 w) := by
  have bb0 : Below w.heap.size w (w.alloc (.cells #[.bool false, .slice none 0 0, .int .i64 0] 67)) := below_al (Below.refl _ _) _
  have ko := (box_new w #[.bool false, .slice none 0 0, .int .i64 0] 67)
  obtain ⟨P, hP⟩ : ∃ P, trD s = P := ⟨_, rfl⟩
  have EP := Lib.hid hP
  rw [hP]
  clear hP
  obtain ⟨W0, hW0⟩ : ∃ W0, W0 = (w.alloc (.cells #[.bool false, .slice none 0 0, .int .i64 0] 67)) := ⟨_, rfl⟩
  rw [← hW0] at bb0 ko 
  have HW0 := Lib.hid hW0
  clear hW0
  go_enter Tryz.func48, Tryz.ntmps48
  go_wp2_with fail
  rw [← HW0.out]
  go_loopw [4, 5, 6] (fun g c i wx => ∃ (k : Nat) (G : ByteArray), k ≤ s.size ∧ G.size ≤ k ∧ i = .int .i64 k ∧ g = .string G ∧ c = .int .i64 (scaleF s.data.toList k) ∧ Hid (G.data.toList = rawL (s.data.toList.take k)) ∧ At [w.heap.size] (BoxAt w.heap.size #[.bool false, .slice none 0 0, .int .i64 0] 67) wx ∧ Below w.heap.size w wx) (fun _ _ i _ => s.size - (intOf i).toNat)
  case atStart => exact ⟨0, ⟨#[]⟩, Nat.zero_le _, Nat.le_refl _, rfl, rfl, rfl, Lib.hid rfl, ko, bb0⟩
  case round =>
    clear ko bb0
    obtain ⟨k, G, hk, hGk, rfl, rfl, rfl, HG, ko, bbr⟩ := hrel
    by_cases hlt : k < s.size
    · by_cases h46 : s[k].toNat = 46
      · have HR := Lib.hid (raw_skip s k hlt (.inl h46))
        have HS := Lib.hid (scale_dot s k hlt h46)
        have b46 : ((s[k].toNat : Int) == 46) = true := by rw [beq_iff_eq]; omega
        clear h46
        go_wp2
        go_roundw
        case rel => exact ⟨k + 1, G, by omega, by omega, by go_num, rfl, by (rw [HS.out]; try go_num), Lib.hid (HG.out.trans HR.out.symm), ko, bbr⟩
        case measure => simp [intOf]; omega
      · have HS := Lib.hid (scale_keep s k hlt h46)
        have b46 : ((s[k].toNat : Int) == 46) = false := by rw [beq_eq_false_iff_ne]; omega
        by_cases h45 : s[k].toNat = 45
        · have HR := Lib.hid (raw_skip s k hlt (.inr h45))
          have b45 : ((s[k].toNat : Int) == 45) = true := by rw [beq_iff_eq]; omega
          have b45n : ((s[k].toNat : Int) != 45) = false := by rw [bne, b45]; rfl
          clear h45 h46
          go_wp2
          go_roundw
          case rel => exact ⟨k + 1, G, by omega, by omega, by go_num, rfl, by rw [HS.out], Lib.hid (HG.out.trans HR.out.symm), ko, bbr⟩
          case measure => simp [intOf]; omega
        · have HR := Lib.hid (raw_more s k hlt h46 h45 HG.out)
          have b45 : ((s[k].toNat : Int) == 45) = false := by rw [beq_eq_false_iff_ne]; omega
          have b45n : ((s[k].toNat : Int) != 45) = true := by rw [bne, b45]; rfl
          clear h45 h46
          have h1s : (s.extract k (k + 1)).size = 1 := by rw [ByteArray.size_extract]; omega
          have hq1 : ¬ (9223372036854775807 < G.size + (s.extract k (k + 1)).size) := by omega
          have c0 : (0 : Int) ≤ (k : Int) := by omega
          have c1 : (k : Int) ≤ (k : Int) + 1 := by omega
          have c2 : (k : Int) + 1 ≤ (s.size : Int) := by omega
          go_wp2
          go_roundw
          case rel => exact ⟨k + 1, _, by omega, by rw [ByteArray.size_append]; omega, by go_num, rfl, by rw [HS.out], Lib.hid HR.out, ko, bbr⟩
          case measure => simp [intOf]; omega
    · obtain rfl : k = s.size := by omega
      have HG2 := Lib.hid (show stripL G.data.toList = stripL (rawL s.data.toList) by rw [HG.out, take_full])
      clear HG
      have hsc := scale_bound s.data.toList s.size (Nat.le_refl _)
      have hs1 := hsc.1
      have hs2 := hsc.2
      clear hsc
      rw [listB_len] at hs2
      obtain ⟨K, hK⟩ : ∃ K, scaleF s.data.toList s.size = K := ⟨_, rfl⟩
      have EK := Lib.hid hK
      rw [hK] at hs1 hs2 ⊢
      clear hK hlt hk
      go_wp2
      go_loopw [4] (fun g wx => ∃ G : ByteArray, G.size ≤ s.size ∧ g = .string G ∧ Hid (stripL G.data.toList = stripL (rawL s.data.toList)) ∧ At [w.heap.size] (BoxAt w.heap.size #[.bool false, .slice none 0 0, .int .i64 0] 67) wx ∧ Below w.heap.size w wx) (fun g _ => strSize g)
      case atStart => exact ⟨G, hGk, rfl, HG2, ko, bbr⟩
      case round =>
        clear ko bbr HG2 hGk
        obtain ⟨G, hGk, rfl, HG, ko, bbr⟩ := hrel
        by_cases h1 : 1 < G.size
        · have h1i : (1 : Int) < (G.size : Int) := by omega
          by_cases h48 : G[0].toNat = 48
          · have b48 : ((G[0].toNat : Int) == 48) = true := by rw [beq_iff_eq]; omega
            have HS := Lib.hid (strip_step G h1 h48)
            clear h48
            have hxs : (G.extract 1 G.size).size = G.size - 1 := by rw [ByteArray.size_extract]; omega
            go_wp2
            go_roundw
            case rel => exact ⟨_, by rw [hxs]; omega, rfl, Lib.hid (HS.out.trans HG.out), ko, bbr⟩
            case measure => simp only [strSize, hxs]; omega
          · have b48 : ((G[0].toNat : Int) == 48) = false := by rw [beq_eq_false_iff_ne]; omega
            have hG := raw_end (strip_stay G h1 h48) HG.out
            clear h48
            have HGE := Lib.hid hG
            clear hG HG
            have HK := Lib.hid (ko.lt w.heap.size (by simp))
            obtain ⟨N, hN⟩ : ∃ N, decide (s.data.toList.headD 0 = 45) = N := ⟨_, rfl⟩
            obtain ⟨xs, hxs⟩ : ∃ xs, tnR G = xs := ⟨_, rfl⟩
            obtain ⟨oky, hoky⟩ : ∃ o, decOk G = o := ⟨_, rfl⟩
            have hxl : xs.length ≤ 1048576 := by rw [← hxs]; have := tnR_len G; omega
            have HX := Lib.hid (show parseD s = ((N, xs), K) by rw [← hN, ← hxs, HGE.out, ← EK.out]; rfl)
            have HB1 := Lib.hid (fun h : oky = false => (show P = (zeroD, false) by rw [← EP.out]; exact trD_bad1 (by rw [← HGE.out, hoky]; exact h)))
            have HB2 := Lib.hid (fun h : okD ((N, xs), K) = false => (show P = (zeroD, false) by rw [← EP.out]; exact trD_bad2 (by rw [HX.out]; exact h)))
            have HB3 := Lib.hid (fun h : ¬ textD ((N, xs), K) = s => (show P = (zeroD, false) by rw [← EP.out]; exact trD_bad3 (by rw [HX.out]; exact h)))
            have HGD := Lib.hid (fun (h1 : oky = true) (h2 : okD ((N, xs), K) = true) (h3 : textD ((N, xs), K) = s) => (show P = (((N, xs), K), true) by rw [← EP.out, ← HX.out]; exact trD_good (by rw [← HGE.out, hoky]; exact h1) (by rw [HX.out]; exact h2) (by rw [HX.out]; exact h3)))
            have ET0 := Lib.hid hxs
            have ET1 := Lib.hid hoky
            have HNN := Lib.hid hN
            clear hN hxs hoky
            go_wp2_with fail
            refine (((specTextNat_any G _ (by omega)).mono fun _ _ h => h.new)).mono ?_
            rintro e w1 ⟨vq, rfl, oq0, b1⟩
            rw [ET0.out] at oq0
            rw [ET1.out]
            obtain ⟨Aq, cq, rfl⟩ := own_len oq0
            have oq := own_at' oq0
            have lq := own_within oq0
            clear oq0
            have bb1 := Below.next bbr b1
            replace ko := ko.below b1
            have os := oq.imp (fun _ h => (OwnS.mk (x := (N, xs)) h : OwnS (.agg #[.bool N, .slice Aq xs.length cq]) (N, xs) _))
            clear oq
            by_cases h0 : 0 < s.size
            · have h0i : (0 : Int) < (s.size : Int) := by omega
              have hn : ((s[0].toNat : Int) == 45) = N := (head_yes h0).symm.trans HNN.out
              by_cases ok : okD ((N, xs), K) = true
              · have EV := Lib.hid (show decD (N, xs) K = (((N, xs), K), true) by unfold decD; rw [if_pos ok])
                have HO := Lib.hid ok
                clear ok
                go_wp2_with fail
                go_wp2_with fail
                refine ((l07Dec_any _ (N, xs) K _ _ hxl os).mono fun _ _ h => keptD_eq EV.out h).mono ?_
                rintro e w2 ⟨uf, Sf, rfl, of, sf, b2⟩
                obtain ⟨Af, cf, rfl⟩ := ownD_form of.here
                have bb2 := Below.next bb1 b2
                replace ko := ko.below b2
                replace os := os.below b2
                have lf : ∀ i ∈ Sf, w.heap.size < i := fun i hi => by have h1 := lq i (sf i hi); have h2 := HK.out; have h3 := h1.1; omega
                clear os
                obtain ⟨Y, hY⟩ : ∃ Y : DI, (((N, xs), K) : DI) = Y := ⟨_, rfl⟩
                have EY := Lib.hid hY
                rw [hY] at of ⊢
                clear hY
                have kd := box_new (w2) #[.bool Y.1.1, .slice Af Y.1.2.length cf, .int .i64 Y.2] 67
                have ald := below_al (Below.refl (w2).heap.size (w2)) (.cells #[.bool Y.1.1, .slice Af Y.1.2.length cf, .int .i64 Y.2] 67)
                have bbd := Below.next bb2 ald
                replace ko := ko.below ald
                replace of := of.below ald
                cases oky with
                | false =>
                  have HV0 := Lib.hid (HB1.out rfl)
                  clear kd of
                  have cz0 := ko.here.cell 0 _ rfl
                  have fz0 := Lib.frozen_of_heap ko.here 0
                  have cz1 := ko.here.cell 1 _ rfl
                  have fz1 := Lib.frozen_of_heap ko.here 1
                  have cz2 := ko.here.cell 2 _ rfl
                  have fz2 := Lib.frozen_of_heap ko.here 2
                  go_wp2
                  refine bodyPost_ret (v := .tuple #[.agg #[.bool false, .slice none 0 0, .int .i64 0], .bool false]) (by simp [results, Tryz.results48, go_sem, cz0, cz1, cz2]) rfl ?_
                  rw [HV0.out]
                  first | exact newDb_zero _ bbd | exact newDb_zero _ (below_set3 bbd (by omega))
                | true =>
                  obtain ⟨T, hT⟩ : ∃ T, textD Y = T := ⟨_, rfl⟩
                  have ET := Lib.hid hT
                  have hX1 : Y.1.2.length ≤ 1048576 := by rw [← EY.out]; exact hxl
                  clear hT
                  have kd_c0 := kd.here.cell 0 _ rfl
                  have kd_c1 := kd.here.cell 1 _ rfl
                  have kd_c2 := kd.here.cell 2 _ rfl
                  go_wp2_with fail
                  clear kd_c0 kd_c1 kd_c2
                  refine ((specDecText_any _ Y _ hX1 of.here).mono fun _ _ h => postT_isD ET.out h).mono ?_
                  rintro e w3 ⟨rfl, b3⟩
                  have bb3 := Below.next bbd b3
                  replace ko := ko.below b3
                  replace of := of.below b3
                  replace kd := kd.below b3
                  by_cases hx : T = s
                  · have HV := Lib.hid (show P = (Y, true) by rw [← EY.out]; exact HGD.out (by simp) HO.out (by rw [EY.out, ET.out]; exact hx))
                    have hse := bytes_eqP hx
                    clear hx
                    have HW := Lib.hid (postDb_chg (b := true) (T := [w.heap.size]) of (fun i hi hm => by have := lf i hi; simp at hm; omega) (fun i hi => by simp at hi; omega) (fun i hi => by have := lf i hi; omega) bb3)
                    have kd_c0 := kd.here.cell 0 _ rfl
                    have kd_c1 := kd.here.cell 1 _ rfl
                    have kd_c2 := kd.here.cell 2 _ rfl
                    have cz0 := ko.here.cell 0 _ rfl
                    have fz0 := Lib.frozen_of_heap ko.here 0
                    have cz1 := ko.here.cell 1 _ rfl
                    have fz1 := Lib.frozen_of_heap ko.here 1
                    have cz2 := ko.here.cell 2 _ rfl
                    have fz2 := Lib.frozen_of_heap ko.here 2
                    clear of kd ko
                    go_wp2
                    refine bodyPost_ret (v := .tuple #[.agg #[.bool Y.1.1, .slice Af Y.1.2.length cf, .int .i64 Y.2], .bool true]) (by simp [results, Tryz.results48, go_sem, cz0, cz1, cz2]) rfl ?_
                    rw [HV.out]
                    refine HW.out _ ?_
                    repeat (first | exact Chg.refl _ _ | refine Chg.setCell ?_ (by simp) _)
                  · have HV := Lib.hid (HB3.out (by rw [EY.out, ET.out]; exact hx))
                    have hse := bytes_neP hx
                    clear hx of kd
                    have cz0 := ko.here.cell 0 _ rfl
                    have fz0 := Lib.frozen_of_heap ko.here 0
                    have cz1 := ko.here.cell 1 _ rfl
                    have fz1 := Lib.frozen_of_heap ko.here 1
                    have cz2 := ko.here.cell 2 _ rfl
                    have fz2 := Lib.frozen_of_heap ko.here 2
                    go_wp2
                    refine bodyPost_ret (v := .tuple #[.agg #[.bool false, .slice none 0 0, .int .i64 0], .bool false]) (by simp [results, Tryz.results48, go_sem, cz0, cz1, cz2]) rfl ?_
                    rw [HV.out]
                    first | exact newDb_zero _ bb3 | exact newDb_zero _ (below_set3 bb3 (by omega))
              · have EV := Lib.hid (show decD (N, xs) K = (zeroD, false) by unfold decD; rw [if_neg ok])
                have HV := Lib.hid (HB2.out (by simpa using ok))
                clear ok
                go_wp2_with fail
                go_wp2_with fail
                refine ((l07Dec_any _ (N, xs) K _ _ hxl os).mono fun _ _ h => keptD_eq EV.out h).mono ?_
                rintro e w2 ⟨uf, Sf, rfl, of, sf, b2⟩
                obtain ⟨Af, cf, rfl⟩ := ownD_form of.here
                have bb2 := Below.next bb1 b2
                replace ko := ko.below b2
                replace os := os.below b2
                have lf : ∀ i ∈ Sf, w.heap.size < i := fun i hi => by have h1 := lq i (sf i hi); have h2 := HK.out; have h3 := h1.1; omega
                clear os
                obtain ⟨Y, hY⟩ : ∃ Y : DI, (zeroD : DI) = Y := ⟨_, rfl⟩
                have EY := Lib.hid hY
                rw [hY] at of ⊢
                clear hY
                have kd := box_new (w2) #[.bool Y.1.1, .slice Af Y.1.2.length cf, .int .i64 Y.2] 67
                have ald := below_al (Below.refl (w2).heap.size (w2)) (.cells #[.bool Y.1.1, .slice Af Y.1.2.length cf, .int .i64 Y.2] 67)
                have bbd := Below.next bb2 ald
                replace ko := ko.below ald
                replace of := of.below ald
                cases oky with
                | false =>
                  have HV0 := Lib.hid (HB1.out rfl)
                  clear kd of
                  have cz0 := ko.here.cell 0 _ rfl
                  have fz0 := Lib.frozen_of_heap ko.here 0
                  have cz1 := ko.here.cell 1 _ rfl
                  have fz1 := Lib.frozen_of_heap ko.here 1
                  have cz2 := ko.here.cell 2 _ rfl
                  have fz2 := Lib.frozen_of_heap ko.here 2
                  go_wp2
                  refine bodyPost_ret (v := .tuple #[.agg #[.bool false, .slice none 0 0, .int .i64 0], .bool false]) (by simp [results, Tryz.results48, go_sem, cz0, cz1, cz2]) rfl ?_
                  rw [HV0.out]
                  first | exact newDb_zero _ bbd | exact newDb_zero _ (below_set3 bbd (by omega))
                | true =>
                  clear kd of
                  have cz0 := ko.here.cell 0 _ rfl
                  have fz0 := Lib.frozen_of_heap ko.here 0
                  have cz1 := ko.here.cell 1 _ rfl
                  have fz1 := Lib.frozen_of_heap ko.here 1
                  have cz2 := ko.here.cell 2 _ rfl
                  have fz2 := Lib.frozen_of_heap ko.here 2
                  go_wp2
                  refine bodyPost_ret (v := .tuple #[.agg #[.bool false, .slice none 0 0, .int .i64 0], .bool false]) (by simp [results, Tryz.results48, go_sem, cz0, cz1, cz2]) rfl ?_
                  rw [HV.out]
                  first | exact newDb_zero _ bbd | exact newDb_zero _ (below_set3 bbd (by omega))
            · exfalso; omega
        · have h1i : ¬ (1 : Int) < (G.size : Int) := by omega
          have hG := raw_end (strip_short G h1) HG.out
          have HGE := Lib.hid hG
          clear hG HG
          have HK := Lib.hid (ko.lt w.heap.size (by simp))
          obtain ⟨N, hN⟩ : ∃ N, decide (s.data.toList.headD 0 = 45) = N := ⟨_, rfl⟩
          obtain ⟨xs, hxs⟩ : ∃ xs, tnR G = xs := ⟨_, rfl⟩
          obtain ⟨oky, hoky⟩ : ∃ o, decOk G = o := ⟨_, rfl⟩
          have hxl : xs.length ≤ 1048576 := by rw [← hxs]; have := tnR_len G; omega
          have HX := Lib.hid (show parseD s = ((N, xs), K) by rw [← hN, ← hxs, HGE.out, ← EK.out]; rfl)
          have HB1 := Lib.hid (fun h : oky = false => (show P = (zeroD, false) by rw [← EP.out]; exact trD_bad1 (by rw [← HGE.out, hoky]; exact h)))
          have HB2 := Lib.hid (fun h : okD ((N, xs), K) = false => (show P = (zeroD, false) by rw [← EP.out]; exact trD_bad2 (by rw [HX.out]; exact h)))
          have HB3 := Lib.hid (fun h : ¬ textD ((N, xs), K) = s => (show P = (zeroD, false) by rw [← EP.out]; exact trD_bad3 (by rw [HX.out]; exact h)))
          have HGD := Lib.hid (fun (h1 : oky = true) (h2 : okD ((N, xs), K) = true) (h3 : textD ((N, xs), K) = s) => (show P = (((N, xs), K), true) by rw [← EP.out, ← HX.out]; exact trD_good (by rw [← HGE.out, hoky]; exact h1) (by rw [HX.out]; exact h2) (by rw [HX.out]; exact h3)))
          have ET0 := Lib.hid hxs
          have ET1 := Lib.hid hoky
          have HNN := Lib.hid hN
          clear hN hxs hoky
          go_wp2_with fail
          refine (((specTextNat_any G _ (by omega)).mono fun _ _ h => h.new)).mono ?_
          rintro e w1 ⟨vq, rfl, oq0, b1⟩
          rw [ET0.out] at oq0
          rw [ET1.out]
          obtain ⟨Aq, cq, rfl⟩ := own_len oq0
          have oq := own_at' oq0
          have lq := own_within oq0
          clear oq0
          have bb1 := Below.next bbr b1
          replace ko := ko.below b1
          have os := oq.imp (fun _ h => (OwnS.mk (x := (N, xs)) h : OwnS (.agg #[.bool N, .slice Aq xs.length cq]) (N, xs) _))
          clear oq
          by_cases h0 : 0 < s.size
          · have h0i : (0 : Int) < (s.size : Int) := by omega
            have hn : ((s[0].toNat : Int) == 45) = N := (head_yes h0).symm.trans HNN.out
            by_cases ok : okD ((N, xs), K) = true
            · have EV := Lib.hid (show decD (N, xs) K = (((N, xs), K), true) by unfold decD; rw [if_pos ok])
              have HO := Lib.hid ok
              clear ok
              go_wp2_with fail
              go_wp2_with fail
              refine ((l07Dec_any _ (N, xs) K _ _ hxl os).mono fun _ _ h => keptD_eq EV.out h).mono ?_
              rintro e w2 ⟨uf, Sf, rfl, of, sf, b2⟩
              obtain ⟨Af, cf, rfl⟩ := ownD_form of.here
              have bb2 := Below.next bb1 b2
              replace ko := ko.below b2
              replace os := os.below b2
              have lf : ∀ i ∈ Sf, w.heap.size < i := fun i hi => by have h1 := lq i (sf i hi); have h2 := HK.out; have h3 := h1.1; omega
              clear os
              obtain ⟨Y, hY⟩ : ∃ Y : DI, (((N, xs), K) : DI) = Y := ⟨_, rfl⟩
              have EY := Lib.hid hY
              rw [hY] at of ⊢
              clear hY
              have kd := box_new (w2) #[.bool Y.1.1, .slice Af Y.1.2.length cf, .int .i64 Y.2] 67
              have ald := below_al (Below.refl (w2).heap.size (w2)) (.cells #[.bool Y.1.1, .slice Af Y.1.2.length cf, .int .i64 Y.2] 67)
              have bbd := Below.next bb2 ald
              replace ko := ko.below ald
              replace of := of.below ald
              cases oky with
              | false =>
                have HV0 := Lib.hid (HB1.out rfl)
                clear kd of
                have cz0 := ko.here.cell 0 _ rfl
                have fz0 := Lib.frozen_of_heap ko.here 0
                have cz1 := ko.here.cell 1 _ rfl
                have fz1 := Lib.frozen_of_heap ko.here 1
                have cz2 := ko.here.cell 2 _ rfl
                have fz2 := Lib.frozen_of_heap ko.here 2
                go_wp2
                refine bodyPost_ret (v := .tuple #[.agg #[.bool false, .slice none 0 0, .int .i64 0], .bool false]) (by simp [results, Tryz.results48, go_sem, cz0, cz1, cz2]) rfl ?_
                rw [HV0.out]
                first | exact newDb_zero _ bbd | exact newDb_zero _ (below_set3 bbd (by omega))
              | true =>
                obtain ⟨T, hT⟩ : ∃ T, textD Y = T := ⟨_, rfl⟩
                have ET := Lib.hid hT
                have hX1 : Y.1.2.length ≤ 1048576 := by rw [← EY.out]; exact hxl
                clear hT
                have kd_c0 := kd.here.cell 0 _ rfl
                have kd_c1 := kd.here.cell 1 _ rfl
                have kd_c2 := kd.here.cell 2 _ rfl
                go_wp2_with fail
                clear kd_c0 kd_c1 kd_c2
                refine ((specDecText_any _ Y _ hX1 of.here).mono fun _ _ h => postT_isD ET.out h).mono ?_
                rintro e w3 ⟨rfl, b3⟩
                have bb3 := Below.next bbd b3
                replace ko := ko.below b3
                replace of := of.below b3
                replace kd := kd.below b3
                by_cases hx : T = s
                · have HV := Lib.hid (show P = (Y, true) by rw [← EY.out]; exact HGD.out (by simp) HO.out (by rw [EY.out, ET.out]; exact hx))
                  have hse := bytes_eqP hx
                  clear hx
                  have HW := Lib.hid (postDb_chg (b := true) (T := [w.heap.size]) of (fun i hi hm => by have := lf i hi; simp at hm; omega) (fun i hi => by simp at hi; omega) (fun i hi => by have := lf i hi; omega) bb3)
                  have kd_c0 := kd.here.cell 0 _ rfl
                  have kd_c1 := kd.here.cell 1 _ rfl
                  have kd_c2 := kd.here.cell 2 _ rfl
                  have cz0 := ko.here.cell 0 _ rfl
                  have fz0 := Lib.frozen_of_heap ko.here 0
                  have cz1 := ko.here.cell 1 _ rfl
                  have fz1 := Lib.frozen_of_heap ko.here 1
                  have cz2 := ko.here.cell 2 _ rfl
                  have fz2 := Lib.frozen_of_heap ko.here 2
                  clear of kd ko
                  go_wp2
                  refine bodyPost_ret (v := .tuple #[.agg #[.bool Y.1.1, .slice Af Y.1.2.length cf, .int .i64 Y.2], .bool true]) (by simp [results, Tryz.results48, go_sem, cz0, cz1, cz2]) rfl ?_
                  rw [HV.out]
                  refine HW.out _ ?_
                  repeat (first | exact Chg.refl _ _ | refine Chg.setCell ?_ (by simp) _)
                · have HV := Lib.hid (HB3.out (by rw [EY.out, ET.out]; exact hx))
                  have hse := bytes_neP hx
                  clear hx of kd
                  have cz0 := ko.here.cell 0 _ rfl
                  have fz0 := Lib.frozen_of_heap ko.here 0
                  have cz1 := ko.here.cell 1 _ rfl
                  have fz1 := Lib.frozen_of_heap ko.here 1
                  have cz2 := ko.here.cell 2 _ rfl
                  have fz2 := Lib.frozen_of_heap ko.here 2
                  go_wp2
                  refine bodyPost_ret (v := .tuple #[.agg #[.bool false, .slice none 0 0, .int .i64 0], .bool false]) (by simp [results, Tryz.results48, go_sem, cz0, cz1, cz2]) rfl ?_
                  rw [HV.out]
                  first | exact newDb_zero _ bb3 | exact newDb_zero _ (below_set3 bb3 (by omega))
            · have EV := Lib.hid (show decD (N, xs) K = (zeroD, false) by unfold decD; rw [if_neg ok])
              have HV := Lib.hid (HB2.out (by simpa using ok))
              clear ok
              go_wp2_with fail
              go_wp2_with fail
              refine ((l07Dec_any _ (N, xs) K _ _ hxl os).mono fun _ _ h => keptD_eq EV.out h).mono ?_
              rintro e w2 ⟨uf, Sf, rfl, of, sf, b2⟩
              obtain ⟨Af, cf, rfl⟩ := ownD_form of.here
              have bb2 := Below.next bb1 b2
              replace ko := ko.below b2
              replace os := os.below b2
              have lf : ∀ i ∈ Sf, w.heap.size < i := fun i hi => by have h1 := lq i (sf i hi); have h2 := HK.out; have h3 := h1.1; omega
              clear os
              obtain ⟨Y, hY⟩ : ∃ Y : DI, (zeroD : DI) = Y := ⟨_, rfl⟩
              have EY := Lib.hid hY
              rw [hY] at of ⊢
              clear hY
              have kd := box_new (w2) #[.bool Y.1.1, .slice Af Y.1.2.length cf, .int .i64 Y.2] 67
              have ald := below_al (Below.refl (w2).heap.size (w2)) (.cells #[.bool Y.1.1, .slice Af Y.1.2.length cf, .int .i64 Y.2] 67)
              have bbd := Below.next bb2 ald
              replace ko := ko.below ald
              replace of := of.below ald
              cases oky with
              | false =>
                have HV0 := Lib.hid (HB1.out rfl)
                clear kd of
                have cz0 := ko.here.cell 0 _ rfl
                have fz0 := Lib.frozen_of_heap ko.here 0
                have cz1 := ko.here.cell 1 _ rfl
                have fz1 := Lib.frozen_of_heap ko.here 1
                have cz2 := ko.here.cell 2 _ rfl
                have fz2 := Lib.frozen_of_heap ko.here 2
                go_wp2
                refine bodyPost_ret (v := .tuple #[.agg #[.bool false, .slice none 0 0, .int .i64 0], .bool false]) (by simp [results, Tryz.results48, go_sem, cz0, cz1, cz2]) rfl ?_
                rw [HV0.out]
                first | exact newDb_zero _ bbd | exact newDb_zero _ (below_set3 bbd (by omega))
              | true =>
                clear kd of
                have cz0 := ko.here.cell 0 _ rfl
                have fz0 := Lib.frozen_of_heap ko.here 0
                have cz1 := ko.here.cell 1 _ rfl
                have fz1 := Lib.frozen_of_heap ko.here 1
                have cz2 := ko.here.cell 2 _ rfl
                have fz2 := Lib.frozen_of_heap ko.here 2
                go_wp2
                refine bodyPost_ret (v := .tuple #[.agg #[.bool false, .slice none 0 0, .int .i64 0], .bool false]) (by simp [results, Tryz.results48, go_sem, cz0, cz1, cz2]) rfl ?_
                rw [HV.out]
                first | exact newDb_zero _ bbd | exact newDb_zero _ (below_set3 bbd (by omega))
          · have h0i : ¬ (0 : Int) < (s.size : Int) := by omega
            have hn : false = N := (head_no h0).symm.trans HNN.out
            subst hn
            by_cases ok : okD ((false, xs), K) = true
            · have EV := Lib.hid (show decD (false, xs) K = (((false, xs), K), true) by unfold decD; rw [if_pos ok])
              have HO := Lib.hid ok
              clear ok
              go_wp2_with fail
              go_wp2_with fail
              refine ((l07Dec_any _ (false, xs) K _ _ hxl os).mono fun _ _ h => keptD_eq EV.out h).mono ?_
              rintro e w2 ⟨uf, Sf, rfl, of, sf, b2⟩
              obtain ⟨Af, cf, rfl⟩ := ownD_form of.here
              have bb2 := Below.next bb1 b2
              replace ko := ko.below b2
              replace os := os.below b2
              have lf : ∀ i ∈ Sf, w.heap.size < i := fun i hi => by have h1 := lq i (sf i hi); have h2 := HK.out; have h3 := h1.1; omega
              clear os
              obtain ⟨Y, hY⟩ : ∃ Y : DI, (((false, xs), K) : DI) = Y := ⟨_, rfl⟩
              have EY := Lib.hid hY
              rw [hY] at of ⊢
              clear hY
              have kd := box_new (w2) #[.bool Y.1.1, .slice Af Y.1.2.length cf, .int .i64 Y.2] 67
              have ald := below_al (Below.refl (w2).heap.size (w2)) (.cells #[.bool Y.1.1, .slice Af Y.1.2.length cf, .int .i64 Y.2] 67)
              have bbd := Below.next bb2 ald
              replace ko := ko.below ald
              replace of := of.below ald
              cases oky with
              | false =>
                have HV0 := Lib.hid (HB1.out rfl)
                clear kd of
                have cz0 := ko.here.cell 0 _ rfl
                have fz0 := Lib.frozen_of_heap ko.here 0
                have cz1 := ko.here.cell 1 _ rfl
                have fz1 := Lib.frozen_of_heap ko.here 1
                have cz2 := ko.here.cell 2 _ rfl
                have fz2 := Lib.frozen_of_heap ko.here 2
                go_wp2
                refine bodyPost_ret (v := .tuple #[.agg #[.bool false, .slice none 0 0, .int .i64 0], .bool false]) (by simp [results, Tryz.results48, go_sem, cz0, cz1, cz2]) rfl ?_
                rw [HV0.out]
                first | exact newDb_zero _ bbd | exact newDb_zero _ (below_set3 bbd (by omega))
              | true =>
                obtain ⟨T, hT⟩ : ∃ T, textD Y = T := ⟨_, rfl⟩
                have ET := Lib.hid hT
                have hX1 : Y.1.2.length ≤ 1048576 := by rw [← EY.out]; exact hxl
                clear hT
                have kd_c0 := kd.here.cell 0 _ rfl
                have kd_c1 := kd.here.cell 1 _ rfl
                have kd_c2 := kd.here.cell 2 _ rfl
                go_wp2_with fail
                clear kd_c0 kd_c1 kd_c2
                refine ((specDecText_any _ Y _ hX1 of.here).mono fun _ _ h => postT_isD ET.out h).mono ?_
                rintro e w3 ⟨rfl, b3⟩
                have bb3 := Below.next bbd b3
                replace ko := ko.below b3
                replace of := of.below b3
                replace kd := kd.below b3
                by_cases hx : T = s
                · have HV := Lib.hid (show P = (Y, true) by rw [← EY.out]; exact HGD.out (by simp) HO.out (by rw [EY.out, ET.out]; exact hx))
                  have hse := bytes_eqP hx
                  clear hx
                  have HW := Lib.hid (postDb_chg (b := true) (T := [w.heap.size]) of (fun i hi hm => by have := lf i hi; simp at hm; omega) (fun i hi => by simp at hi; omega) (fun i hi => by have := lf i hi; omega) bb3)
                  have kd_c0 := kd.here.cell 0 _ rfl
                  have kd_c1 := kd.here.cell 1 _ rfl
                  have kd_c2 := kd.here.cell 2 _ rfl
                  have cz0 := ko.here.cell 0 _ rfl
                  have fz0 := Lib.frozen_of_heap ko.here 0
                  have cz1 := ko.here.cell 1 _ rfl
                  have fz1 := Lib.frozen_of_heap ko.here 1
                  have cz2 := ko.here.cell 2 _ rfl
                  have fz2 := Lib.frozen_of_heap ko.here 2
                  clear of kd ko
                  go_wp2
                  refine bodyPost_ret (v := .tuple #[.agg #[.bool Y.1.1, .slice Af Y.1.2.length cf, .int .i64 Y.2], .bool true]) (by simp [results, Tryz.results48, go_sem, cz0, cz1, cz2]) rfl ?_
                  rw [HV.out]
                  refine HW.out _ ?_
                  repeat (first | exact Chg.refl _ _ | refine Chg.setCell ?_ (by simp) _)
                · have HV := Lib.hid (HB3.out (by rw [EY.out, ET.out]; exact hx))
                  have hse := bytes_neP hx
                  clear hx of kd
                  have cz0 := ko.here.cell 0 _ rfl
                  have fz0 := Lib.frozen_of_heap ko.here 0
                  have cz1 := ko.here.cell 1 _ rfl
                  have fz1 := Lib.frozen_of_heap ko.here 1
                  have cz2 := ko.here.cell 2 _ rfl
                  have fz2 := Lib.frozen_of_heap ko.here 2
                  go_wp2
                  refine bodyPost_ret (v := .tuple #[.agg #[.bool false, .slice none 0 0, .int .i64 0], .bool false]) (by simp [results, Tryz.results48, go_sem, cz0, cz1, cz2]) rfl ?_
                  rw [HV.out]
                  first | exact newDb_zero _ bb3 | exact newDb_zero _ (below_set3 bb3 (by omega))
            · have EV := Lib.hid (show decD (false, xs) K = (zeroD, false) by unfold decD; rw [if_neg ok])
              have HV := Lib.hid (HB2.out (by simpa using ok))
              clear ok
              go_wp2_with fail
              go_wp2_with fail
              refine ((l07Dec_any _ (false, xs) K _ _ hxl os).mono fun _ _ h => keptD_eq EV.out h).mono ?_
              rintro e w2 ⟨uf, Sf, rfl, of, sf, b2⟩
              obtain ⟨Af, cf, rfl⟩ := ownD_form of.here
              have bb2 := Below.next bb1 b2
              replace ko := ko.below b2
              replace os := os.below b2
              have lf : ∀ i ∈ Sf, w.heap.size < i := fun i hi => by have h1 := lq i (sf i hi); have h2 := HK.out; have h3 := h1.1; omega
              clear os
              obtain ⟨Y, hY⟩ : ∃ Y : DI, (zeroD : DI) = Y := ⟨_, rfl⟩
              have EY := Lib.hid hY
              rw [hY] at of ⊢
              clear hY
              have kd := box_new (w2) #[.bool Y.1.1, .slice Af Y.1.2.length cf, .int .i64 Y.2] 67
              have ald := below_al (Below.refl (w2).heap.size (w2)) (.cells #[.bool Y.1.1, .slice Af Y.1.2.length cf, .int .i64 Y.2] 67)
              have bbd := Below.next bb2 ald
              replace ko := ko.below ald
              replace of := of.below ald
              cases oky with
              | false =>
                have HV0 := Lib.hid (HB1.out rfl)
                clear kd of
                have cz0 := ko.here.cell 0 _ rfl
                have fz0 := Lib.frozen_of_heap ko.here 0
                have cz1 := ko.here.cell 1 _ rfl
                have fz1 := Lib.frozen_of_heap ko.here 1
                have cz2 := ko.here.cell 2 _ rfl
                have fz2 := Lib.frozen_of_heap ko.here 2
                go_wp2
                refine bodyPost_ret (v := .tuple #[.agg #[.bool false, .slice none 0 0, .int .i64 0], .bool false]) (by simp [results, Tryz.results48, go_sem, cz0, cz1, cz2]) rfl ?_
                rw [HV0.out]
                first | exact newDb_zero _ bbd | exact newDb_zero _ (below_set3 bbd (by omega))
              | true =>
                clear kd of
                have cz0 := ko.here.cell 0 _ rfl
                have fz0 := Lib.frozen_of_heap ko.here 0
                have cz1 := ko.here.cell 1 _ rfl
                have fz1 := Lib.frozen_of_heap ko.here 1
                have cz2 := ko.here.cell 2 _ rfl
                have fz2 := Lib.frozen_of_heap ko.here 2
                go_wp2
                refine bodyPost_ret (v := .tuple #[.agg #[.bool false, .slice none 0 0, .int .i64 0], .bool false]) (by simp [results, Tryz.results48, go_sem, cz0, cz1, cz2]) rfl ?_
                rw [HV.out]
                first | exact newDb_zero _ bbd | exact newDb_zero _ (below_set3 bbd (by omega))
end Go.Proofs.YtcenmdiblbooeaaGreatDoor

namespace Go.Proofs.YtcenmdiblbooeaaGreatDoor
open Go.RowKit


theorem strInfo : (Tryz.prog.info? 9).map (fun i => (i.zero, i.size, i.bytes)) = some (some (.string ⟨#[]⟩), 1, 16) := by kernel_rfl

/-- the pieces, as cells -/
def strsV (l : List ByteArray) : List Value := l.map Value.string

/-- what the loop of CutAt knows at its head -/
def CutRel (s by_ : ByteArray) (w : World) (v st i : Value) (wr : World) : Prop :=
  ∃ k : Nat, k ≤ s.size ∧ i = .int .i64 k ∧ st = .int .i64 (cutsTo s by_ k).2 ∧ wr.ownsRow w.heap.size 9 1 v (cutsTo s by_ k).1.length (strsV (cutsTo s by_ k).1) ∧ Below w.heap.size w wr
theorem cut_step {s by_ : ByteArray} {k : Nat} {w w1 : World} {v1 : Value} (hc : cutsTo s by_ (k + 1) = ((cutsTo s by_ k).1 ++ [s.extract (cutsTo s by_ k).2 k], k + 1)) (hk : k + 1 ≤ s.size)
    (hown : w1.ownsRow w.heap.size 9 1 v1 ((cutsTo s by_ k).1.length + 1) (strsV (cutsTo s by_ k).1 ++ [Value.string (s.extract (cutsTo s by_ k).2 k)])) (hb : Below w.heap.size w w1) :
    CutRel s by_ w v1 (.int .i64 ((k : Int) + 1)) (.int .i64 ((k : Int) + 1)) w1 := by
  refine ⟨k + 1, hk, by go_num, by rw [hc]; go_num, ?_, hb⟩
  rw [hc]
  simpa [strsV] using hown


/-- whether the byte occurs in by from place j on -/
def hitFrom (by_ : ByteArray) (c : UInt8) (j : Nat) : Bool := (by_.data.toList.drop j).contains c
theorem hitFrom_step (by_ : ByteArray) (c : UInt8) (j : Nat) (h : j < by_.size) (hne : ¬ c = by_[j]) : hitFrom by_ c (j + 1) = hitFrom by_ c j := by
  have hd := List.drop_eq_getElem_cons (l := by_.data.toList) (i := j) (by simpa using h)
  have : (c == by_.data.toList[j]'(by simpa using h)) = false := by
    rw [beq_eq_false_iff_ne]
    exact hne
  rw [hitFrom, hitFrom, hd, List.contains_cons, this, Bool.false_or]
theorem hitFrom_here (by_ : ByteArray) (c : UInt8) (j : Nat) (h : j < by_.size) (he : c = by_[j]) : hitFrom by_ c j = true := by
  unfold hitFrom
  rw [List.drop_eq_getElem_cons (by simpa using h), List.contains_cons]
  have : (c == by_.data.toList[j]'(by simpa using h)) = true := by
    rw [beq_iff_eq]
    exact he
  rw [this, Bool.true_or]
theorem hitFrom_end (by_ : ByteArray) (c : UInt8) (j : Nat) (h : ¬ j < by_.size) : hitFrom by_ c j = false := by
  unfold hitFrom
  rw [List.drop_eq_nil_of_le (by simp; omega)]
  rfl
theorem byte_ne {a b : UInt8} (h : ¬ a = b) : ((a.toNat : Int) == (b.toNat : Int)) = false := by
  rw [beq_eq_false_iff_ne]
  intro e
  exact h (UInt8.toNat_inj.1 (by omega))
theorem byte_eq {a b : UInt8} (h : a = b) : ((a.toNat : Int) == (b.toNat : Int)) = true := by rw [h]; simp
theorem own_drewN {w : World} {base size n : Nat} {e : TypeId} {v : Value} {xs : List Value} (h : w.ownsRow base e size v n xs) (q : Nat) : (w.drewN q).ownsRow base e size v n xs := h

set_option maxHeartbeats 800000 in
set_option maxRecDepth 100000 in
theorem specCutAt_any (s by_ : ByteArray) (w : World) (hs : s.size ≤ 1048576) (hy : by_.size ≤ 1048576) :
    Calls Tryz.prog 85 #[.string s, .string by_] w fun e w' => ∃ v, e = .returned v ∧ w'.ownsRow w.heap.size 9 1 v (cutAtB s by_).length (strsV (cutAtB s by_)) ∧ Below w.heap.size w w' := by
  obtain ⟨i0, hi, hz0, hz1, hz2⟩ := info_parts strInfo
  go_enter Tryz.func85, Tryz.ntmps85
  go_wp2
  go_loopw [5, 6, 7] (fun v st i wr => CutRel s by_ w v st i wr) (fun _ _ i _ => s.size - (intOf i).toNat)
  case atStart => exact ⟨0, Nat.zero_le _, rfl, rfl, ⟨rfl, .inr ⟨w.heap.size, 0, #[], rfl, Nat.le_refl _, heap_alloc_new w _, Nat.le_refl _, Nat.zero_le _, rfl, rfl⟩⟩, (Below.refl _ _).alloc (Nat.le_refl _) _⟩
  case round =>
    obtain ⟨k, hk, rfl, rfl, hown, hb⟩ := hrel
    obtain ⟨wo, rfl⟩ : ∃ wo : World, wo = wr := ⟨_, rfl⟩
    have hcl := cutsTo_le s by_ k
    by_cases hlt : k < s.size
    · go_wp2
      go_loopw [5, 6, 8] (fun v1 st1 j wi => ∃ m q : Nat, m ≤ by_.size ∧ j = .int .i64 m ∧ v1 = u5 ∧ st1 = .int .i64 (cutsTo s by_ k).2 ∧ wi = wo.drewN q ∧ Hid (hitFrom by_ s[k] m = hitB by_ s[k])) (fun _ _ j _ => by_.size - (intOf j).toNat)
      case atStart => exact ⟨0, 0, Nat.zero_le _, rfl, rfl, rfl, rfl, Lib.hid rfl⟩
      case round =>
        obtain ⟨m, q, hm, rfl, rfl, rfl, rfl, HH⟩ := hrel
        by_cases hlm : m < by_.size
        · by_cases he : s[k] = by_[m]
          · have heq := byte_eq he
            have HC := Lib.hid (cutsTo_hit s by_ k hlt (by rw [← HH.out]; exact hitFrom_here by_ s[k] m hlm he))
            clear he
            go_wp2
            go_quiet (fail)
            go_wp2_with (at_builtin; refine wpList_append_own _ rfl (.tmp 29) (.tmp 34) 61 rfl w.heap.size 9 i0 (.string ⟨#[]⟩) 1 16 Tryz.underlying61 hi hz0 hz1 hz2 rfl (by decide) _ _ _ rfl (own_alloc (own_drewN hown _) _) ⟨wo.heap.size, 0, none⟩ 1 1 [.string (s.extract (cutsTo s by_ k).2 k)] rfl rfl (one_new _ _ _) ?c2 ?c3 ?c4 ?c5 ?_)
            case c2 => intro u hu; simp at hu; subst hu; rfl
            case c3 => unfold maxLen; omega
            case c4 => omega
            case c5 => have := hb.size; simp; omega
            intro v1 w1 hown1 hg1 _
            have hb1 := below_push (below_drewN hb (q + nq)) (Nat.le_refl _) (own_drewN hown (q + nq)) hg1
            go_wp2
            exact ⟨cut_step HC.out (by omega) hown1 hb1, by simp [intOf]; omega⟩
          · have hne := byte_ne he
            have HS := Lib.hid ((hitFrom_step by_ s[k] m hlm he).trans HH.out)
            clear he
            go_wp2
            go_quiet (fail)
            go_wp2
            exact ⟨⟨m + 1, _, by omega, by go_num, rfl, rfl, rfl, HS⟩, by simp [intOf]; omega⟩
        · have HC := Lib.hid (cutsTo_miss s by_ k hlt (by rw [← HH.out]; exact hitFrom_end by_ s[k] m hlm))
          go_wp2
          exact ⟨⟨k + 1, by omega, by go_num, by rw [HC.out], by rw [HC.out]; exact own_drewN hown q, below_drewN hb q⟩, by simp [intOf]; omega⟩
    · obtain rfl : k = s.size := by omega
      go_wp2_with (at_builtin; refine wpList_append_own _ rfl (.tmp 38) (.tmp 42) 61 rfl w.heap.size 9 i0 (.string ⟨#[]⟩) 1 16 Tryz.underlying61 hi hz0 hz1 hz2 rfl (by decide) _ _ _ rfl (own_alloc hown _) ⟨wo.heap.size, 0, none⟩ 1 1 [.string (s.extract (cutsTo s by_ s.size).2 s.size)] rfl rfl (one_new _ _ _) ?c2 ?c3 ?c4 ?c5 ?_)
      case c2 => intro u hu; simp at hu; subst hu; rfl
      case c3 => unfold maxLen; omega
      case c4 => omega
      case c5 => have := hb.size; simp; omega
      intro v1 w1 hown1 hg1 _
      have hb1 := below_push hb (Nat.le_refl _) hown hg1
      go_wp2
      go_ret
      exact ⟨v1, rfl, by simpa [cutAtB, strsV] using hown1, hb1⟩
/-- the pieces that a contract hands back -/
def Pieces (P : List ByteArray) (w : World) (e : Ending) (w' : World) : Prop := ∃ v, e = .returned v ∧ w'.ownsRow w.heap.size 9 1 v P.length (strsV P) ∧ Below w.heap.size w w'

theorem cutAt_length (s b : ByteArray) (h : s.size ≤ 1048576) : (cutAtB s b).length ≤ 1048577 := by
  have := cutsTo_le s b s.size
  simp [cutAtB]
  omega

set_option maxHeartbeats 400000 in
set_option maxRecDepth 100000 in
theorem specCut_any (s : ByteArray) (w : World) (hs : s.size ≤ 1048576) : Calls Tryz.prog 47 #[.string s] w (Pieces (cutAtB s ⟨#[32]⟩) w) := by
  go_enter Tryz.func47, Tryz.ntmps47
  go_wp2_with fail
  refine (specCutAt_any s ⟨#[32]⟩ _ hs (by decide)).mono ?_
  rintro e w1 ⟨v, rfl, ho, hb⟩
  go_wp2
  go_ret
  exact ⟨v, rfl, ho, hb⟩


/-- the last piece, and those ahead of it -/
def lastB (s : ByteArray) : ByteArray := s.extract (cutsTo s ⟨#[10]⟩ s.size).2 s.size
def firstB (s : ByteArray) : List ByteArray := (cutsTo s ⟨#[10]⟩ s.size).1
/-- the lines of a text -/
def linesB (s : ByteArray) : List ByteArray := if (lastB s).toList.isEmpty = true then firstB s else firstB s ++ [lastB s]
theorem lines_length (s : ByteArray) (h : s.size ≤ 1048576) : (linesB s).length ≤ 1048577 := by
  have := cutsTo_le s ⟨#[10]⟩ s.size
  unfold linesB firstB
  split
  · omega
  · simp; omega
/-- a row of the call's own, its last element left out -/
theorem own_short {w : World} {base g cap n : Nat} {e : TypeId} {xs : List Value} {x : Value} (h : w.ownsRow base e 1 (.slice (some ⟨g, 0, none⟩) (n + 1) cap) (n + 1) (xs ++ [x])) : w.ownsRow base e 1 (.slice (some ⟨g, 0, none⟩) n cap) n xs := by
  obtain ⟨hl, h | ⟨g', cap', cur, e1, hb, hh, hn, hc, hs, ht⟩⟩ := h
  · cases h.1
  · cases e1
    have hxl : xs.length = n := by simp at hl; omega
    refine ⟨by omega, .inr ⟨g, cap, cur, rfl, hb, hh, by omega, hc, hs, ?_⟩⟩
    have h2 := congrArg (List.take n) ht
    rw [List.take_take, List.take_append_of_le_length (by omega), List.take_of_length_le (l := xs) (by omega)] at h2
    rw [← h2]
    congr 1
    omega



end Go.Proofs.YtcenmdiblbooeaaGreatDoor

namespace Go.Proofs.YtcenmdiblbooeaaGreatDoor
open Go.RowKit

theorem set3_sameR {b : Nat} {x0 x1 x2 c0 c1 c2 : Value} {T : TypeId} {W : World} (hb : BoxAt b #[x0, x1, x2] T W) : BoxAt b #[c0, c1, c2] T (((W.setCell ⟨b, 0, none⟩ c0).setCell ⟨b, 1, none⟩ c1).setCell ⟨b, 2, none⟩ c2) := by
  have hb' : W.heap[b]? = some (.cells #[x0, x1, x2] T (0, 0)) := hb
  simp [BoxAt, World.setCell, Array.getElem?_modify, hb']
theorem pieces_is {P Q : List ByteArray} (e : P = Q) {w w' : World} {n : Ending} (h : Pieces P w n w') : Pieces Q w n w' := e ▸ h
theorem own_len_str {w : World} {base : Nat} {v : Value} {P : List ByteArray} (h : w.ownsRow base 9 1 v P.length (strsV P)) : ∃ A c, v = .slice A P.length c := by
  obtain ⟨_, ⟨rfl, h0⟩ | ⟨g, cap, cur, rfl, _⟩⟩ := h
  · exact ⟨none, 0, by rw [h0]⟩
  · exact ⟨_, _, rfl⟩
set_option maxHeartbeats 4000000 in
set_option maxRecDepth 100000 in
theorem specTextMoney_any (s : ByteArray) (w : World) (hs : s.size ≤ 1048576) :
    Calls Tryz.prog 18 #[.string s] w (PostMb (trM s).1 (trM s).2 w) := by
  have bb0 : Below w.heap.size w (w.alloc (.cells #[.string ⟨#[]⟩, .bool false, .slice none 0 0] 27)) := below_al (Below.refl _ _) _
  have ko := (box_new w #[.string ⟨#[]⟩, .bool false, .slice none 0 0] 27)
  have HKO := Lib.hid (ko.lt w.heap.size (by simp))
  have hts := (hd_tl_size s).2
  have CT := cut_two s
  have hcl := cutAt_length s ⟨#[32]⟩ hs
  obtain ⟨⟨D, db⟩, hD⟩ : ∃ D, trD (tlM s) = D := ⟨_, rfl⟩
  have ED := Lib.hid hD
  have hDl : D.1.2.length ≤ 1048576 := by have h := szD_len (trD_sz (tlM s)); rw [hD] at h; exact h
  obtain ⟨⟨Q, qb⟩, hQ⟩ : ∃ Q, makeM (hdM s) D.1 = Q := ⟨_, rfl⟩
  have EQ := Lib.hid hQ
  have hQl : Q.2.2.length ≤ 1048576 := by have h := (szM_len (makeM_sz (hdM s) D.1)).2; rw [hQ] at h; exact h
  have B1 := Lib.hid (show db = false → trM s = (zeroM, false) from fun h => trM_bad1 (by rw [hD]; exact h))
  have B0 := Lib.hid (show ¬ s = ⟨#[]⟩ → qb = false → trM s = (zeroM, false) from fun h1 h2 => read_no h1 (by rw [hD, hQ]; exact h2))
  have BQ : qb = true → Q = readM s := fun h => by have h2 := read_yes (s := s) (by rw [hD, hQ]; exact h); rw [hD, hQ] at h2; exact congrArg Prod.fst h2
  have B2 := Lib.hid (show qb = true → ¬ textM Q = s → trM s = (zeroM, false) from fun h1 h => trM_bad2 (by rw [← BQ h1]; exact h))
  have B3 := Lib.hid (show qb = true → db = true → textM Q = s → trM s = (Q, true) from fun h0 h1 h2 => by rw [BQ h0] at h2 ⊢; exact trM_good (by rw [hD]; exact h1) h2)
  clear hD hQ BQ
  obtain ⟨P, hP⟩ : ∃ P, trM s = P := ⟨_, rfl⟩
  rw [hP] at B1 B0 B2 B3 CT ⊢
  clear hP
  generalize hPC : cutAtB s ⟨#[32]⟩ = PC at *
  have EPC := Lib.hid hPC
  clear hPC
  go_enter Tryz.func18, Tryz.ntmps18
  go_wp2_with fail
  refine ((specCut_any s _ hs).mono fun _ _ h => pieces_is EPC.out h).mono ?_
  rintro e w1 ⟨v, rfl, ov, b1⟩
  have bb1 := Below.next bb0 b1
  replace ko := ko.below b1
  obtain ⟨Av, cv, rfl⟩ := own_len_str ov
  rcases CT with ⟨rfl, hse⟩ | ⟨hne, hz⟩
  · have hrow := Row.of_own ov
    obtain ⟨Av2, cv2, hv, hcv⟩ := hrow
    cases hv
    obtain ⟨av, rfl, _, hvl, hc0⟩ := hcv 0 _ rfl
    obtain ⟨av2, hav, _, _, hc1⟩ := hcv 1 _ rfl
    cases hav
    clear hcv ov
    replace hc1 : w1.cell? ⟨av.block, av.off + 1, none⟩ = some (.string (tlM s)) := by simpa [Addr.add] using hc1
    replace hc0 : w1.cell? av = some (.string (hdM s)) := by simpa [Addr.add] using hc0
    replace hvl : av.block < w1.heap.size := by simpa [Addr.add] using hvl
    generalize hdM s = C at *
    generalize tlM s = L at *
    have HC0 := Lib.hid hc0
    have HC1 := Lib.hid hc1
    clear hc0
    have hcl2 : ([C, L] : List ByteArray).length = 2 := rfl
    rw [hcl2]
    clear hcl2 hcl
    go_wp2_with fail
    clear hc1
    refine ((specTextDec_any L _ (by omega)).mono fun _ _ h => postDb_is ED.out h).mono ?_
    rintro e w2 ⟨ud, Sd, rfl, od, ld, b2⟩
    obtain ⟨Ad, cd, rfl⟩ := ownD_form od.here
    have bb2 := Below.next bb1 b2
    replace ko := ko.below b2
    have kd := box_new (w2) #[.bool D.1.1, .slice Ad D.1.2.length cd, .int .i64 D.2] 67
    have ald := below_al (Below.refl (w2).heap.size (w2)) (.cells #[.bool D.1.1, .slice Ad D.1.2.length cd, .int .i64 D.2] 67)
    have bbd := Below.next bb2 ald
    replace ko := ko.below ald
    replace od := od.below ald
    have hc0 := (ald.cell (p := av) (Nat.lt_of_lt_of_le hvl b2.size)).trans ((b2.cell (p := av) hvl).trans HC0.out)
    have hzW : (w2.alloc (.cells #[.bool D.1.1, .slice Ad D.1.2.length cd, .int .i64 D.2] 67)).heap.size = w2.heap.size + 1 := by simp
    have hvl2 : av.block < (w2.alloc (.cells #[.bool D.1.1, .slice Ad D.1.2.length cd, .int .i64 D.2] 67)).heap.size := Nat.lt_of_lt_of_le hvl (Nat.le_trans b2.size ald.size)
    obtain ⟨V, hV⟩ : ∃ V, V = (w2.alloc (.cells #[.bool D.1.1, .slice Ad D.1.2.length cd, .int .i64 D.2] 67)) := ⟨_, rfl⟩
    have kd_c0 := kd.here.cell 0 _ rfl
    have kd_c1 := kd.here.cell 1 _ rfl
    have kd_c2 := kd.here.cell 2 _ rfl
    go_upto_region 5 with fail
    go_cut [7, 8] (fun s1 s2 wx => ∃ (g : Nat) (Am : Option Addr) (cm : Nat) (Sm : List Nat), s1 = .pointer (some ⟨g, 0, none⟩) ∧ s2 = .bool qb ∧ At [g] (BoxAt g #[.string Q.1, .bool Q.2.1, .slice Am Q.2.2.length cm] 27) wx ∧ At Sm (OwnM (.agg #[.string Q.1, .bool Q.2.1, .slice Am Q.2.2.length cm]) Q) wx ∧ (∀ i ∈ Sm, i ∈ Sd) ∧ Below w.heap.size w wx ∧ Below (w2.alloc (.cells #[.bool D.1.1, .slice Ad D.1.2.length cd, .int .i64 D.2] 67)).heap.size (w2.alloc (.cells #[.bool D.1.1, .slice Ad D.1.2.length cd, .int .i64 D.2] 67)) wx)
    case first =>
      have HC0 := Lib.hid (show Below (w2.alloc (.cells #[.bool D.1.1, .slice Ad D.1.2.length cd, .int .i64 D.2] 67)).heap.size (w2.alloc (.cells #[.bool D.1.1, .slice Ad D.1.2.length cd, .int .i64 D.2] 67)) (w2.alloc (.cells #[.bool D.1.1, .slice Ad D.1.2.length cd, .int .i64 D.2] 67)).drew from (Below.refl _ _).drew)
      have KL := Lib.hid (show ∀ X, Below (w2.alloc (.cells #[.bool D.1.1, .slice Ad D.1.2.length cd, .int .i64 D.2] 67)).heap.size (w2.alloc (.cells #[.bool D.1.1, .slice Ad D.1.2.length cd, .int .i64 D.2] 67)) X → X.cell? av = some (.string C) ∧ X.cell? ⟨w2.heap.size, 0, none⟩ = some (.bool D.1.1) ∧ X.cell? ⟨w2.heap.size, 1, none⟩ = some (.slice Ad D.1.2.length cd) ∧ Hid (Below (w2.alloc (.cells #[.bool D.1.1, .slice Ad D.1.2.length cd, .int .i64 D.2] 67)).heap.size (w2.alloc (.cells #[.bool D.1.1, .slice Ad D.1.2.length cd, .int .i64 D.2] 67)) X) from fun X hb => ⟨(hb.cell (p := av) hvl2).trans hc0, (kd.below hb).here.cell 0 _ rfl, (kd.below hb).here.cell 1 _ rfl, Lib.hid hb⟩)
      have OSF := Lib.hid (show ∀ X, Below (w2.alloc (.cells #[.bool D.1.1, .slice Ad D.1.2.length cd, .int .i64 D.2] 67)).heap.size (w2.alloc (.cells #[.bool D.1.1, .slice Ad D.1.2.length cd, .int .i64 D.2] 67)) X → At Sd (OwnS (.agg #[.bool D.1.1, .slice Ad D.1.2.length cd]) D.1) X from fun X hb => (od.below hb).imp fun _ h => OwnS.mk (ownD_open h))
      have BWF := Lib.hid bbd
      clear kd_c0 kd_c1 kd_c2
      go_region_held3 (fun X => X.cell? av = some (.string C) ∧ X.cell? ⟨w2.heap.size, 0, none⟩ = some (.bool D.1.1) ∧ X.cell? ⟨w2.heap.size, 1, none⟩ = some (.slice Ad D.1.2.length cd) ∧ Hid (Below (w2.alloc (.cells #[.bool D.1.1, .slice Ad D.1.2.length cd, .int .i64 D.2] 67)).heap.size (w2.alloc (.cells #[.bool D.1.1, .slice Ad D.1.2.length cd, .int .i64 D.2] 67)) X))
        ((refine KL.out _ ?_; (first | exact HC1.out | exact below_al HC1.out _ | exact below_set3 HC1.out (Nat.le_of_eq hzW) | exact HC0.out | exact below_al HC0.out _ | exact Below.refl _ _ | fail)))
        (first
          | (go_at_call 49; (have hBB := (‹_ ∧ _ ∧ _ ∧ Hid (Below (w2.alloc (.cells #[.bool D.1.1, .slice Ad D.1.2.length cd, .int .i64 D.2] 67)).heap.size (w2.alloc (.cells #[.bool D.1.1, .slice Ad D.1.2.length cd, .int .i64 D.2] 67)) _)›).2.2.2); (with_reducible refine ((l09Make_any C _ D.1 _ _ hDl (OSF.out _ hBB.out)).mono fun _ _ h => keptM_eq EQ.out h).mono ?_); rintro e wq ⟨um, Sm, rfl, om, sm, bq⟩; obtain ⟨Am, cm, rfl⟩ := ownM_form om.here; have HC1 := Lib.hid (Below.next hBB.out bq); (first | (have hbxf : At [(w2.alloc (.cells #[.bool D.1.1, .slice Ad D.1.2.length cd, .int .i64 D.2] 67)).heap.size] (BoxAt (w2.alloc (.cells #[.bool D.1.1, .slice Ad D.1.2.length cd, .int .i64 D.2] 67)).heap.size #[.string ⟨#[]⟩, .bool false, .slice none 0 0] 27) wq := At.below (box_new (w2.alloc (.cells #[.bool D.1.1, .slice Ad D.1.2.length cd, .int .i64 D.2] 67)).drew #[.string ⟨#[]⟩, .bool false, .slice none 0 0] 27) bq; rw [hzW] at hbxf; have cz0 := hbxf.here.cell 0 _ rfl; have cz1 := hbxf.here.cell 1 _ rfl; have cz2 := hbxf.here.cell 2 _ rfl; have fz0 := Lib.frozen_of_heap hbxf.here 0; have fz1 := Lib.frozen_of_heap hbxf.here 1; have fz2 := Lib.frozen_of_heap hbxf.here 2) | skip); clear hBB))
      all_goals (go_wp2_with fail; go_meet; first | exact ⟨_, Am, cm, Sm, rfl, rfl, box_new _ _ _, om.below (below_al (Below.refl _ _) _), sm, below_al (Below.next BWF.out HC1.out) _, below_al HC1.out _⟩ | exact ⟨_, Am, cm, Sm, rfl, rfl, box_at (set3_sameR hbxf.here), om.chg chg_set3M (fun i hi hm => by have := (ld i (sm i hi)).2; simp at hm; omega), sm, below_set3 (Below.next BWF.out HC1.out) (by have := BWF.out.size; omega), below_set3 HC1.out (Nat.le_of_eq hzW)⟩)
    rename World => w3
    clear kd_c0 kd_c1 kd_c2
    obtain ⟨gm, Am, cm, Sm, rfl, rfl, km, om, sm, bbx, b3⟩ := hcut
    have bb3 := Below.next bbd b3
    replace ko := ko.below b3
    replace od := od.below b3
    replace kd := kd.below b3
    cases db with
    | false =>
      have HV := Lib.hid (B1.out (by simp))
      have cz0 := ko.here.cell 0 _ rfl
      have fz0 := Lib.frozen_of_heap ko.here 0
      have cz1 := ko.here.cell 1 _ rfl
      have fz1 := Lib.frozen_of_heap ko.here 1
      have cz2 := ko.here.cell 2 _ rfl
      have fz2 := Lib.frozen_of_heap ko.here 2
      go_wp2
      refine bodyPost_ret (v := .tuple #[.agg #[.string ⟨#[]⟩, .bool false, .slice none 0 0], .bool false]) (by simp [results, Tryz.results18, go_sem, cz0, cz1, cz2]) rfl ?_
      rw [HV.out]
      first | exact newMb_zero _ bb3 | exact newMb_zero _ (below_set3 bb3 (by omega))
    | true =>
      cases qb with
      | false =>
        have HV := Lib.hid (B0.out hse (by simp))
        have cz0 := ko.here.cell 0 _ rfl
        have fz0 := Lib.frozen_of_heap ko.here 0
        have cz1 := ko.here.cell 1 _ rfl
        have fz1 := Lib.frozen_of_heap ko.here 1
        have cz2 := ko.here.cell 2 _ rfl
        have fz2 := Lib.frozen_of_heap ko.here 2
        go_wp2
        refine bodyPost_ret (v := .tuple #[.agg #[.string ⟨#[]⟩, .bool false, .slice none 0 0], .bool false]) (by simp [results, Tryz.results18, go_sem, cz0, cz1, cz2]) rfl ?_
        rw [HV.out]
        first | exact newMb_zero _ bb3 | exact newMb_zero _ (below_set3 bb3 (by omega))
      | true =>
        obtain ⟨T, hT⟩ : ∃ T, textM Q = T := ⟨_, rfl⟩
        have ET := Lib.hid hT
        rw [hT] at B2 B3
        clear hT
        have km_c0 := km.here.cell 0 _ rfl
        have km_c1 := km.here.cell 1 _ rfl
        have km_c2 := km.here.cell 2 _ rfl
        go_wp2_with fail
        clear km_c0 km_c1 km_c2
        refine ((specMoneyText_any _ Q _ hQl om.here).mono fun _ _ h => postT_isM ET.out h).mono ?_
        rintro e w4 ⟨rfl, b4⟩
        have bb4 := Below.next bb3 b4
        replace ko := ko.below b4
        replace od := od.below b4
        replace kd := kd.below b4
        replace km := km.below b4
        replace om := om.below b4
        by_cases he : T = s
        · have HV := Lib.hid (B3.out (by simp) (by simp) he)
          rw [he]
          have HW := Lib.hid (newMb_at (r := w.heap.size) (b := true) (B := w.heap.size + 1) om (fun i hi => ⟨by have := (ld i (sm i hi)).1; have := HKO.out; have := bb1.size; simp at *; omega, om.lt i hi⟩) (by omega) (Nat.le_refl _) bb4)
          have cz0 := ko.here.cell 0 _ rfl
          have fz0 := Lib.frozen_of_heap ko.here 0
          have cz1 := ko.here.cell 1 _ rfl
          have fz1 := Lib.frozen_of_heap ko.here 1
          have cz2 := ko.here.cell 2 _ rfl
          have fz2 := Lib.frozen_of_heap ko.here 2
          have km_c0 := km.here.cell 0 _ rfl
          have km_c1 := km.here.cell 1 _ rfl
          have km_c2 := km.here.cell 2 _ rfl
          clear he om od ko kd km ld
          go_wp2
          refine bodyPost_ret (v := .tuple #[.agg #[.string Q.1, .bool Q.2.1, .slice Am Q.2.2.length cm], .bool true]) (by simp [results, Tryz.results18, go_sem, cz0, cz1, cz2]) rfl ?_
          rw [HV.out]
          exact HW.out
        · have HV := Lib.hid (B2.out (by simp) he)
          have hbe0 := bytes_neC he
          have hbe : (T.toList != s.toList) = true := by rw [bne, hbe0]; rfl
          clear he om od kd km
          have cz0 := ko.here.cell 0 _ rfl
          have fz0 := Lib.frozen_of_heap ko.here 0
          have cz1 := ko.here.cell 1 _ rfl
          have fz1 := Lib.frozen_of_heap ko.here 1
          have cz2 := ko.here.cell 2 _ rfl
          have fz2 := Lib.frozen_of_heap ko.here 2
          go_wp2
          refine bodyPost_ret (v := .tuple #[.agg #[.string ⟨#[]⟩, .bool false, .slice none 0 0], .bool false]) (by simp [results, Tryz.results18, go_sem, cz0, cz1, cz2]) rfl ?_
          rw [HV.out]
          first | exact newMb_zero _ bb4 | exact newMb_zero _ (below_set3 bb4 (by omega))
  · have HV := Lib.hid hz
    have hln : ((PC.length : Int) != 2) = true := by rw [bne_iff_ne]; omega
    clear hne hz ov
    have cz0 := ko.here.cell 0 _ rfl
    have fz0 := Lib.frozen_of_heap ko.here 0
    have cz1 := ko.here.cell 1 _ rfl
    have fz1 := Lib.frozen_of_heap ko.here 1
    have cz2 := ko.here.cell 2 _ rfl
    have fz2 := Lib.frozen_of_heap ko.here 2
    go_wp2
    refine bodyPost_ret (v := .tuple #[.agg #[.string ⟨#[]⟩, .bool false, .slice none 0 0], .bool false]) (by simp [results, Tryz.results18, go_sem, cz0, cz1, cz2]) rfl ?_
    rw [HV.out]
    first | exact newMb_zero _ bb1 | exact newMb_zero _ (below_set3 bb1 (by omega))
end Go.Proofs.YtcenmdiblbooeaaGreatDoor
