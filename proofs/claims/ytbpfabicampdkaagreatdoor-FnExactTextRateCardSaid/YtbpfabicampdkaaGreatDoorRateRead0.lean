/-
  Texts of rates in plain words: what is read.
-/
import Derived.Test.YtbpfabicampdkaaGreatDoorJB11
namespace Go.Proofs.YtbpfabicampdkaaGreatDoor
open Go.RowKit

def readE (s : ByteArray) : EI := (hdM s, hdM (tlM s), (trD (tlM (tlM s))).1)
def trE (s : ByteArray) : EI × Bool := if (trD (tlM (tlM s))).2 = true ∧ okE (readE s) = true then (readE s, true) else (zeroE, false)
theorem trE_bad1 {s : ByteArray} (h : (trD (tlM (tlM s))).2 = false) : trE s = (zeroE, false) := by
  unfold trE
  rw [if_neg]
  rintro ⟨h1, _⟩
  rw [h] at h1
  cases h1
theorem trE_bad2 {s : ByteArray} (h : ¬ okE (readE s) = true) : trE s = (zeroE, false) := by
  unfold trE
  rw [if_neg (fun hp => h hp.2)]
theorem trE_good {s : ByteArray} (h : (trD (tlM (tlM s))).2 = true) (h2 : okE (readE s) = true) : trE s = (readE s, true) := by
  unfold trE
  rw [if_pos ⟨h, h2⟩]
theorem trE_sz (s : ByteArray) : szE (trE s).1 ≤ 1048576 := by
  unfold trE
  split
  · rename_i h
    have h1 := textE_sizes h.2
    have h2 := trD_sz (tlM (tlM s))
    have e : (readE s).2.2 = (trD (tlM (tlM s))).1 := rfl
    have h3 := (okE_parts h.2).2.2.2.2.2
    unfold szE
    have h4 : szD (readE s).2.2 ≤ 3 := by unfold szD szS szI; omega
    dsimp only
    omega
  · decide
/-! ### a text is its pieces at the first space -/
theorem tl_none {s : ByteArray} (h : spaceAt s = -1) : tlM s = ⟨#[]⟩ := by unfold tlM; rw [if_pos (by omega)]
theorem hd_some {s : ByteArray} {o : Nat} (h : spaceAt s = o) : hdM s = s.extract 0 o := by unfold hdM; rw [if_neg (by omega), h, Int.toNat_natCast]
theorem tl_some {s : ByteArray} {o : Nat} (h : spaceAt s = o) : tlM s = s.extract (o + 1) s.size := by unfold tlM; rw [if_neg (by omega), h, Int.toNat_natCast]
theorem byte_ext {a b : ByteArray} (h : a.data.toList = b.data.toList) : a = b := by
  apply ByteArray.ext
  apply Array.toList_inj.1
  exact h
theorem put_back {s : ByteArray} {o : Nat} (h : spaceAt s = o) : hdM s ++ ⟨#[32]⟩ ++ tlM s = s := by
  obtain ⟨h1, _⟩ := Lib.indexByte_some h
  have ho := (List.getElem?_eq_some_iff.1 h1).1
  apply byte_ext
  rw [hd_some h, tl_some h]
  rw [ByteArray.data_append, ByteArray.data_append, Array.toList_append, Array.toList_append, extract_listD, extract_listD, List.drop_zero, List.take_of_length_le (Nat.le_of_eq (listB_len s))]
  have e : s.data.toList = s.data.toList.take o ++ (32 :: s.data.toList.drop (o + 1)) := by
    have h2 := List.take_append_drop o s.data.toList
    rw [List.drop_eq_getElem_cons ho, (List.getElem?_eq_some_iff.1 h1).2] at h2
    exact h2.symm
  rw [List.append_assoc]
  exact e.symm
theorem nospace_cut {s : ByteArray} (h : spaceAt s = -1) : cutAtB s ⟨#[32]⟩ = [s] := by
  have hn := space_no _ h
  unfold cutAtB
  rw [cuts_none s s.size (fun j hj he => hn _ (getD_mem (l := s.data.toList) hj) he)]
  show [] ++ [s.extract 0 s.size] = [s]
  rw [List.nil_append, ByteArray.extract_zero_size]
theorem cuts_shift {s : ByteArray} {o : Nat} (h : spaceAt s = o) (k : Nat) (hk : k ≤ (tlM s).size) : cutsTo s ⟨#[32]⟩ (o + 1 + k) = (hdM s :: (cutsTo (tlM s) ⟨#[32]⟩ k).1, o + 1 + (cutsTo (tlM s) ⟨#[32]⟩ k).2) := by
  obtain ⟨h1, h2⟩ := Lib.indexByte_some h
  have ho := (List.getElem?_eq_some_iff.1 h1).1
  have hb : ∀ j, j < o → ¬ s.data.toList.getD j 0 = 32 := fun j hj he => h2 j hj (by
    rw [← he, List.getD_eq_getElem?_getD, List.getElem?_eq_getElem (by omega)]
    rfl)
  have hsz : (tlM s).size = s.size - (o + 1) := by rw [tl_some h, ByteArray.size_extract]; omega
  have hlist : (tlM s).data.toList = s.data.toList.drop (o + 1) := by rw [tl_some h, extract_listD, List.take_of_length_le (Nat.le_of_eq (listB_len s))]
  induction k with
  | zero =>
    show cutsTo s ⟨#[32]⟩ (o + 1) = _
    unfold cutsTo
    rw [hit32, decide_eq_true (getD_of h1), if_pos rfl, cuts_none s o hb, hd_some h]
    rfl
  | succ k ih =>
    have ih := ih (by omega)
    have e1 : cutsTo s ⟨#[32]⟩ (o + 1 + (k + 1)) = if hitB ⟨#[32]⟩ (s.data.toList.getD (o + 1 + k) 0) then ((cutsTo s ⟨#[32]⟩ (o + 1 + k)).1 ++ [s.extract (cutsTo s ⟨#[32]⟩ (o + 1 + k)).2 (o + 1 + k)], o + 1 + k + 1) else cutsTo s ⟨#[32]⟩ (o + 1 + k) := rfl
    have e2 : cutsTo (tlM s) ⟨#[32]⟩ (k + 1) = if hitB ⟨#[32]⟩ ((tlM s).data.toList.getD k 0) then ((cutsTo (tlM s) ⟨#[32]⟩ k).1 ++ [(tlM s).extract (cutsTo (tlM s) ⟨#[32]⟩ k).2 k], k + 1) else cutsTo (tlM s) ⟨#[32]⟩ k := rfl
    have eg : (tlM s).data.toList.getD k 0 = s.data.toList.getD (o + 1 + k) 0 := by
      rw [hlist, List.getD_eq_getElem?_getD, List.getElem?_drop, List.getD_eq_getElem?_getD]
    rw [e1, e2, eg, ih]
    split
    · have ee : (tlM s).extract (cutsTo (tlM s) ⟨#[32]⟩ k).2 k = s.extract (o + 1 + (cutsTo (tlM s) ⟨#[32]⟩ k).2) (o + 1 + k) := by
        apply byte_ext
        rw [extract_listD, extract_listD, hlist]
        rw [List.take_drop, List.drop_drop]
      rw [ee]
      rfl
    · rfl
theorem cut_cons {s : ByteArray} {o : Nat} (h : spaceAt s = o) : cutAtB s ⟨#[32]⟩ = hdM s :: cutAtB (tlM s) ⟨#[32]⟩ := by
  have ho := space_lt h
  have hsz : (tlM s).size = s.size - (o + 1) := by rw [tl_some h, ByteArray.size_extract]; omega
  have e := cuts_shift h (tlM s).size (Nat.le_refl _)
  rw [show o + 1 + (tlM s).size = s.size by omega] at e
  unfold cutAtB
  rw [e]
  show hdM s :: (cutsTo (tlM s) ⟨#[32]⟩ (tlM s).size).1 ++ [s.extract (o + 1 + (cutsTo (tlM s) ⟨#[32]⟩ (tlM s).size).2) s.size] = _
  have ee : s.extract (o + 1 + (cutsTo (tlM s) ⟨#[32]⟩ (tlM s).size).2) s.size = (tlM s).extract (cutsTo (tlM s) ⟨#[32]⟩ (tlM s).size).2 (tlM s).size := by
    apply byte_ext
    rw [extract_listD, extract_listD, ← List.drop_drop, List.take_of_length_le (Nat.le_of_eq (listB_len s)), List.take_of_length_le (Nat.le_of_eq (listB_len _))]
    rw [tl_some h, extract_listD, List.take_of_length_le (Nat.le_of_eq (listB_len s))]
  rw [ee]
  rfl
/-- either the text is three pieces, or it is not read -/
theorem cut_three (s : ByteArray) : (cutAtB s ⟨#[32]⟩ = [hdM s, hdM (tlM s), tlM (tlM s)] ∧ hdM s ++ ⟨#[32]⟩ ++ hdM (tlM s) ++ ⟨#[32]⟩ ++ tlM (tlM s) = s) ∨ (¬ (cutAtB s ⟨#[32]⟩).length = 3 ∧ trE s = (zeroE, false)) := by
  have h0 : tlM ⟨#[]⟩ = ⟨#[]⟩ := by decide
  rcases space_cases s with h | ⟨o, h, ho⟩
  · right
    rw [nospace_cut h]
    exact ⟨fun hh => by simp at hh, trE_bad1 (by rw [tl_none h, h0]; exact trD_none)⟩
  · rw [cut_cons h]
    rcases space_cases (tlM s) with h2 | ⟨o2, h2, ho2⟩
    · right
      rw [nospace_cut h2]
      exact ⟨fun hh => by simp at hh, trE_bad1 (by rw [tl_none h2]; exact trD_none)⟩
    · rw [cut_cons h2]
      rcases space_cases (tlM (tlM s)) with h3 | ⟨o3, h3, ho3⟩
      · left
        rw [nospace_cut h3]
        refine ⟨rfl, ?_⟩
        have e1 := put_back h
        have e2 := put_back h2
        rw [← e2] at e1
        rw [← ByteArray.append_assoc, ← ByteArray.append_assoc] at e1
        exact e1
      · right
        rw [cut_cons h3]
        refine ⟨?_, trE_bad1 (trD_space ?_)⟩
        · have : 1 ≤ (cutAtB (tlM (tlM (tlM s))) ⟨#[32]⟩).length := by unfold cutAtB; rw [List.length_append]; simp
          simp only [List.length_cons]
          omega
        · obtain ⟨h1, _⟩ := Lib.indexByte_some h3
          exact List.mem_of_getElem? h1
/-- three pieces of a right rate are its text -/
theorem text_readE {s : ByteArray} (hd : (trD (tlM (tlM s))).2 = true) (ho : okE (readE s) = true) (h : hdM s ++ ⟨#[32]⟩ ++ hdM (tlM s) ++ ⟨#[32]⟩ ++ tlM (tlM s) = s) : textE (readE s) = s := by
  rw [textE_yes ho]
  show hdM s ++ ⟨#[32]⟩ ++ hdM (tlM s) ++ ⟨#[32]⟩ ++ textD (trD (tlM (tlM s))).1 = s
  rw [(trD_yes hd).2]
  exact h
end Go.Proofs.YtbpfabicampdkaaGreatDoor
