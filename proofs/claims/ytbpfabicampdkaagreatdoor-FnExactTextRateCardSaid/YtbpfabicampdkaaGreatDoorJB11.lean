/-
  Texts of decimal numbers as package impl reads them: cut at the minus and at the point, the noughts ahead trimmed off.
  A text in pieces, in plain words: cut at every byte that occurs in another one.
  Texts of amounts in plain words: how one is written, and what is read.
  strings.Cut at a space.
  What TextNat of package impl returns.
  strings.Cut at a point, strings.TrimLeft of noughts.
  Chapter 8 of package impl: DecText, TextDec.
  Chapter 8 of package spec: DecText.
  Chapter 8 of package spec: TextDec.
  Texts of rates in plain words.
-/
import Derived.Lib.IndexLaws
import Derived.Lib.TrimByte
import Derived.Deep.DeepCutAuto
import Derived.Deep.RegionLaw
import Derived.Deep.AppendLies
import Derived.Deep.RegionHeld3
import Derived.IntWalk
import Derived.Test.YtbpfabicampdkaaGreatDoorJB10
namespace Go.Proofs.YtbpfabicampdkaaGreatDoor
open Go.RowKit

def pointAt (s : ByteArray) : Int := Lib.indexByte s.data.toList 46
/-- what stands ahead of the first point, and behind it -/
def preB (s : ByteArray) : ByteArray := if pointAt s < 0 then s else s.extract 0 (pointAt s).toNat
def postB (s : ByteArray) : ByteArray := if pointAt s < 0 then ⟨#[]⟩ else s.extract ((pointAt s).toNat + 1) s.size
def magB (s : ByteArray) : ByteArray := ⟨(Lib.trimLeftB (preB s ++ postB s).data.toList 48).toArray⟩
/-- the number that package impl reads -/
def parseI (s : ByteArray) : DI := ((negB s, tnR (magB (bareB s))), ((postB (bareB s)).size : Int))
theorem index_hitP (a b : List UInt8) (h : ∀ c ∈ a, c ≠ 46) : Lib.indexByte (a ++ 46 :: b) 46 = a.length := by
  have hg := Lib.indexByte_ge (a ++ 46 :: b) 46
  have hat : (a ++ 46 :: b)[a.length]? = some 46 := by rw [List.getElem?_append_right (Nat.le_refl _), Nat.sub_self]; rfl
  by_cases e : Lib.indexByte (a ++ 46 :: b) 46 = -1
  · exact absurd hat (Lib.indexByte_none e _)
  · have ho : Lib.indexByte (a ++ 46 :: b) 46 = ((Lib.indexByte (a ++ 46 :: b) 46).toNat : Nat) := by omega
    obtain ⟨h1, h2⟩ := Lib.indexByte_some ho
    generalize (Lib.indexByte (a ++ 46 :: b) 46).toNat = o at *
    rcases Nat.lt_trichotomy o a.length with hl | hl | hl
    · rw [List.getElem?_append_left hl] at h1
      exact absurd rfl (h 46 (List.mem_of_getElem? h1))
    · rw [ho, hl]
    · exact absurd hat (h2 _ hl)
theorem index_noneP (a : List UInt8) (h : ∀ c ∈ a, c ≠ 46) : Lib.indexByte a 46 = -1 := by
  have hg := Lib.indexByte_ge a 46
  by_cases e : Lib.indexByte a 46 = -1
  · exact e
  · have ho : Lib.indexByte a 46 = ((Lib.indexByte a 46).toNat : Nat) := by omega
    obtain ⟨h1, _⟩ := Lib.indexByte_some ho
    exact absurd rfl (h 46 (List.mem_of_getElem? h1))
theorem chr_eqT {k : Nat} (h : k < 10) : (UInt8.ofNat (48 + k) = 48) ↔ k = 0 := by
  constructor
  · intro e
    have e2 := congrArg UInt8.toNat e
    rw [UInt8.toNat_ofNat'] at e2
    have : (48 : UInt8).toNat = 48 := rfl
    omega
  · rintro rfl; rfl
theorem parts_some (s : ByteArray) (a b : List UInt8) (hs : s.data.toList = a ++ 46 :: b) (h : ∀ c ∈ a, c ≠ 46) : (preB s).data.toList = a ∧ (postB s).data.toList = b := by
  have hp : pointAt s = a.length := by unfold pointAt; rw [hs]; exact index_hitP a b h
  have hn : ¬ pointAt s < 0 := by omega
  unfold preB postB
  rw [if_neg hn, if_neg hn, hp, Int.toNat_natCast, extract_listD, extract_listD, List.drop_zero, hs]
  refine ⟨List.take_left .., ?_⟩
  have hsz : s.size = (a ++ 46 :: b).length := by rw [← listB_len, hs]
  rw [hsz, List.take_length]
  have : (a ++ 46 :: b).drop (a.length + 1) = b := by
    rw [List.drop_append, List.drop_of_length_le (by omega), show a.length + 1 - a.length = 1 by omega]
    rfl
  exact this
theorem parts_none (s : ByteArray) (h : ∀ c ∈ s.data.toList, c ≠ 46) : preB s = s ∧ postB s = ⟨#[]⟩ := by
  have hp : pointAt s = -1 := index_noneP _ h
  unfold preB postB
  rw [if_pos (by omega), if_pos (by omega)]
  exact ⟨rfl, rfl⟩
theorem bare_text {d : DI} (h : okD d = true) : negB (textD d) = d.1.1 ∧ (bareB (textD d)).data.toList = if 0 < d.2 then (bodyD d).data.toList.take ((bodyD d).size - d.2.toNat) ++ 46 :: (bodyD d).data.toList.drop ((bodyD d).size - d.2.toNat) else (bodyD d).data.toList := by
  have hp := (parse_text h).1
  have hn : negB (textD d) = d.1.1 := congrArg (fun x : DI => x.1.1) hp
  have e := text_list h
  refine ⟨hn, ?_⟩
  cases hs : d.1.1 with
  | true =>
    rw [hs] at e hn
    rw [if_pos rfl] at e
    rw [bareB_data, e]
    rfl
  | false =>
    rw [hs] at e hn
    rw [if_neg (by decide), List.nil_append] at e
    rw [bareB_self _ hn, e]
theorem trim_pad (n m : Nat) : Lib.trimLeftB (List.replicate m 48 ++ Lib.decDigits n) 48 = if n = 0 then [] else Lib.decDigits n := by
  unfold Lib.trimLeftB
  induction m with
  | zero =>
    rw [List.replicate_zero, List.nil_append]
    by_cases h0 : n = 0
    · subst h0
      rw [if_pos rfl, dec_small 0 (by omega)]
      rfl
    · rw [if_neg h0]
      have hh : ∃ c r, Lib.decDigits n = c :: r ∧ ¬ c = 48 := by
        by_cases hs : n < 10
        · refine ⟨_, _, dec_small n hs, ?_⟩
          rw [chr_eqT hs]
          exact h0
        · have hd := dec_head n (by omega)
          cases hl : Lib.decDigits n with
          | nil => exact absurd hl (dig_dec n).2
          | cons c r =>
            rw [hl] at hd
            exact ⟨c, r, rfl, hd⟩
      obtain ⟨c, r, e, hc⟩ := hh
      rw [e]
      exact List.dropWhile_cons_of_neg (by simpa using hc)
  | succ m ih =>
    rw [List.replicate_succ, List.cons_append, List.dropWhile_cons_of_pos (by rfl)]
    exact ih
theorem tn_empty : tnR ⟨#[]⟩ = [] := by
  unfold tnR
  rw [if_neg]
  intro h
  rw [decOk_dig ⟨#[]⟩ (by
    by_cases hd : digitsB ⟨#[]⟩ = true
    · exact absurd rfl ((digitsB_iff _).1 hd).2
    · simpa using hd)] at h
  exact absurd h (by decide)
/-- a written number is read back -/
theorem parseI_text {d : DI} (h : okD d = true) : parseI (textD d) = d := by
  obtain ⟨n, m, b⟩ := body_of h
  have p := partsD h
  have hlo := p.lo
  have hb := bare_text h
  have pt := parse_text h
  have hlong := b.long
  have key : (preB (bareB (textD d)) ++ postB (bareB (textD d))).data.toList = (bodyD d).data.toList ∧ ((postB (bareB (textD d))).size : Int) = d.2 := by
    have hl := hb.2
    by_cases h0 : 0 < d.2
    · rw [if_pos h0] at hl
      have q := parts_some _ _ _ hl (dig_no (dig_take b.dig _))
      constructor
      · rw [ByteArray.data_append, Array.toList_append, q.1, q.2, List.take_append_drop]
      · rw [← listB_len, q.2, List.length_drop, listB_len]
        omega
    · rw [if_neg h0] at hl
      have q := parts_none (bareB (textD d)) (by rw [hl]; exact dig_no b.dig)
      constructor
      · rw [ByteArray.data_append, Array.toList_append, q.1, q.2, hl]
        exact List.append_nil _
      · rw [q.2]
        show (0 : Int) = _
        omega
  have hmag : tnR (magB (bareB (textD d))) = d.1.2 := by
    have hl : (magB (bareB (textD d))).data.toList = if n = 0 then [] else Lib.decDigits n := by
      show Lib.trimLeftB _ 48 = _
      rw [key.1, b.list, trim_pad]
    by_cases hn : n = 0
    · rw [if_pos hn] at hl
      have e : magB (bareB (textD d)) = ⟨#[]⟩ := listB (by rw [hl])
      rw [e, tn_empty, b.mag, hn, limbs_zero]
    · rw [if_neg hn] at hl
      have hr : magB (bareB (textD d)) = rawB (textD d) := listB (by
        rw [hl]
        show _ = stripL (rawL (textD d).data.toList)
        have hraw : rawL (textD d).data.toList = (bodyD d).data.toList := by
          rw [text_list h, raw_app]
          have h1 : rawL (if d.1.1 = true then [45] else []) = [] := by split <;> rfl
          rw [h1, List.nil_append]
          split
          · exact raw_point b.dig _
          · exact raw_dig b.dig
        rw [hraw, b.list]
        exact (strip_pad n m).symm)
      rw [hr]
      exact congrArg (fun x : DI => x.1.2) pt.1
  unfold parseI
  rw [hb.1, hmag, key.2]
theorem parseI_empty : parseI ⟨#[]⟩ = zeroD := by
  have hn : negB ⟨#[]⟩ = false := negB_nil _ (by decide)
  have hb : bareB ⟨#[]⟩ = ⟨#[]⟩ := bareB_self _ hn
  have q := parts_none ⟨#[]⟩ (fun c hc => by cases hc)
  unfold parseI
  rw [hn, hb, q.2]
  have e : magB ⟨#[]⟩ = ⟨#[]⟩ := by unfold magB; rw [q.1, q.2]; rfl
  rw [e, tn_empty]
  rfl
/-- TextDec as package impl reckons it -/
theorem trD_impl (s : ByteArray) : (if textD (parseI s) = s then (parseI s, true) else (zeroD, false)) = trD s := by
  by_cases hx : textD (parseI s) = s
  · rw [if_pos hx]
    by_cases ok : okD (parseI s) = true
    · have := trD_text ok
      rw [hx] at this
      exact this.symm
    · exfalso
      have e : textD (parseI s) = ⟨#[]⟩ := by unfold textD; rw [if_neg ok]
      rw [e] at hx
      rw [← hx, parseI_empty] at ok
      exact ok (by decide)
  · rw [if_neg hx]
    refine (trD_no fun d hd he => hx ?_).symm
    rw [← he, parseI_text hd]
end Go.Proofs.YtbpfabicampdkaaGreatDoor

namespace Go.Proofs.YtbpfabicampdkaaGreatDoor
open Go.RowKit

/-- does the byte occur in by -/
def hitB (by_ : ByteArray) (c : UInt8) : Bool := by_.data.toList.contains c
/-- the pieces that the first k bytes of s end, and where the next piece begins -/
def cutsTo (s by_ : ByteArray) : Nat → List ByteArray × Nat
  | 0 => ([], 0)
  | k + 1 => if hitB by_ (s.data.toList.getD k 0) then ((cutsTo s by_ k).1 ++ [s.extract (cutsTo s by_ k).2 k], k + 1) else cutsTo s by_ k
def cutAtB (s by_ : ByteArray) : List ByteArray := (cutsTo s by_ s.size).1 ++ [s.extract (cutsTo s by_ s.size).2 s.size]

theorem cutsTo_le (s by_ : ByteArray) (k : Nat) : (cutsTo s by_ k).2 ≤ k ∧ (cutsTo s by_ k).1.length ≤ k := by
  induction k with
  | zero => simp [cutsTo]
  | succ k ih =>
    unfold cutsTo
    split
    · simp; omega
    · omega
theorem getD_get (s : ByteArray) (k : Nat) (h : k < s.size) : s.data.toList.getD k 0 = s[k] := by
  rw [List.getD_eq_getElem?_getD, List.getElem?_eq_getElem (by simpa using h)]
  rfl
theorem cutsTo_hit (s by_ : ByteArray) (k : Nat) (h : k < s.size) (hh : hitB by_ s[k] = true) : cutsTo s by_ (k + 1) = ((cutsTo s by_ k).1 ++ [s.extract (cutsTo s by_ k).2 k], k + 1) := by
  rw [cutsTo, getD_get s k h, if_pos hh]
theorem cutsTo_miss (s by_ : ByteArray) (k : Nat) (h : k < s.size) (hh : hitB by_ s[k] = false) : cutsTo s by_ (k + 1) = cutsTo s by_ k := by
  rw [cutsTo, getD_get s k h, if_neg (by simp [hh])]
theorem index_hit (l : List UInt8) (c : UInt8) : (0 ≤ Lib.indexByte l c) ↔ l.contains c = true := by
  induction l with
  | nil => simp [Lib.indexByte]
  | cons b l ih =>
    have hg := Lib.indexByte_ge l c
    unfold Lib.indexByte
    by_cases hbc : b = c
    · simp [hbc]
    · have hne : (b == c) = false := by simpa using hbc
      rw [hne, List.contains_cons]
      have hne' : (c == b) = false := by simpa using fun e => hbc e.symm
      rw [hne', Bool.false_or, ← ih]
      by_cases hm : Lib.indexByte l c = -1
      · simp [hm]
      · simp [hm]; omega
end Go.Proofs.YtbpfabicampdkaaGreatDoor

namespace Go.Proofs.YtbpfabicampdkaaGreatDoor
open Go.RowKit

def textM (m : MI) : ByteArray := if okM m = true then m.1 ++ ⟨#[32]⟩ ++ textD (m.2, placesC m.1) else ⟨#[]⟩
theorem textM_size (m : MI) : (textM m).size ≤ 106 := by
  unfold textM
  split
  · rename_i h
    have h1 := okM_size h
    have h2 := textD_size (m.2, placesC m.1)
    rw [ByteArray.size_append, ByteArray.size_append]
    show m.1.size + 1 + _ ≤ 106
    omega
  · decide
/-! ### a text at its first space -/
def spaceAt (s : ByteArray) : Int := Lib.indexByte s.data.toList 32
def hdM (s : ByteArray) : ByteArray := if spaceAt s < 0 then s else s.extract 0 (spaceAt s).toNat
def tlM (s : ByteArray) : ByteArray := if spaceAt s < 0 then ⟨#[]⟩ else s.extract ((spaceAt s).toNat + 1) s.size
/-- what is read -/
def readM (s : ByteArray) : MI := (hdM s, (trD (tlM s)).1.1)
def trM (s : ByteArray) : MI × Bool := if (trD (tlM s)).2 = true ∧ textM (readM s) = s then (readM s, true) else (zeroM, false)
theorem trM_bad1 {s : ByteArray} (h : (trD (tlM s)).2 = false) : trM s = (zeroM, false) := by
  unfold trM
  rw [if_neg]
  rintro ⟨h1, _⟩
  rw [h] at h1
  cases h1
theorem trM_bad2 {s : ByteArray} (h : ¬ textM (readM s) = s) : trM s = (zeroM, false) := by
  unfold trM
  rw [if_neg (fun hp => h hp.2)]
theorem trM_good {s : ByteArray} (h : (trD (tlM s)).2 = true) (h2 : textM (readM s) = s) : trM s = (readM s, true) := by
  unfold trM
  rw [if_pos ⟨h, h2⟩]
theorem textD_pos {d : DI} (h : okD d = true) : ¬ textD d = ⟨#[]⟩ := by
  obtain ⟨n, m, b⟩ := body_of h
  have hb := b.long
  intro e
  have h6 := congrArg List.length (text_list h)
  rw [e, List.length_append] at h6
  have h7 : 1 ≤ (if 0 < d.2 then (bodyD d).data.toList.take ((bodyD d).size - d.2.toNat) ++ 46 :: (bodyD d).data.toList.drop ((bodyD d).size - d.2.toNat) else (bodyD d).data.toList).length := by
    split
    · rw [List.length_append, List.length_cons]; omega
    · rw [listB_len]; omega
  have h8 : ((⟨#[]⟩ : ByteArray).data.toList).length = 0 := rfl
  rw [h8] at h6
  omega
theorem trD_none : (trD ⟨#[]⟩).2 = false := by
  cases e : (trD ⟨#[]⟩).2 with
  | false => rfl
  | true =>
    obtain ⟨h1, h2⟩ := trD_yes e
    exact absurd h2 (textD_pos h1)
theorem trM_sz (s : ByteArray) : szM (trM s).1 ≤ 1048576 := by
  unfold trM
  split
  · rename_i h
    obtain ⟨h1, h2⟩ := h
    by_cases hk : okM (readM s) = true
    · have h3 := (okM_parts hk).2.2
      have h4 := okM_size hk
      unfold szM szS szI
      dsimp only
      omega
    · exfalso
      have e : s = ⟨#[]⟩ := by rw [← h2]; unfold textM; rw [if_neg hk]
      subst e
      have h4 : tlM ⟨#[]⟩ = ⟨#[]⟩ := by decide
      rw [h4, trD_none] at h1
      cases h1
  · decide
theorem dig_noM {l : List UInt8} (h : DigL l) : ∀ c ∈ l, c ≠ 32 := fun c hc e => by
  subst e
  exact absurd (h _ hc).1 (by decide)
theorem textD_nospace {d : DI} (h : okD d = true) : ∀ c ∈ (textD d).data.toList, c ≠ 32 := by
  obtain ⟨n, m, b⟩ := body_of h
  rw [text_list h]
  intro c hc
  rcases List.mem_append.1 hc with hc | hc
  · split at hc
    · rw [List.mem_singleton.1 hc]; decide
    · exact absurd hc List.not_mem_nil
  · split at hc
    · rcases List.mem_append.1 hc with hc | hc
      · exact dig_noM b.dig c (List.mem_of_mem_take hc)
      · rcases List.mem_cons.1 hc with rfl | hc
        · decide
        · exact dig_noM b.dig c (List.mem_of_mem_drop hc)
    · exact dig_noM b.dig c hc
theorem trD_space {s : ByteArray} (h : 32 ∈ s.data.toList) : (trD s).2 = false := by
  cases e : (trD s).2 with
  | false => rfl
  | true =>
    obtain ⟨h1, h2⟩ := trD_yes e
    rw [← h2] at h
    exact absurd rfl (textD_nospace h1 32 h)
/-! ### the pieces at every space -/
theorem hit32 (c : UInt8) : hitB ⟨#[32]⟩ c = decide (c = 32) := by
  unfold hitB
  show List.contains [32] c = _
  by_cases h : c = 32
  · subst h; decide
  · rw [decide_eq_false h]
    simp [h]
theorem cuts_none (s : ByteArray) (k : Nat) (h : ∀ j, j < k → ¬ s.data.toList.getD j 0 = 32) : cutsTo s ⟨#[32]⟩ k = ([], 0) := by
  induction k with
  | zero => rfl
  | succ k ih =>
    unfold cutsTo
    rw [hit32, decide_eq_false (h k (by omega)), if_neg (by decide)]
    exact ih fun j hj => h j (by omega)
theorem cuts_some (s : ByteArray) (o : Nat) (h : ∀ j, j < o → ¬ s.data.toList.getD j 0 = 32) (ho : s.data.toList.getD o 0 = 32) (k : Nat) :
    (cutsTo s ⟨#[32]⟩ (o + 1 + k) = ([s.extract 0 o], o + 1)) ∨ (2 ≤ (cutsTo s ⟨#[32]⟩ (o + 1 + k)).1.length ∧ ∃ j, o < j ∧ j < o + 1 + k ∧ s.data.toList.getD j 0 = 32) := by
  induction k with
  | zero =>
    left
    show cutsTo s ⟨#[32]⟩ (o + 1) = _
    unfold cutsTo
    rw [hit32, decide_eq_true ho, if_pos rfl, cuts_none s o h]
    rfl
  | succ k ih =>
    show (cutsTo s ⟨#[32]⟩ (o + 1 + k + 1) = _) ∨ _
    have e : cutsTo s ⟨#[32]⟩ (o + 1 + (k + 1)) = if hitB ⟨#[32]⟩ (s.data.toList.getD (o + 1 + k) 0) then ((cutsTo s ⟨#[32]⟩ (o + 1 + k)).1 ++ [s.extract (cutsTo s ⟨#[32]⟩ (o + 1 + k)).2 (o + 1 + k)], o + 1 + k + 1) else cutsTo s ⟨#[32]⟩ (o + 1 + k) := rfl
    rw [hit32] at e
    by_cases hc : s.data.toList.getD (o + 1 + k) 0 = 32
    · rw [decide_eq_true hc, if_pos rfl] at e
      right
      rw [e]
      refine ⟨?_, o + 1 + k, by omega, by omega, hc⟩
      rcases ih with h1 | ⟨h1, _⟩
      · rw [h1]; simp
      · simp; omega
    · rw [decide_eq_false hc, if_neg (by decide)] at e
      rcases ih with h1 | ⟨h1, j, h2, h3, h4⟩
      · left; exact e.trans h1
      · right
        rw [e]
        exact ⟨h1, j, h2, by omega, h4⟩
theorem space_lt {s : ByteArray} {o : Nat} (h : spaceAt s = o) : o < s.size := by
  obtain ⟨h1, _⟩ := Lib.indexByte_some h
  have := (List.getElem?_eq_some_iff.1 h1).1
  rw [listB_len] at this
  exact this
theorem space_cases (s : ByteArray) : spaceAt s = -1 ∨ ∃ o : Nat, spaceAt s = o ∧ o < s.size := by
  have h := Lib.indexByte_ge s.data.toList 32
  by_cases e : spaceAt s = -1
  · exact .inl e
  · have ho : spaceAt s = ((spaceAt s).toNat : Nat) := by unfold spaceAt at *; omega
    exact .inr ⟨_, ho, space_lt ho⟩
theorem space_no (l : List UInt8) (h : Lib.indexByte l 32 = -1) : ∀ c ∈ l, c ≠ 32 := by
  intro c hc e
  subst e
  have := (index_hit l 32).2 (List.contains_iff_mem.2 hc)
  omega
/-- either the text is two pieces, or it is not read -/
theorem cut_two (s : ByteArray) : (cutAtB s ⟨#[32]⟩ = [hdM s, tlM s] ∧ ¬ s = ⟨#[]⟩) ∨ (¬ (cutAtB s ⟨#[32]⟩).length = 2 ∧ trM s = (zeroM, false)) := by
  rcases space_cases s with h | ⟨o, h, ho⟩
  · right
    have hn := space_no _ h
    have e := cuts_none s s.size (fun j hj he => hn _ (getD_mem (l := s.data.toList) hj) he)
    refine ⟨?_, trM_bad1 ?_⟩
    · unfold cutAtB
      rw [e]
      simp
    · rw [show tlM s = ⟨#[]⟩ by unfold tlM; rw [if_pos (by omega)]]
      exact trD_none
  · obtain ⟨h1, h2⟩ := Lib.indexByte_some h
    have hb : ∀ j, j < o → ¬ s.data.toList.getD j 0 = 32 := fun j hj he => h2 j hj (by
      rw [← he, List.getD_eq_getElem?_getD, List.getElem?_eq_getElem (by rw [listB_len]; omega)]
      rfl)
    have hc := cuts_some s o hb (getD_of h1) (s.size - (o + 1))
    rw [show o + 1 + (s.size - (o + 1)) = s.size by omega] at hc
    have eh : hdM s = s.extract 0 o := by unfold hdM; rw [if_neg (by omega), h, Int.toNat_natCast]
    have et : tlM s = s.extract (o + 1) s.size := by unfold tlM; rw [if_neg (by omega), h, Int.toNat_natCast]
    rcases hc with hc | ⟨hc, j, j1, j2, j3⟩
    · left
      refine ⟨?_, fun e => by subst e; exact absurd ho (Nat.not_lt_zero _)⟩
      unfold cutAtB
      rw [hc, eh, et]
      rfl
    · right
      refine ⟨?_, trM_bad1 (trD_space ?_)⟩
      · unfold cutAtB
        rw [List.length_append]
        simp
        omega
      · rw [et, extract_listD, List.take_of_length_le (Nat.le_of_eq (listB_len s))]
        refine List.mem_of_getElem? (i := j - (o + 1)) ?_
        rw [List.getElem?_drop, show o + 1 + (j - (o + 1)) = j by omega, List.getElem?_eq_getElem (by rw [listB_len]; omega)]
        rw [List.getD_eq_getElem?_getD, List.getElem?_eq_getElem (by rw [listB_len]; omega)] at j3
        exact congrArg some j3
/-- spec's reading of two pieces -/
theorem read_no {s : ByteArray} (hs : ¬ s = ⟨#[]⟩) (h : (makeM (hdM s) (trD (tlM s)).1.1).2 = false) : trM s = (zeroM, false) := by
  refine trM_bad2 fun e => hs ?_
  rw [← e]
  unfold textM
  rw [if_neg]
  intro hk
  unfold makeM at h
  rw [if_pos (show okM (hdM s, (trD (tlM s)).1.1) = true from hk)] at h
  cases h
theorem read_yes {s : ByteArray} (h : (makeM (hdM s) (trD (tlM s)).1.1).2 = true) : makeM (hdM s) (trD (tlM s)).1.1 = (readM s, true) := by
  unfold makeM at h ⊢
  split at h
  · rw [if_pos (by assumption)]; rfl
  · cases h
end Go.Proofs.YtbpfabicampdkaaGreatDoor

namespace Go.Proofs.YtbpfabicampdkaaGreatDoor
open Go.RowKit

set_option maxHeartbeats 400000 in
set_option maxRecDepth 100000 in
theorem liteCutM_none (s : ByteArray) (w : World) (h : spaceAt s = -1) :
    Calls Tryz.prog 122 #[.string s, .string ⟨#[32]⟩] w fun e w' => e = .returned (.tuple #[.string (hdM s), .string ⟨#[]⟩, .bool false]) ∧ w = w' := by
  have eh : hdM s = s := by unfold hdM; rw [if_pos (by omega)]
  rw [eh]
  go_enter Tryz.func122, Tryz.ntmps122
  go_wp2_with fail
  refine (Tryz.stringslite_Index_one s 32 _).mono ?_
  rintro e w1 ⟨rfl, rfl⟩
  rw [show Lib.indexByte s.data.toList 32 = -1 from h]
  go_wp2
  go_ret3
  exact ⟨rfl, rfl⟩
set_option maxHeartbeats 400000 in
set_option maxRecDepth 100000 in
theorem liteCutM_some (s : ByteArray) (o : Nat) (w : World) (hs : s.size ≤ 1048576) (h : spaceAt s = o) :
    Calls Tryz.prog 122 #[.string s, .string ⟨#[32]⟩] w fun e w' => e = .returned (.tuple #[.string (hdM s), .string (tlM s), .bool true]) ∧ Below w.heap.size w w' := by
  have hl := space_lt h
  have eh : hdM s = s.extract 0 o := by unfold hdM; rw [if_neg (by omega), h, Int.toNat_natCast]
  have et : tlM s = s.extract (o + 1) s.size := by unfold tlM; rw [if_neg (by omega), h, Int.toNat_natCast]
  rw [eh, et]
  have c1 : (0 : Int) ≤ ↑o := by omega
  have c2 : (↑o : Int) ≤ ↑s.size := by omega
  have c3 : (0 : Int) ≤ ↑o + 1 := by omega
  have c4 : (↑o + 1 : Int) ≤ ↑s.size := by omega
  have c5 : (s.size : Int) ≤ 1048576 := by omega
  go_enter Tryz.func122, Tryz.ntmps122
  go_wp2_with fail
  refine (Tryz.stringslite_Index_one s 32 _).mono ?_
  rintro e w1 ⟨rfl, rfl⟩
  rw [show Lib.indexByte s.data.toList 32 = (o : Int) from h]
  go_wp2
  go_quiet (fail)
  go_wp2
  go_ret3
  exact ⟨rfl, below_drewN (Below.refl _ _) _⟩
set_option maxHeartbeats 400000 in
set_option maxRecDepth 100000 in
theorem cutM_none (s : ByteArray) (w : World) (h : spaceAt s = -1) :
    Calls Tryz.prog 65 #[.string s, .string ⟨#[32]⟩] w fun e w' => e = .returned (.tuple #[.string (hdM s), .string ⟨#[]⟩, .bool false]) ∧ Below w.heap.size w w' := by
  go_enter Tryz.func65, Tryz.ntmps65
  go_wp2_with fail
  refine (liteCutM_none s _ h).mono ?_
  rintro e w1 ⟨rfl, rfl⟩
  go_wp2
  go_ret3
  exact ⟨rfl, Below.refl _ _⟩
set_option maxHeartbeats 400000 in
set_option maxRecDepth 100000 in
theorem cutM_some (s : ByteArray) (o : Nat) (w : World) (hs : s.size ≤ 1048576) (h : spaceAt s = o) :
    Calls Tryz.prog 65 #[.string s, .string ⟨#[32]⟩] w fun e w' => e = .returned (.tuple #[.string (hdM s), .string (tlM s), .bool true]) ∧ Below w.heap.size w w' := by
  go_enter Tryz.func65, Tryz.ntmps65
  go_wp2_with fail
  refine (liteCutM_some s o _ hs h).mono ?_
  rintro e w1 ⟨rfl, b1⟩
  go_wp2
  go_ret3
  exact ⟨rfl, b1⟩
theorem cutM_any (s : ByteArray) (w : World) (hs : s.size ≤ 1048576) :
    Calls Tryz.prog 65 #[.string s, .string ⟨#[32]⟩] w fun e w' => ∃ b : Bool, e = .returned (.tuple #[.string (hdM s), .string (tlM s), .bool b]) ∧ Below w.heap.size w w' := by
  rcases space_cases s with h | ⟨o, h, _⟩
  · refine (cutM_none s w h).mono ?_
    rintro e w' ⟨rfl, b⟩
    have e2 : tlM s = ⟨#[]⟩ := by unfold tlM; rw [if_pos (by omega)]
    exact ⟨false, by rw [e2], b⟩
  · refine (cutM_some s o w hs h).mono ?_
    rintro e w' ⟨rfl, b⟩
    exact ⟨true, rfl, b⟩
theorem hd_tl_size (s : ByteArray) : (hdM s).size ≤ s.size ∧ (tlM s).size ≤ s.size := by
  unfold hdM tlM
  split
  · exact ⟨Nat.le_refl _, Nat.zero_le _⟩
  · rw [ByteArray.size_extract, ByteArray.size_extract]
    omega
end Go.Proofs.YtbpfabicampdkaaGreatDoor

namespace Go.Proofs.YtbpfabicampdkaaGreatDoor
open Go.RowKit

theorem digitsValue_nine (s : ByteArray) (w : World) (hd : DigL s.data.toList) (hl : s.size ≤ 9) :
    Calls Tryz.prog 163 #[.string s] w fun e w' => e = .returned (.int .i64 (valL s.data.toList)) ∧ Below w.heap.size w w' := by
  refine (digitsValue_any s w hd).mono ?_
  rintro e w' ⟨rfl, hb⟩
  have h1 := valL_nine s.data.toList hd hl
  have h0 := valL_nonneg s.data.toList hd
  exact ⟨ret_int (by unfold wrap64; omega), hb⟩
/-- the value of the digits from m to k -/
def partV (s : ByteArray) (m k : Nat) : Int := valL ((s.data.toList.take k).drop m)
theorem digitsValue_part (s : ByteArray) (m k : Nat) (w : World) (hd : DigL s.data.toList) (hl : k ≤ m + 9) :
    Calls Tryz.prog 163 #[.string (s.extract m k)] w fun e w' => e = .returned (.int .i64 (partV s m k)) ∧ Below w.heap.size w w' := by
  refine (digitsValue_nine (s.extract m k) w (by rw [extract_listD]; exact dig_part _ hd _ _) (by rw [ByteArray.size_extract]; omega)).mono ?_
  rintro e w' ⟨rfl, hb⟩
  exact ⟨ret_int (by rw [extract_listD]; rfl), hb⟩

theorem part_next {s : ByteArray} {k m : Nat} {out : List Int} (hk : 0 < k) (hm : m = k - 9) (h : out ++ groups s.data.toList k = groups s.data.toList s.size) :
    out ++ [partV s m k] ++ groups s.data.toList m = groups s.data.toList s.size := by
  rw [groups_pos _ k (by omega)] at h
  rw [← h, hm, List.append_assoc]
  rfl
/-- what is known at the head of the loop -/
def ReadRel (s : ByteArray) (B H : Nat) (w : World) (e : Value) (wr : World) : Prop :=
  ∃ (en : Int) (out : List Int), -9 ≤ en ∧ en ≤ s.size ∧ e = .int .i64 en ∧ out.length + en.toNat ≤ s.size ∧ out ++ groups s.data.toList en.toNat = groups s.data.toList s.size ∧ NatAt B H out wr ∧ Below B w wr

set_option maxHeartbeats 2000000 in
set_option maxRecDepth 100000 in
theorem implTextNat_any (s : ByteArray) (w : World) (hs : s.size ≤ 9223372036854775807) (ht : Tab w) : Calls Tryz.prog 124 #[.string s] w (TNNew s w) := by
  obtain ⟨i0, hi0, hz0, hz1, hz2⟩ := info_parts intInfo
  by_cases h450 : s.size ≤ 450
  · by_cases hd : digitsB s = true
    · have HD := Lib.hid ((digitsB_iff s).1 hd).1
      have HRT := Lib.hid (read_text s hd h450)
      have HRL := Lib.hid (read_len s HD.out h450)
      go_enter Tryz.func124, Tryz.ntmps124
      go_wp2_with fail
      refine (implIsDigits_any s _).mono ?_
      rintro e w1 ⟨rfl, b1⟩
      rw [hd]
      clear hd
      go_wp2
      go_loopw [5] (fun e wr => ReadRel s w.heap.size w1.heap.size w e wr) (fun e _ => (intOf e).toNat)
      case atStart => exact ⟨s.size, [], by omega, by omega, rfl, by simp, by rw [Int.toNat_natCast]; rfl, NatAt.new b1.size (World.ownsRow_nil _ _ _ _), b1.alloc b1.size _⟩
      case round =>
        obtain ⟨en, out, h0, h1, rfl, hol, hg, hat, hb⟩ := hrel
        have HG := Lib.hid hg
        clear hg
        by_cases hpos : 0 < en
        · obtain ⟨k, rfl⟩ := Int.eq_ofNat_of_zero_le (show 0 ≤ en by omega)
          obtain ⟨m, hmk, HM⟩ : ∃ m : Nat, m ≤ k ∧ Hid (m = k - 9) := ⟨k - 9, by omega, Lib.hid rfl⟩
          have hmx : max 0 ((k : Int) - 9) = (m : Int) := by have := HM.out; omega
          have hmi : (m : Int) ≤ (k : Int) := by omega
          have hks : (k : Int) ≤ (s.size : Int) := by omega
          have hol2 : out.length + 1 ≤ 450 := by omega
          obtain ⟨hB, u, hbk, hown, hne⟩ := hat
          obtain ⟨A, c, rfl⟩ := own_len hown
          have c1 : wr.cell? ⟨w1.heap.size, 0, none⟩ = some (.slice A out.length c) := by rw [Lib.cell_of_heap hbk]; rfl
          have f1 : wr.frozen? ⟨w1.heap.size, 0, none⟩ = false := Lib.frozen_of_heap hbk 0
          have hlt := (Array.getElem?_eq_some_iff.1 hbk).1
          have HB := Lib.hid hbk
          have HE := Lib.hid hne
          have HO := Lib.hid hown
          clear hbk hne hown
          go_wp2
          clear hmx
          go_region_law (first
              | (refine step_append_lies _ (by rfl) _ _ _ (by rfl) w.heap.size 3 i0 _ 1 8 Tryz.underlying28 hi0 hz0 hz1 hz2 rfl (by omega) (.slice A out.length c) out.length (intsV out) (by rfl) (own_alloc (own_below HO.out.drew b2) _) ⟨w2.heap.size, 0, none⟩ 1 1 [.int .i64 (partV s m k)] (by rfl) (by rfl) (one_new _ _ _) (by simp [Value.oneCell']) (by omega) (by unfold maxLen; omega) (by omega) (by have h1 := hb.size; have h2 := b2.size; simp at h2 ⊢; omega) (w2.heap.size + 1) (by simp) ?_; intro gg cap w3 hown3 hg3 hat3 hlt3; have hb3 : w3.heap[w1.heap.size]? = some (.cells #[.slice A out.length c] 88 (0, 0)) := ((hg3.block w1.heap.size (by simp; omega) (fun e => HE.out e.symm)).trans (Below.heap_alloc _ _ _ hlt2)).trans ((b2.block _ hlt).trans HB.out); have hc3 : w3.cell? ⟨w1.heap.size, 0, none⟩ = some (.slice A out.length c) := (by rw [Lib.cell_of_heap hb3]; rfl); have hf3 : w3.frozen? ⟨w1.heap.size, 0, none⟩ = false := Lib.frozen_of_heap hb3 0; have HB3 := Lib.hid hb3; clear hb3)
              | (go_simp; go_at_call 163; refine (digitsValue_part s m k _ HD.out (by have := HM.out; omega)).mono ?_; rintro e w2 ⟨rfl, b2⟩; have hlt2 : w1.heap.size < w2.heap.size := Nat.lt_of_lt_of_le hlt b2.size; have hc2 : w2.cell? ⟨w1.heap.size, 0, none⟩ = some (.slice A out.length c) := (b2.cell (p := ⟨w1.heap.size, 0, none⟩) hlt).trans c1; have hf2 : w2.frozen? ⟨w1.heap.size, 0, none⟩ = false := (b2.frozen (p := ⟨w1.heap.size, 0, none⟩) hlt).trans f1))
          all_goals
            have hput := NatAt.put (ys := out ++ [partV s m k]) hB HB3.out (by rw [List.length_append, List.length_singleton, intsV_append]; exact hown3)
            have hbe : Below w.heap.size w w3 := ((Below.next hb.drew b2).alloc (by have h1 := hb.size; have h2 := b2.size; simp at h2; omega) _).grown hg3 (by have h1 := hb.size; have h2 := b2.size; simp at h2 ⊢; omega) (fun j hj => (own_lt HO.out hj).1)
            clear HB3 hc3 hf3 hc2 hf2 hown3
            go_wp2
            refine ⟨⟨(k : Int) - 9, out ++ [partV s m k], by omega, by omega, rfl, ?_, ?_, hput, hbe.setCell (p := ⟨w1.heap.size, 0, none⟩) hB _⟩, by simp [intOf]; omega⟩
            · rw [List.length_append, List.length_singleton]; omega
            · rw [show ((k : Int) - 9).toNat = m by have := HM.out; omega]
              exact part_next (by omega) HM.out (by have := HG.out; rwa [Int.toNat_natCast] at this)
        · have HT : Hid (trimL out = limbs (valL s.data.toList).toNat) := Lib.hid (by
            have := HG.out
            rw [show en.toNat = 0 by omega, groups_zero, List.append_nil] at this
            rw [this]
            exact read_limbs s HD.out)
          go_wp2_with fail
          refine (natTrim_any w.heap.size w1.heap.size out _ (by omega) hat).mono ?_
          rintro e w2 ⟨rfl, hat2, hb2⟩
          rw [HT.out] at hat2
          clear hat HT HG
          obtain ⟨hB, u, hbk, hown, hne⟩ := hat2
          obtain ⟨A, c, rfl⟩ := own_len hown
          have c2 : w2.cell? ⟨w1.heap.size, 0, none⟩ = some (.slice A (limbs (valL s.data.toList).toNat).length c) := by rw [Lib.cell_of_heap hbk]; rfl
          have hlt := (Array.getElem?_eq_some_iff.1 hbk).1
          have HO := Lib.hid hown
          have bb2 : Below w.heap.size w w2 := hb.trans hb2
          have HR : Hid (decOk s = true → tnR s = limbs (valL s.data.toList).toNat) := Lib.hid (fun h => by unfold tnR; rw [if_pos h])
          have HR2 : Hid (decOk s = false → tnR s = []) := Lib.hid (fun h => by unfold tnR; rw [h]; rfl)
          clear hbk hown hne
          have hrl := HRL.out
          generalize limbs (valL s.data.toList).toNat = L at *
          go_wp2_with fail
          refine (implNatText_any _ L _ _ _ (by omega) (Nat.le_refl _) (Row.of_own HO.out) (ht.below bb2)).mono ?_
          rintro e w3 ⟨rfl, b3⟩
          have c3 : w3.cell? ⟨w1.heap.size, 0, none⟩ = some (.slice A L.length c) := (b3.cell (p := ⟨w1.heap.size, 0, none⟩) hlt).trans c2
          have HO3 := Lib.hid (own_below HO.out b3)
          have bb3 : Below w.heap.size w w3 := Below.next bb2 b3
          by_cases hsame : natTextB L = s
          · have HOK := Lib.hid (HRT.out.1 hsame)
            go_wp2
            go_ret2
            exact ⟨_, by rw [HOK.out]; rfl, by rw [HR.out HOK.out]; exact HO3.out, bb3⟩
          · have HOK : Hid (decOk s = false) := Lib.hid (by
              cases h : decOk s with
              | false => rfl
              | true => exact absurd (HRT.out.2 h) hsame)
            have hne := bytes_ne' hsame
            go_wp2
            go_ret2
            exact ⟨_, by rw [HOK.out]; rfl, by rw [HR2.out HOK.out]; exact World.ownsRow_nil _ _ _ _, bb3⟩
    · have hd' : digitsB s = false := by simpa using hd
      have HOK := Lib.hid (decOk_dig s hd')
      have HR : Hid (tnR s = []) := Lib.hid (by unfold tnR; rw [HOK.out]; rfl)
      clear hd
      go_enter Tryz.func124, Tryz.ntmps124
      go_wp2_with fail
      refine (implIsDigits_any s _).mono ?_
      rintro e w1 ⟨rfl, b1⟩
      rw [hd']
      go_wp2
      go_ret2
      exact ⟨_, by rw [HOK.out]; rfl, by rw [HR.out]; exact World.ownsRow_nil _ _ _ _, b1⟩
  · have HOK := Lib.hid (decOk_long s h450)
    have HR : Hid (tnR s = []) := Lib.hid (by unfold tnR; rw [HOK.out]; rfl)
    go_enter Tryz.func124, Tryz.ntmps124
    go_wp2
    go_ret2
    exact ⟨_, by rw [HOK.out]; rfl, by rw [HR.out]; exact World.ownsRow_nil _ _ _ _, Below.refl _ _⟩
end Go.Proofs.YtbpfabicampdkaaGreatDoor

namespace Go.Proofs.YtbpfabicampdkaaGreatDoor
open Go.RowKit

theorem emptyP_ne {s : ByteArray} (h : ¬ s = ⟨#[]⟩) : s.toList.isEmpty = false := by
  rcases Bool.eq_false_or_eq_true s.toList.isEmpty with e | e
  · rw [List.isEmpty_iff, Lib.toList_data] at e
    exact absurd (WideShapes.bytes_inj (by rw [e])) h
  · exact e
theorem bytes_neP {a b : ByteArray} (h : ¬ a = b) : (a.toList == b.toList) = false := by
  rw [beq_eq_false_iff_ne, ByteArray.toList_eq, ByteArray.toList_eq]
  exact fun e => h (WideShapes.bytes_inj e)
theorem bytes_eqP {a b : ByteArray} (h : a = b) : (a.toList == b.toList) = true := by subst h; exact beq_self_eq_true _
theorem point_lt {s : ByteArray} {o : Nat} (h : pointAt s = o) : o < s.size := by
  obtain ⟨h1, _⟩ := Lib.indexByte_some h
  have := (List.getElem?_eq_some_iff.1 h1).1
  rw [listB_len] at this
  exact this
theorem point_casesD (s : ByteArray) : pointAt s = -1 ∨ ∃ o : Nat, pointAt s = o ∧ o < s.size := by
  have h := Lib.indexByte_ge s.data.toList 46
  by_cases e : pointAt s = -1
  · exact .inl e
  · have ho : pointAt s = ((pointAt s).toNat : Nat) := by unfold pointAt at *; omega
    exact .inr ⟨_, ho, point_lt ho⟩
set_option maxHeartbeats 400000 in
set_option maxRecDepth 100000 in
theorem liteCutP_none (s : ByteArray) (w : World) (h : pointAt s = -1) :
    Calls Tryz.prog 122 #[.string s, .string ⟨#[46]⟩] w fun e w' => e = .returned (.tuple #[.string (preB s), .string ⟨#[]⟩, .bool false]) ∧ w = w' := by
  have eh : preB s = s := by unfold preB; rw [if_pos (by omega)]
  rw [eh]
  go_enter Tryz.func122, Tryz.ntmps122
  go_wp2_with fail
  refine (Tryz.stringslite_Index_one s 46 _).mono ?_
  rintro e w1 ⟨rfl, rfl⟩
  rw [show Lib.indexByte s.data.toList 46 = -1 from h]
  go_wp2
  go_ret3
  exact ⟨rfl, rfl⟩
set_option maxHeartbeats 400000 in
set_option maxRecDepth 100000 in
theorem liteCutP_some (s : ByteArray) (o : Nat) (w : World) (hs : s.size ≤ 1048576) (h : pointAt s = o) :
    Calls Tryz.prog 122 #[.string s, .string ⟨#[46]⟩] w fun e w' => e = .returned (.tuple #[.string (preB s), .string (postB s), .bool true]) ∧ Below w.heap.size w w' := by
  have hl := point_lt h
  have eh : preB s = s.extract 0 o := by unfold preB; rw [if_neg (by omega), h, Int.toNat_natCast]
  have et : postB s = s.extract (o + 1) s.size := by unfold postB; rw [if_neg (by omega), h, Int.toNat_natCast]
  rw [eh, et]
  have c1 : (0 : Int) ≤ ↑o := by omega
  have c2 : (↑o : Int) ≤ ↑s.size := by omega
  have c3 : (0 : Int) ≤ ↑o + 1 := by omega
  have c4 : (↑o + 1 : Int) ≤ ↑s.size := by omega
  have c5 : (s.size : Int) ≤ 1048576 := by omega
  go_enter Tryz.func122, Tryz.ntmps122
  go_wp2_with fail
  refine (Tryz.stringslite_Index_one s 46 _).mono ?_
  rintro e w1 ⟨rfl, rfl⟩
  rw [show Lib.indexByte s.data.toList 46 = (o : Int) from h]
  go_wp2
  go_quiet (fail)
  go_wp2
  go_ret3
  exact ⟨rfl, below_drewN (Below.refl _ _) _⟩
set_option maxHeartbeats 400000 in
set_option maxRecDepth 100000 in
theorem cutP_none (s : ByteArray) (w : World) (h : pointAt s = -1) :
    Calls Tryz.prog 65 #[.string s, .string ⟨#[46]⟩] w fun e w' => e = .returned (.tuple #[.string (preB s), .string ⟨#[]⟩, .bool false]) ∧ Below w.heap.size w w' := by
  go_enter Tryz.func65, Tryz.ntmps65
  go_wp2_with fail
  refine (liteCutP_none s _ h).mono ?_
  rintro e w1 ⟨rfl, rfl⟩
  go_wp2
  go_ret3
  exact ⟨rfl, Below.refl _ _⟩
set_option maxHeartbeats 400000 in
set_option maxRecDepth 100000 in
theorem cutP_some (s : ByteArray) (o : Nat) (w : World) (hs : s.size ≤ 1048576) (h : pointAt s = o) :
    Calls Tryz.prog 65 #[.string s, .string ⟨#[46]⟩] w fun e w' => e = .returned (.tuple #[.string (preB s), .string (postB s), .bool true]) ∧ Below w.heap.size w w' := by
  go_enter Tryz.func65, Tryz.ntmps65
  go_wp2_with fail
  refine (liteCutP_some s o _ hs h).mono ?_
  rintro e w1 ⟨rfl, b1⟩
  go_wp2
  go_ret3
  exact ⟨rfl, b1⟩
theorem cutP_any (s : ByteArray) (w : World) (hs : s.size ≤ 1048576) :
    Calls Tryz.prog 65 #[.string s, .string ⟨#[46]⟩] w fun e w' => ∃ b : Bool, e = .returned (.tuple #[.string (preB s), .string (postB s), .bool b]) ∧ Below w.heap.size w w' := by
  rcases point_casesD s with h | ⟨o, h, _⟩
  · refine (cutP_none s w h).mono ?_
    rintro e w' ⟨rfl, b⟩
    have e2 : postB s = ⟨#[]⟩ := by unfold postB; rw [if_pos (by omega)]
    exact ⟨false, by rw [e2], b⟩
  · refine (cutP_some s o w hs h).mono ?_
    rintro e w' ⟨rfl, b⟩
    exact ⟨true, rfl, b⟩
set_option maxHeartbeats 1000000 in
set_option maxRecDepth 100000 in
theorem trimLeft_any (s : ByteArray) (w : World) :
    Calls Tryz.prog 125 #[.string s, .string ⟨#[48]⟩] w fun e w' => e = .returned (.string ⟨(Lib.trimLeftB s.data.toList 48).toArray⟩) ∧ Below w.heap.size w w' := by
  by_cases h0 : s = ⟨#[]⟩
  · subst h0
    go_enter Tryz.func125, Tryz.ntmps125
    go_wp2
    go_ret
    exact ⟨rfl, Below.refl _ _⟩
  · have hne := emptyP_ne h0
    have hne2 := bytes_neP h0
    clear h0
    go_enter Tryz.func125, Tryz.ntmps125
    go_wp2_with fail
    refine (Tryz.strings_trimLeftByte s 48 _).mono ?_
    rintro e w1 ⟨rfl, rfl⟩
    go_wp2
    go_ret
    exact ⟨rfl, Below.refl _ _⟩
theorem pre_post_size (s : ByteArray) : (preB s).size ≤ s.size ∧ (postB s).size ≤ s.size ∧ (preB s).size + (postB s).size ≤ s.size := by
  unfold preB postB
  split
  · exact ⟨Nat.le_refl _, Nat.zero_le _, Nat.le_refl _⟩
  · rw [ByteArray.size_extract, ByteArray.size_extract]
    omega
theorem trim_size (l : List UInt8) (c : UInt8) : (Lib.trimLeftB l c).length ≤ l.length := (List.dropWhile_sublist _).length_le
end Go.Proofs.YtbpfabicampdkaaGreatDoor

namespace Go.Proofs.YtbpfabicampdkaaGreatDoor
open Go.RowKit

theorem ret_strD {a b : ByteArray} (h : a = b) : Ending.returned (.string a) = Ending.returned (.string b) := by rw [h]
theorem postT_eqD {a b : ByteArray} (h : a = b) {w w' : World} {e : Ending} (k : e = .returned (.string a) ∧ Below w.heap.size w w') : PostT b w e w' := by rw [← h]; exact k
theorem postT_isD {a b : ByteArray} (h : a = b) {w w' : World} {e : Ending} (k : PostT a w e w') : PostT b w e w' := h ▸ k
theorem natText_pos {a : DI} (h : okD a = true) : 1 ≤ (natTextB a.1.2).size := by
  obtain ⟨n, m, b⟩ := body_of h
  have hd := (dig_dec n).2
  have e := b.digits
  have hl := listB_len (natTextB a.1.2)
  rw [e] at hl
  cases hq : Lib.decDigits n with
  | nil => exact absurd hq hd
  | cons c r => rw [hq] at hl; simp at hl; omega
/-- the text of a number without a scale -/
theorem text_zero {a : DI} (h : okD a = true) (h0 : a.2 = 0) : textD a = intStrB a.1 := by
  have hb : bodyD a = natTextB a.1.2 := by
    unfold bodyD
    rw [h0]
    exact padB_same _ _ (by have := natText_pos h; omega)
  unfold textD intStrB
  rw [if_pos h, if_pos (partsD h).ok, hb, h0]
  unfold pointB
  have e : ¬ (0 : Int) < 0 := by decide
  rw [if_neg e]
/-- its parts, with one -/
theorem text_some {a : DI} (h : okD a = true) (h0 : 0 < a.2) {K : Nat} (hK : ((bodyD a).size : Int) - a.2 = K) :
    textD a = (if a.1.1 = true then (⟨#[45]⟩ : ByteArray) else ⟨#[]⟩) ++ ((bodyD a).extract 0 K ++ ⟨#[46]⟩ ++ (bodyD a).extract K (bodyD a).size) := by
  have e : (bodyD a).size - a.2.toNat = K := by omega
  unfold textD pointB
  rw [if_pos h, if_pos h0, e]
  cases a.1.1 with
  | true => rfl
  | false =>
    apply ByteArray.ext
    simp
theorem body_K {a : DI} (h : okD a = true) : ∃ K : Nat, ((bodyD a).size : Int) - a.2 = K ∧ K ≤ (bodyD a).size ∧ (bodyD a).size ≤ 100 := by
  obtain ⟨n, m, b⟩ := body_of h
  have h1 := b.long
  have h2 := b.size
  have h3 := (partsD h).lo
  exact ⟨(bodyD a).size - a.2.toNat, by omega, by omega, h2⟩
theorem box_rowD {g : Nat} {cs : Array Value} {T : TypeId} {w : World} (h : BoxAt g cs T w) : Row w 0 w.heap.size (.slice (some ⟨g, 0, none⟩) cs.size cs.size) cs.toList := by
  have hg := (Array.getElem?_eq_some_iff.1 h).1
  refine ⟨some ⟨g, 0, none⟩, cs.size, by simp, fun j u hj => ⟨⟨g, 0, none⟩, rfl, Nat.zero_le _, hg, ?_⟩⟩
  have e1 : (Addr.add ⟨g, 0, none⟩ j) = ⟨g, j, none⟩ := by
    unfold Addr.add
    cases j with
    | zero => rfl
    | succ n => simp
  rw [e1, Lib.cell_of_heap h]
  simpa using hj
theorem box_drewD {g : Nat} {cs : Array Value} {T : TypeId} {w : World} (h : BoxAt g cs T w) : BoxAt g cs T w.drew := h
theorem join_four (S A C : ByteArray) : joinB ⟨#[]⟩ [S, A, ⟨#[46]⟩, C] = S ++ (A ++ ⟨#[46]⟩ ++ C) := by
  apply ByteArray.ext
  simp [joinB, joinTo]
theorem four_small {S A C : ByteArray} (h1 : S.size ≤ 1048576) (h2 : A.size ≤ 1048576) (h3 : C.size ≤ 1048576) : ∀ s ∈ [S, A, (⟨#[46]⟩ : ByteArray), C], s.size ≤ 1048576 := fun s hs => by
  simp at hs
  rcases hs with rfl | rfl | rfl | rfl
  · exact h1
  · exact h2
  · decide
  · exact h3
theorem join4_at (S A C T0 : ByteArray) (g : Nat) (W : World) (T : TypeId) (h1 : S.size ≤ 1048576) (h2 : A.size ≤ 1048576) (h3 : C.size ≤ 1048576) (hT : S ++ (A ++ ⟨#[46]⟩ ++ C) = T0) (hb : BoxAt g #[.string S, .string A, .string ⟨#[46]⟩, .string C] T W) :
    Calls Tryz.prog 126 #[.string ⟨#[]⟩, .slice (some ⟨g, 0, none⟩) 4 4] W (PostT T0 W) := by
  have h := joinAll_any ⟨#[]⟩ (.slice (some ⟨g, 0, none⟩) 4 4) [S, A, ⟨#[46]⟩, C] 0 _ W (Nat.le_refl _) (by simp) (by decide) (four_small h1 h2 h3) (box_rowD hb)
  rw [join_four, hT] at h
  exact h
set_option maxHeartbeats 4000000 in
set_option maxRecDepth 100000 in
theorem implDecText_any (va : Value) (a : DI) (w : World) (hla : a.1.2.length ≤ 1048576) (ha : OwnD va a w) (ht : Tab w) :
    Calls Tryz.prog 69 #[va] w (PostT (textD a) w) := by
  have HT := Lib.hid ht
  clear ht
  have Ha := Lib.hid ha
  obtain ⟨Aa, ca, rfl⟩ := ownD_form ha
  have ODa := Lib.hid (show ∀ W, Below w.heap.size w W → OwnD (.agg #[.bool a.1.1, .slice Aa a.1.2.length ca, .int .i64 a.2]) a W from fun W hb => OwnD.below Ha.out hb)
  have OIa := Lib.hid (show ∀ W, Below w.heap.size w W → OwnI (.slice Aa a.1.2.length ca) a.1.2 W from fun W hb => ownD_open (ODa.out W hb))
  have OSa := Lib.hid (show ∀ W, Below w.heap.size w W → OwnS (.agg #[.bool a.1.1, .slice Aa a.1.2.length ca]) a.1 W from fun W hb => OwnS.mk (OIa.out W hb))
  clear ha
  have bb0 : Below w.heap.size w (w.alloc (.cells #[.bool a.1.1, .slice Aa a.1.2.length ca, .int .i64 a.2] 39)) := below_al (Below.refl _ _) _
  have ka := (box_new w #[.bool a.1.1, .slice Aa a.1.2.length ca, .int .i64 a.2] 39)
  obtain ⟨T, hT⟩ : ∃ T, textD a = T := ⟨_, rfl⟩
  have ET := Lib.hid hT
  rw [hT]
  clear hT
  go_enter Tryz.func69, Tryz.ntmps69
  have ka_c0 := ka.here.cell 0 _ rfl
  have ka_c1 := ka.here.cell 1 _ rfl
  have ka_c2 := ka.here.cell 2 _ rfl
  go_wp2_with fail
  clear ka_c0 ka_c1 ka_c2
  refine (implDecOk_any _ a _ hla (ODa.out _ bb0)).mono ?_
  rintro e w1 ⟨rfl, b1⟩
  have bb1 := Below.next bb0 b1
  replace ka := ka.below b1
  by_cases ok : okD a = true
  · rw [ok]
    have HO := Lib.hid ok
    have qa := partsD ok
    have ta := qa.lo
    have ta2 := qa.hi
    clear ok qa
    by_cases hs : a.2 = 0
    · have HV := Lib.hid (show intStrB a.1 = T from (text_zero HO.out hs).symm.trans ET.out)
      have hs2 : (a.2 == 0) = true := by rw [beq_iff_eq]; exact hs
      have ka_c0 := ka.here.cell 0 _ rfl
      have ka_c1 := ka.here.cell 1 _ rfl
      have ka_c2 := ka.here.cell 2 _ rfl
      go_wp2_with fail
      clear ka_c0 ka_c1 ka_c2
      refine (implIntStr_any _ a.1 _ hla (OwnS.rd (OSa.out _ bb1)) (HT.out.below bb1)).mono ?_
      rintro e w2 ⟨rfl, b2⟩
      have bb2 := Below.next bb1 b2
      replace ka := ka.below b2
      clear ka
      go_wp2
      go_ret
      exact ⟨ret_strD HV.out, bb2⟩
    · have hs2 : (a.2 == 0) = false := by rw [beq_eq_false_iff_ne]; exact hs
      have h0 : 0 < a.2 := by omega
      obtain ⟨K, hK, hKl, hB⟩ := body_K HO.out
      have HV := Lib.hid ((text_some HO.out h0 hK).symm.trans ET.out)
      obtain ⟨n1, hn1⟩ : ∃ n, IntKind.i64.wrap (a.2 + 1) = n := ⟨_, rfl⟩
      have hn2 : n1 = a.2 + 1 := by rw [← hn1]; exact IntWalk.i64_in _ (by omega)
      obtain ⟨D, hD⟩ : ∃ D, natTextB a.1.2 = D := ⟨_, rfl⟩
      have hDs : D.size ≤ 1048576 := by rw [← hD]; have := natTextB_size a.1.2; omega
      have EB := Lib.hid (show padB D n1 = bodyD a by rw [← hD, hn2]; rfl)
      have hn3 : n1 ≤ 2000 := by omega
      have hn4 : -9223372036854775808 ≤ n1 := by omega
      generalize bodyD a = B at *
      have ED := Lib.hid hD
      have hKw : IntKind.i64.wrap ((B.size : Int) - a.2) = (K : Int) := by rw [hK]; exact IntWalk.i64_in _ (by omega)
      have c1 : (0 : Int) ≤ (K : Int) := by omega
      have c2 : (K : Int) ≤ (B.size : Int) := by omega
      clear hD hn2 hK hs
      cases hneg : a.1.1 with
      | true =>
        rw [hneg] at HV
        have HG := Lib.hid hneg
        have ka_c0 := ka.here.cell 0 _ rfl
        have ka_c1 := ka.here.cell 1 _ rfl
        have ka_c2 := ka.here.cell 2 _ rfl
        rw [show (#[.bool a.1.1, .slice Aa a.1.2.length ca, .int .i64 a.2] : Array Value)[0] = .bool true from by show Value.bool a.1.1 = _; rw [hneg]] at ka_c0
        clear hneg
        go_wp2_with fail
        have HC0 := Lib.hid (show Chg [] w1 w1.drew from (Chg.refl _ _).drew1)
        have HCr := Lib.hid (show Chg [] w1 w1 from Chg.refl _ _)
        have KL := Lib.hid (show ∀ W, Chg [] w1 W → W.cell? ⟨w.heap.size, 0, none⟩ = some (.bool a.1.1) ∧ W.cell? ⟨w.heap.size, 1, none⟩ = some (.slice Aa a.1.2.length ca) ∧ W.cell? ⟨w.heap.size, 2, none⟩ = some (.int .i64 a.2) ∧ Hid (Chg [] w1 W) from fun W hc => ⟨(ka.chg hc (fun i hi hm => by simp at hm)).here.cell 0 _ rfl, (ka.chg hc (fun i hi hm => by simp at hm)).here.cell 1 _ rfl, (ka.chg hc (fun i hi hm => by simp at hm)).here.cell 2 _ rfl, Lib.hid hc⟩)
        have BBF := Lib.hid (show ∀ W, Chg [] w1 W → Below w.heap.size w W from fun W hc => below_chg bb1 hc bb1.size (fun i hi => by simp at hi))
        clear ka_c0 ka_c1 ka_c2
        go_region_held3 (fun W => W.cell? ⟨w.heap.size, 0, none⟩ = some (.bool a.1.1) ∧ W.cell? ⟨w.heap.size, 1, none⟩ = some (.slice Aa a.1.2.length ca) ∧ W.cell? ⟨w.heap.size, 2, none⟩ = some (.int .i64 a.2) ∧ Hid (Chg [] w1 W))
          ((refine KL.out _ ?_; (first | exact HC3.out | exact HC2.out | exact HCr.out | exact HC0.out | exact HC3.out.drew1 | exact HC2.out.drew1 | exact HCr.out.drew1 | exact HC0.out.drew1 | exact HC3.out.trans (Chg.of_below (below_al (Below.refl _ _) _)) | exact HC2.out.trans (Chg.of_below (below_al (Below.refl _ _) _)) | exact HCr.out.trans (Chg.of_below (below_al (Below.refl _ _) _)) | exact HC0.out.trans (Chg.of_below (below_al (Below.refl _ _) _)) | fail)))
          (first
            | (go_at_call 129; (have hBB := (‹_ ∧ _ ∧ _ ∧ Hid (Chg [] w1 _)›).2.2.2); (with_reducible refine ((implNatText_any _ a.1.2 0 _ _ hla (Nat.le_refl _) (OIa.out _ (BBF.out _ hBB.out)).row (HT.out.below (BBF.out _ hBB.out))).mono fun _ _ h => postT_eqD ED.out h).mono ?_); rintro e w2 ⟨rfl, b2⟩; have HC2 := Lib.hid (hBB.out.trans (Chg.of_below b2)); have HBZ2 := Lib.hid hBB.out.size; clear hBB)
            | (go_at_call 128; (have hBB := (‹_ ∧ _ ∧ _ ∧ Hid (Chg [] w1 _)›).2.2.2); (with_reducible refine ((implPad_any D n1 _ hDs hn3 hn4).mono fun _ _ h => postT_eqD EB.out h).mono ?_); rintro e w3 ⟨rfl, b3⟩; have HC3 := Lib.hid (hBB.out.trans (Chg.of_below b3)); have HBZ3 := Lib.hid hBB.out.size; clear hBB))
        all_goals
          have bb3 := BBF.out _ HC3.out
          replace ka := ka.chg HC3.out (fun i hi hm => by simp at hm)
          have hj1 : (⟨#[45]⟩ : ByteArray).size ≤ 1048576 := by decide
          have hj2 : (B.extract 0 K).size ≤ 1048576 := by rw [ByteArray.size_extract]; omega
          have hj3 : (B.extract K B.size).size ≤ 1048576 := by rw [ByteArray.size_extract]; omega
          have HVV := Lib.hid (show (⟨#[45]⟩ : ByteArray) ++ (B.extract 0 K ++ ⟨#[46]⟩ ++ B.extract K B.size) = T from by have h := HV.out; first | exact h | (rw [if_pos rfl] at h; exact h) | (rw [if_neg (by decide)] at h; exact h))
          have ka_c0 := ka.here.cell 0 _ rfl
          have ka_c1 := ka.here.cell 1 _ rfl
          have ka_c2 := ka.here.cell 2 _ rfl
          go_wp2_with fail
          have HC0 := Lib.hid (show Chg [] w3 w3.drew from (Chg.refl _ _).drew1)
          have HCr := Lib.hid (show Chg [] w3 w3 from Chg.refl _ _)
          have KL := Lib.hid (show ∀ W, Chg [] w3 W → W.cell? ⟨w.heap.size, 0, none⟩ = some (.bool a.1.1) ∧ W.cell? ⟨w.heap.size, 1, none⟩ = some (.slice Aa a.1.2.length ca) ∧ W.cell? ⟨w.heap.size, 2, none⟩ = some (.int .i64 a.2) ∧ Hid (Chg [] w3 W) from fun W hc => ⟨(ka.chg hc (fun i hi hm => by simp at hm)).here.cell 0 _ rfl, (ka.chg hc (fun i hi hm => by simp at hm)).here.cell 1 _ rfl, (ka.chg hc (fun i hi hm => by simp at hm)).here.cell 2 _ rfl, Lib.hid hc⟩)
          have BBF := Lib.hid (show ∀ W, Chg [] w3 W → Below w.heap.size w W from fun W hc => below_chg bb3 hc bb3.size (fun i hi => by simp at hi))
          clear ka_c0 ka_c1 ka_c2
          go_region_held3 (fun W => W.cell? ⟨w.heap.size, 0, none⟩ = some (.bool a.1.1) ∧ W.cell? ⟨w.heap.size, 1, none⟩ = some (.slice Aa a.1.2.length ca) ∧ W.cell? ⟨w.heap.size, 2, none⟩ = some (.int .i64 a.2) ∧ Hid (Chg [] w3 W))
            ((refine KL.out _ ?_; (first | exact HC4.out | exact HCr.out | exact HC0.out | exact HC4.out.drew1 | exact HCr.out.drew1 | exact HC0.out.drew1 | exact HC4.out.trans (Chg.of_below (below_al (Below.refl _ _) _)) | exact HCr.out.trans (Chg.of_below (below_al (Below.refl _ _) _)) | exact HC0.out.trans (Chg.of_below (below_al (Below.refl _ _) _)) | fail)))
            (first
              | (go_at_call 126; (have hBB := (‹_ ∧ _ ∧ _ ∧ Hid (Chg [] w3 _)›).2.2.2); (with_reducible refine (join4_at ⟨#[45]⟩ (B.extract 0 K) (B.extract K B.size) T _ _ _ hj1 hj2 hj3 HVV.out (by first | exact (box_new _ _ 9).here | exact box_drewD (box_new _ _ 9).here)).mono ?_); rintro e w4 ⟨rfl, b4⟩; have HC4 := Lib.hid (hBB.out.trans (Chg.of_below b4)); have HBZ4 := Lib.hid hBB.out.size; clear hBB))
          all_goals
            have bb4 := BBF.out _ HC4.out
            replace ka := ka.chg HC4.out (fun i hi hm => by simp at hm)
            go_wp2
            go_ret
            exact ⟨rfl, bb4⟩
      | false =>
        rw [hneg] at HV
        have HG := Lib.hid hneg
        have ka_c0 := ka.here.cell 0 _ rfl
        have ka_c1 := ka.here.cell 1 _ rfl
        have ka_c2 := ka.here.cell 2 _ rfl
        rw [show (#[.bool a.1.1, .slice Aa a.1.2.length ca, .int .i64 a.2] : Array Value)[0] = .bool false from by show Value.bool a.1.1 = _; rw [hneg]] at ka_c0
        clear hneg
        go_wp2_with fail
        have HC0 := Lib.hid (show Chg [] w1 w1.drew from (Chg.refl _ _).drew1)
        have HCr := Lib.hid (show Chg [] w1 w1 from Chg.refl _ _)
        have KL := Lib.hid (show ∀ W, Chg [] w1 W → W.cell? ⟨w.heap.size, 0, none⟩ = some (.bool a.1.1) ∧ W.cell? ⟨w.heap.size, 1, none⟩ = some (.slice Aa a.1.2.length ca) ∧ W.cell? ⟨w.heap.size, 2, none⟩ = some (.int .i64 a.2) ∧ Hid (Chg [] w1 W) from fun W hc => ⟨(ka.chg hc (fun i hi hm => by simp at hm)).here.cell 0 _ rfl, (ka.chg hc (fun i hi hm => by simp at hm)).here.cell 1 _ rfl, (ka.chg hc (fun i hi hm => by simp at hm)).here.cell 2 _ rfl, Lib.hid hc⟩)
        have BBF := Lib.hid (show ∀ W, Chg [] w1 W → Below w.heap.size w W from fun W hc => below_chg bb1 hc bb1.size (fun i hi => by simp at hi))
        clear ka_c0 ka_c1 ka_c2
        go_region_held3 (fun W => W.cell? ⟨w.heap.size, 0, none⟩ = some (.bool a.1.1) ∧ W.cell? ⟨w.heap.size, 1, none⟩ = some (.slice Aa a.1.2.length ca) ∧ W.cell? ⟨w.heap.size, 2, none⟩ = some (.int .i64 a.2) ∧ Hid (Chg [] w1 W))
          ((refine KL.out _ ?_; (first | exact HC3.out | exact HC2.out | exact HCr.out | exact HC0.out | exact HC3.out.drew1 | exact HC2.out.drew1 | exact HCr.out.drew1 | exact HC0.out.drew1 | exact HC3.out.trans (Chg.of_below (below_al (Below.refl _ _) _)) | exact HC2.out.trans (Chg.of_below (below_al (Below.refl _ _) _)) | exact HCr.out.trans (Chg.of_below (below_al (Below.refl _ _) _)) | exact HC0.out.trans (Chg.of_below (below_al (Below.refl _ _) _)) | fail)))
          (first
            | (go_at_call 129; (have hBB := (‹_ ∧ _ ∧ _ ∧ Hid (Chg [] w1 _)›).2.2.2); (with_reducible refine ((implNatText_any _ a.1.2 0 _ _ hla (Nat.le_refl _) (OIa.out _ (BBF.out _ hBB.out)).row (HT.out.below (BBF.out _ hBB.out))).mono fun _ _ h => postT_eqD ED.out h).mono ?_); rintro e w2 ⟨rfl, b2⟩; have HC2 := Lib.hid (hBB.out.trans (Chg.of_below b2)); have HBZ2 := Lib.hid hBB.out.size; clear hBB)
            | (go_at_call 128; (have hBB := (‹_ ∧ _ ∧ _ ∧ Hid (Chg [] w1 _)›).2.2.2); (with_reducible refine ((implPad_any D n1 _ hDs hn3 hn4).mono fun _ _ h => postT_eqD EB.out h).mono ?_); rintro e w3 ⟨rfl, b3⟩; have HC3 := Lib.hid (hBB.out.trans (Chg.of_below b3)); have HBZ3 := Lib.hid hBB.out.size; clear hBB))
        all_goals
          have bb3 := BBF.out _ HC3.out
          replace ka := ka.chg HC3.out (fun i hi hm => by simp at hm)
          have hj1 : (⟨#[]⟩ : ByteArray).size ≤ 1048576 := by decide
          have hj2 : (B.extract 0 K).size ≤ 1048576 := by rw [ByteArray.size_extract]; omega
          have hj3 : (B.extract K B.size).size ≤ 1048576 := by rw [ByteArray.size_extract]; omega
          have HVV := Lib.hid (show (⟨#[]⟩ : ByteArray) ++ (B.extract 0 K ++ ⟨#[46]⟩ ++ B.extract K B.size) = T from by have h := HV.out; first | exact h | (rw [if_pos rfl] at h; exact h) | (rw [if_neg (by decide)] at h; exact h))
          have ka_c0 := ka.here.cell 0 _ rfl
          have ka_c1 := ka.here.cell 1 _ rfl
          have ka_c2 := ka.here.cell 2 _ rfl
          go_wp2_with fail
          have HC0 := Lib.hid (show Chg [] w3 w3.drew from (Chg.refl _ _).drew1)
          have HCr := Lib.hid (show Chg [] w3 w3 from Chg.refl _ _)
          have KL := Lib.hid (show ∀ W, Chg [] w3 W → W.cell? ⟨w.heap.size, 0, none⟩ = some (.bool a.1.1) ∧ W.cell? ⟨w.heap.size, 1, none⟩ = some (.slice Aa a.1.2.length ca) ∧ W.cell? ⟨w.heap.size, 2, none⟩ = some (.int .i64 a.2) ∧ Hid (Chg [] w3 W) from fun W hc => ⟨(ka.chg hc (fun i hi hm => by simp at hm)).here.cell 0 _ rfl, (ka.chg hc (fun i hi hm => by simp at hm)).here.cell 1 _ rfl, (ka.chg hc (fun i hi hm => by simp at hm)).here.cell 2 _ rfl, Lib.hid hc⟩)
          have BBF := Lib.hid (show ∀ W, Chg [] w3 W → Below w.heap.size w W from fun W hc => below_chg bb3 hc bb3.size (fun i hi => by simp at hi))
          clear ka_c0 ka_c1 ka_c2
          go_region_held3 (fun W => W.cell? ⟨w.heap.size, 0, none⟩ = some (.bool a.1.1) ∧ W.cell? ⟨w.heap.size, 1, none⟩ = some (.slice Aa a.1.2.length ca) ∧ W.cell? ⟨w.heap.size, 2, none⟩ = some (.int .i64 a.2) ∧ Hid (Chg [] w3 W))
            ((refine KL.out _ ?_; (first | exact HC4.out | exact HCr.out | exact HC0.out | exact HC4.out.drew1 | exact HCr.out.drew1 | exact HC0.out.drew1 | exact HC4.out.trans (Chg.of_below (below_al (Below.refl _ _) _)) | exact HCr.out.trans (Chg.of_below (below_al (Below.refl _ _) _)) | exact HC0.out.trans (Chg.of_below (below_al (Below.refl _ _) _)) | fail)))
            (first
              | (go_at_call 126; (have hBB := (‹_ ∧ _ ∧ _ ∧ Hid (Chg [] w3 _)›).2.2.2); (with_reducible refine (join4_at ⟨#[]⟩ (B.extract 0 K) (B.extract K B.size) T _ _ _ hj1 hj2 hj3 HVV.out (by first | exact (box_new _ _ 9).here | exact box_drewD (box_new _ _ 9).here)).mono ?_); rintro e w4 ⟨rfl, b4⟩; have HC4 := Lib.hid (hBB.out.trans (Chg.of_below b4)); have HBZ4 := Lib.hid hBB.out.size; clear hBB))
          all_goals
            have bb4 := BBF.out _ HC4.out
            replace ka := ka.chg HC4.out (fun i hi hm => by simp at hm)
            go_wp2
            go_ret
            exact ⟨rfl, bb4⟩
  · have ok' : okD a = false := by simpa using ok
    have HV := Lib.hid (show (⟨#[]⟩ : ByteArray) = T by rw [← ET.out]; unfold textD; rw [if_neg ok])
    rw [ok']
    clear ok ok' ka
    go_wp2
    go_ret
    exact ⟨ret_strD HV.out, bb1⟩
set_option maxHeartbeats 4000000 in
set_option maxRecDepth 100000 in
theorem implTextDec_any (s : ByteArray) (w : World) (hs : s.size ≤ 1048576) (ht : Tab w) :
    Calls Tryz.prog 66 #[.string s] w (PostDb (trD s).1 (trD s).2 w) := by
  have HT := Lib.hid ht
  clear ht
  have bb0 : Below w.heap.size w (w.alloc (.cells #[.bool false, .slice none 0 0, .int .i64 0] 39)) := below_al (Below.refl _ _) _
  have ko := (box_new w #[.bool false, .slice none 0 0, .int .i64 0] 39)
  have HKO := Lib.hid (ko.lt w.heap.size (by simp))
  have e0 := trD_impl s
  have hp : parseI s = ((negB s, tnR ⟨(Lib.trimLeftB (preB (bareB s) ++ postB (bareB s)).data.toList 48).toArray⟩), ((postB (bareB s)).size : Int)) := rfl
  rw [hp] at e0
  clear hp
  have hb := bareB_le s
  have hpp := pre_post_size (bareB s)
  have h1 := hpp.1
  have h2 := hpp.2.1
  have h3 := hpp.2.2
  clear hpp
  obtain ⟨P, hP⟩ : ∃ P, trD s = P := ⟨_, rfl⟩
  rw [hP] at e0 ⊢
  clear hP
  go_enter Tryz.func66, Tryz.ntmps66
  go_wp2_with fail
  refine (cutPrefix_any s _).mono ?_
  rintro e w_ ⟨rfl, rfl⟩
  generalize negB s = N at *
  generalize bareB s = D at *
  go_wp2_with fail
  refine (cutP_any D _ (by omega)).mono ?_
  rintro e w1 ⟨bc, rfl, b1⟩
  have bb1 := Below.next bb0 b1
  replace ko := ko.below b1
  generalize preB D = H at *
  generalize postB D = L at *
  obtain ⟨J, hJ⟩ : ∃ J, H ++ L = J := ⟨_, rfl⟩
  have hJs : J.size ≤ 1048576 := by rw [← hJ, ByteArray.size_append]; omega
  have hq1 : ¬ (9223372036854775807 < H.size + L.size) := by omega
  rw [hJ] at e0
  go_wp2_with fail
  try rw [hJ]
  skip
  refine (trimLeft_any J _).mono ?_
  rintro e w2 ⟨rfl, b2⟩
  have bb2 := Below.next bb1 b2
  replace ko := ko.below b2
  obtain ⟨Z, hZ⟩ : ∃ Z : ByteArray, (⟨(Lib.trimLeftB J.data.toList 48).toArray⟩ : ByteArray) = Z := ⟨_, rfl⟩
  have hZs : Z.size ≤ 1048576 := by rw [← hZ]; have h := trim_size J.data.toList 48; have h5 := listB_len J; show (List.toArray _).size ≤ _; rw [List.size_toArray]; omega
  rw [hZ] at e0 ⊢
  clear hZ
  go_wp2_with fail
  refine (implTextNat_any Z _ (by omega) (HT.out.below bb2)).mono ?_
  rintro e w3 ⟨u2, rfl, od, b3⟩
  obtain ⟨A2, c2, rfl⟩ := own_len od
  have bb3 := Below.next bb2 b3
  replace ko := ko.below b3
  have hxl := tnR_len Z
  generalize tnR Z = xs at *
  have kd := box_new (w3) #[.bool N, .slice A2 xs.length c2, .int .i64 (L.size : Int)] 39
  have ald := below_al (Below.refl (w3).heap.size (w3)) (.cells #[.bool N, .slice A2 xs.length c2, .int .i64 (L.size : Int)] 39)
  have bbd := Below.next bb3 ald
  replace ko := ko.below ald
  have of : At _ (OwnD (.agg #[.bool N, .slice A2 xs.length c2, .int .i64 (L.size : Int)]) ((N, xs), (L.size : Int))) _ := ((own_at' od).imp (fun _ h => (OwnD.mk (q := ((N, xs), (L.size : Int))) h))).below ald
  have lf0 := own_within od
  clear od
  obtain ⟨X, hX⟩ : ∃ X : DI, (((N, xs), (L.size : Int)) : DI) = X := ⟨_, rfl⟩
  have hX1 : X.1.2.length ≤ 1048576 := by rw [← hX]; show xs.length ≤ _; omega
  rw [hX] at e0 of
  clear hX
  obtain ⟨T, hT⟩ : ∃ T, textD X = T := ⟨_, rfl⟩
  have ET := Lib.hid hT
  rw [hT] at e0
  clear hT
  have kd_c0 := kd.here.cell 0 _ rfl
  have kd_c1 := kd.here.cell 1 _ rfl
  have kd_c2 := kd.here.cell 2 _ rfl
  go_wp2_with fail
  clear kd_c0 kd_c1 kd_c2
  refine ((implDecText_any _ X _ hX1 of.here (HT.out.below bbd)).mono fun _ _ h => postT_isD ET.out h).mono ?_
  rintro e w4 ⟨rfl, b4⟩
  have bb4 := Below.next bbd b4
  replace ko := ko.below b4
  replace kd := kd.below b4
  replace of := of.below b4
  by_cases hx : T = s
  · have HV := Lib.hid (show P = (X, true) by rw [← e0]; exact if_pos hx)
    have hse := bytes_eqP hx
    clear e0 hx
    have HW := Lib.hid (postDb_chg (b := true) (T := [w.heap.size]) of (fun i hi hm => by have := lf0 i hi; have := HKO.out; have := b1.size; have := b2.size; simp at hm; omega) (fun i hi => by simp at hi; omega) (fun i hi => by have := lf0 i hi; have := HKO.out; have := b1.size; have := b2.size; omega) bb4)
    have kd_c0 := kd.here.cell 0 _ rfl
    have kd_c1 := kd.here.cell 1 _ rfl
    have kd_c2 := kd.here.cell 2 _ rfl
    have cz0 := ko.here.cell 0 _ rfl
    have fz0 := Lib.frozen_of_heap ko.here 0
    have cz1 := ko.here.cell 1 _ rfl
    have fz1 := Lib.frozen_of_heap ko.here 1
    have cz2 := ko.here.cell 2 _ rfl
    have fz2 := Lib.frozen_of_heap ko.here 2
    clear of kd ko
    go_wp2
    refine bodyPost_ret (v := .tuple #[.agg #[.bool N, .slice A2 xs.length c2, .int .i64 (L.size : Int)], .bool true]) (by simp [results, Tryz.results66, go_sem, cz0, cz1, cz2]) rfl ?_
    rw [HV.out]
    refine HW.out _ ?_
    repeat (first | exact Chg.refl _ _ | refine Chg.setCell ?_ (by simp) _)
  · have HV := Lib.hid (show P = (zeroD, false) by rw [← e0]; exact if_neg hx)
    have hse := bytes_neP hx
    clear e0 hx of kd
    have cz0 := ko.here.cell 0 _ rfl
    have fz0 := Lib.frozen_of_heap ko.here 0
    have cz1 := ko.here.cell 1 _ rfl
    have fz1 := Lib.frozen_of_heap ko.here 1
    have cz2 := ko.here.cell 2 _ rfl
    have fz2 := Lib.frozen_of_heap ko.here 2
    go_wp2
    refine bodyPost_ret (v := .tuple #[.agg #[.bool false, .slice none 0 0, .int .i64 0], .bool false]) (by simp [results, Tryz.results66, go_sem, cz0, cz1, cz2]) rfl ?_
    rw [HV.out]
    first | exact newDb_zero _ bb4 | exact newDb_zero _ (below_set3 bb4 (by omega))
end Go.Proofs.YtbpfabicampdkaaGreatDoor

namespace Go.Proofs.YtbpfabicampdkaaGreatDoor
open Go.RowKit

theorem specPadT (s : ByteArray) (n : Int) (w : World) (T : ByteArray) (hs : s.size ≤ 1048576) (hn : n ≤ 2000) (hT : padB s n = T) : Calls Tryz.prog 185 #[.string s, .int .i64 n] w (PostT T w) := by
  subst hT
  refine (specPad_any s n w hs hn).mono ?_
  rintro e w' ⟨rfl, rfl⟩
  exact ⟨rfl, Below.refl _ _⟩
set_option maxHeartbeats 4000000 in
set_option maxRecDepth 100000 in
theorem specDecText_any (va : Value) (a : DI) (w : World) (hla : a.1.2.length ≤ 1048576) (ha : OwnD va a w) :
    Calls Tryz.prog 145 #[va] w (PostT (textD a) w) := by
  have Ha := Lib.hid ha
  obtain ⟨Aa, ca, rfl⟩ := ownD_form ha
  have ODa := Lib.hid (show ∀ W, Below w.heap.size w W → OwnD (.agg #[.bool a.1.1, .slice Aa a.1.2.length ca, .int .i64 a.2]) a W from fun W hb => OwnD.below Ha.out hb)
  have OIa := Lib.hid (show ∀ W, Below w.heap.size w W → OwnI (.slice Aa a.1.2.length ca) a.1.2 W from fun W hb => ownD_open (ODa.out W hb))
  have OSa := Lib.hid (show ∀ W, Below w.heap.size w W → OwnS (.agg #[.bool a.1.1, .slice Aa a.1.2.length ca]) a.1 W from fun W hb => OwnS.mk (OIa.out W hb))
  clear ha
  have bb0 : Below w.heap.size w (w.alloc (.cells #[.bool a.1.1, .slice Aa a.1.2.length ca, .int .i64 a.2] 39)) := below_al (Below.refl _ _) _
  have ka := (box_new w #[.bool a.1.1, .slice Aa a.1.2.length ca, .int .i64 a.2] 39)
  obtain ⟨T, hT⟩ : ∃ T, textD a = T := ⟨_, rfl⟩
  have ET := Lib.hid hT
  rw [hT]
  clear hT
  go_enter Tryz.func145, Tryz.ntmps145
  have ka_c0 := ka.here.cell 0 _ rfl
  have ka_c1 := ka.here.cell 1 _ rfl
  have ka_c2 := ka.here.cell 2 _ rfl
  go_wp2_with fail
  clear ka_c0 ka_c1 ka_c2
  refine (specDecOk_any _ a _ hla (ODa.out _ bb0)).mono ?_
  rintro e w1 ⟨rfl, b1⟩
  have bb1 := Below.next bb0 b1
  replace ka := ka.below b1
  by_cases ok : okD a = true
  · rw [ok]
    have HO := Lib.hid ok
    have qa := partsD ok
    have ta := qa.lo
    have ta2 := qa.hi
    obtain ⟨K, hK, hKl, hB⟩ := body_K ok
    have HV := Lib.hid (show T = if a.1.1 = true then (⟨#[45]⟩ : ByteArray) ++ pointB (bodyD a) a.2 else pointB (bodyD a) a.2 by rw [← ET.out]; unfold textD; rw [if_pos HO.out])
    have hP0 : ¬ 0 < a.2 → pointB (bodyD a) a.2 = bodyD a := fun h => by unfold pointB; rw [if_neg h]
    have hP1 : 0 < a.2 → pointB (bodyD a) a.2 = (bodyD a).extract 0 K ++ ⟨#[46]⟩ ++ (bodyD a).extract K (bodyD a).size := fun h => by unfold pointB; rw [if_pos h, show (bodyD a).size - a.2.toNat = K by omega]
    obtain ⟨n1, hn1⟩ : ∃ n, IntKind.i64.wrap (a.2 + 1) = n := ⟨_, rfl⟩
    have hn2 : n1 = a.2 + 1 := by rw [← hn1]; exact IntWalk.i64_in _ (by omega)
    obtain ⟨D, hD⟩ : ∃ D, natTextB a.1.2 = D := ⟨_, rfl⟩
    have hDs : D.size ≤ 1048576 := by rw [← hD]; have := natTextB_size a.1.2; omega
    have EB := Lib.hid (show padB D n1 = bodyD a by rw [← hD, hn2]; rfl)
    have hn3 : n1 ≤ 2000 := by omega
    obtain ⟨Q, hQ⟩ : ∃ Q, pointB (bodyD a) a.2 = Q := ⟨_, rfl⟩
    rw [hQ] at HV hP0 hP1
    generalize bodyD a = B at *
    have ED := Lib.hid hD
    have hKw : IntKind.i64.wrap ((B.size : Int) - a.2) = (K : Int) := by rw [hK]; exact IntWalk.i64_in _ (by omega)
    have c1 : (0 : Int) ≤ (K : Int) := by omega
    have c2 : (K : Int) ≤ (B.size : Int) := by omega
    have HP0 := Lib.hid hP0
    have HP1 := Lib.hid hP1
    have hQs : Q.size ≤ 200 := by
      by_cases h : 0 < a.2
      · rw [hP1 h, ByteArray.size_append, ByteArray.size_append, ByteArray.size_extract, ByteArray.size_extract]; have e : (⟨#[46]⟩ : ByteArray).size = 1 := rfl; omega
      · rw [hP0 h]; omega
    clear hD hn2 hK ok qa hP0 hP1 hQ
    have ka_c0 := ka.here.cell 0 _ rfl
    have ka_c1 := ka.here.cell 1 _ rfl
    have ka_c2 := ka.here.cell 2 _ rfl
    go_wp2_with fail
    have HC0 := Lib.hid (show Chg [] w1 w1.drew from (Chg.refl _ _).drew1)
    have HCr := Lib.hid (show Chg [] w1 w1 from Chg.refl _ _)
    have KL := Lib.hid (show ∀ W, Chg [] w1 W → W.cell? ⟨w.heap.size, 0, none⟩ = some (.bool a.1.1) ∧ W.cell? ⟨w.heap.size, 1, none⟩ = some (.slice Aa a.1.2.length ca) ∧ W.cell? ⟨w.heap.size, 2, none⟩ = some (.int .i64 a.2) ∧ Hid (Chg [] w1 W) from fun W hc => ⟨(ka.chg hc (fun i hi hm => by simp at hm)).here.cell 0 _ rfl, (ka.chg hc (fun i hi hm => by simp at hm)).here.cell 1 _ rfl, (ka.chg hc (fun i hi hm => by simp at hm)).here.cell 2 _ rfl, Lib.hid hc⟩)
    have BBF := Lib.hid (show ∀ W, Chg [] w1 W → Below w.heap.size w W from fun W hc => below_chg bb1 hc bb1.size (fun i hi => by simp at hi))
    clear ka_c0 ka_c1 ka_c2
    go_region_held3 (fun W => W.cell? ⟨w.heap.size, 0, none⟩ = some (.bool a.1.1) ∧ W.cell? ⟨w.heap.size, 1, none⟩ = some (.slice Aa a.1.2.length ca) ∧ W.cell? ⟨w.heap.size, 2, none⟩ = some (.int .i64 a.2) ∧ Hid (Chg [] w1 W))
      ((refine KL.out _ ?_; (first | exact HC3.out | exact HC2.out | exact HCr.out | exact HC0.out | exact HC3.out.drew1 | exact HC2.out.drew1 | exact HCr.out.drew1 | exact HC0.out.drew1 | exact HC3.out.trans (Chg.of_below (below_al (Below.refl _ _) _)) | exact HC2.out.trans (Chg.of_below (below_al (Below.refl _ _) _)) | exact HCr.out.trans (Chg.of_below (below_al (Below.refl _ _) _)) | exact HC0.out.trans (Chg.of_below (below_al (Below.refl _ _) _)) | fail)))
      (first
        | (go_at_call 186; (have hBB := (‹_ ∧ _ ∧ _ ∧ Hid (Chg [] w1 _)›).2.2.2); (with_reducible refine ((specNatText_any _ a.1.2 0 _ _ hla (Nat.le_refl _) (OIa.out _ (BBF.out _ hBB.out)).row).mono fun _ _ h => postT_eqD ED.out h).mono ?_); rintro e w2 ⟨rfl, b2⟩; have HC2 := Lib.hid (hBB.out.trans (Chg.of_below b2)); have HBZ2 := Lib.hid hBB.out.size; clear hBB)
        | (go_at_call 185; (have hBB := (‹_ ∧ _ ∧ _ ∧ Hid (Chg [] w1 _)›).2.2.2); (with_reducible refine (specPadT D n1 _ B hDs hn3 EB.out).mono ?_); rintro e w3 ⟨rfl, b3⟩; have HC3 := Lib.hid (hBB.out.trans (Chg.of_below b3)); have HBZ3 := Lib.hid hBB.out.size; clear hBB))
    all_goals
      have bb3 := BBF.out _ HC3.out
      replace ka := ka.chg HC3.out (fun i hi hm => by simp at hm)
      (try (rename _ ∧ _ ∧ _ ∧ Hid (Chg _ _ _) => hgone; clear hgone))
      have hq1 : ¬ (9223372036854775807 < (1 : Int) + Q.size) := by omega
      by_cases h0 : 0 < a.2
      · have EQ := Lib.hid (HP1.out (by omega))
        have hs1 : (B.extract 0 K).size = K := by rw [ByteArray.size_extract]; omega
        have hs2 : (B.extract K B.size).size = B.size - K := by rw [ByteArray.size_extract]; omega
        cases hneg : a.1.1 with
        | true =>
          have HVV := Lib.hid (show T = (⟨#[45]⟩ : ByteArray) ++ (B.extract 0 K ++ ⟨#[46]⟩ ++ B.extract K B.size) by have h := HV.out; rw [hneg, EQ.out] at h; exact h)
          rw [hneg] at ka
          clear hneg
          have ka_c0 := ka.here.cell 0 _ rfl
          have ka_c1 := ka.here.cell 1 _ rfl
          have ka_c2 := ka.here.cell 2 _ rfl
          go_wp2
          go_quiet (fail)
          go_wp2
          go_ret
          exact ⟨ret_strD HVV.out.symm, below_drewN bb3 _⟩
        | false =>
          have HVV := Lib.hid (show T = (B.extract 0 K ++ ⟨#[46]⟩ ++ B.extract K B.size) by have h := HV.out; rw [hneg, EQ.out] at h; exact h)
          rw [hneg] at ka
          clear hneg
          have ka_c0 := ka.here.cell 0 _ rfl
          have ka_c1 := ka.here.cell 1 _ rfl
          have ka_c2 := ka.here.cell 2 _ rfl
          go_wp2
          go_quiet (fail)
          go_wp2
          go_ret
          exact ⟨ret_strD HVV.out.symm, below_drewN bb3 _⟩
      · have EQ := Lib.hid (HP0.out (by omega))
        cases hneg : a.1.1 with
        | true =>
          have HVV := Lib.hid (show T = (⟨#[45]⟩ : ByteArray) ++ B by have h := HV.out; rw [hneg, EQ.out] at h; exact h)
          rw [hneg] at ka
          clear hneg
          have ka_c0 := ka.here.cell 0 _ rfl
          have ka_c1 := ka.here.cell 1 _ rfl
          have ka_c2 := ka.here.cell 2 _ rfl
          go_wp2
          go_ret
          exact ⟨ret_strD HVV.out.symm, bb3⟩
        | false =>
          have HVV := Lib.hid (show T = B by have h := HV.out; rw [hneg, EQ.out] at h; exact h)
          rw [hneg] at ka
          clear hneg
          have ka_c0 := ka.here.cell 0 _ rfl
          have ka_c1 := ka.here.cell 1 _ rfl
          have ka_c2 := ka.here.cell 2 _ rfl
          go_wp2
          go_ret
          exact ⟨ret_strD HVV.out.symm, bb3⟩
  · have ok' : okD a = false := by simpa using ok
    have HV := Lib.hid (show (⟨#[]⟩ : ByteArray) = T by rw [← ET.out]; unfold textD; rw [if_neg ok])
    rw [ok']
    clear ok ok' ka
    go_wp2
    go_ret
    exact ⟨ret_strD HV.out, bb1⟩
end Go.Proofs.YtbpfabicampdkaaGreatDoor

namespace Go.Proofs.YtbpfabicampdkaaGreatDoor
open Go.RowKit

theorem raw_step (l : List UInt8) (k : Nat) (h : k < l.length) : rawL (l.take (k + 1)) = rawL (l.take k) ++ (if l[k] != 46 && l[k] != 45 then [l[k]] else []) := by
  rw [List.take_succ_eq_append_getElem h, raw_app]
  congr 1
  unfold rawL
  rw [List.filter_cons]
  rfl
theorem at_list (s : ByteArray) (k : Nat) (h : k < s.size) : s.data.toList[k]'h = s[k] := Array.getElem_toList ..
theorem eq_nat {c : UInt8} {n : Nat} (hn : n < 256) (h : c.toNat = n) : c = UInt8.ofNat n := UInt8.toNat_inj.1 (by rw [h, UInt8.toNat_ofNat']; omega)
theorem raw_skip (s : ByteArray) (k : Nat) (h : k < s.size) (hc : s[k].toNat = 46 ∨ s[k].toNat = 45) : rawL (s.data.toList.take (k + 1)) = rawL (s.data.toList.take k) := by
  rw [raw_step _ k h, at_list]
  rcases hc with hc | hc
  · rw [show s[k] = 46 from eq_nat (by decide) hc]; exact List.append_nil _
  · rw [show s[k] = 45 from eq_nat (by decide) hc]; exact List.append_nil _
theorem raw_more (s : ByteArray) (k : Nat) (h : k < s.size) (h1 : ¬ s[k].toNat = 46) (h2 : ¬ s[k].toNat = 45) {G : ByteArray} (hG : G.data.toList = rawL (s.data.toList.take k)) : (G ++ s.extract k (k + 1)).data.toList = rawL (s.data.toList.take (k + 1)) := by
  have hk : k < s.data.toList.length := h
  have e : (s.extract k (k + 1)).data.toList = [s[k]] := by
    rw [extract_listD, List.take_succ_eq_append_getElem hk, List.drop_append_of_le_length (by rw [List.length_take]; omega), List.drop_of_length_le (by rw [List.length_take]; omega), at_list]
    rfl
  rw [ByteArray.data_append, Array.toList_append, hG, e, raw_step _ k h, at_list]
  have b1 : (s[k] != 46) = true := by rw [bne_iff_ne]; intro e; exact h1 (by rw [e]; rfl)
  have b2 : (s[k] != 45) = true := by rw [bne_iff_ne]; intro e; exact h2 (by rw [e]; rfl)
  rw [b1, b2]
  rfl
theorem scale_dot (s : ByteArray) (k : Nat) (h : k < s.size) (hc : s[k].toNat = 46) : scaleF s.data.toList (k + 1) = (s.size : Int) - 1 - k := by
  have e : s.data.toList.getD k 0 = 46 := getD_of (by rw [List.getElem?_eq_getElem h, at_list]; exact congrArg some (eq_nat (by decide) hc))
  exact scale_hit e
theorem scale_keep (s : ByteArray) (k : Nat) (h : k < s.size) (hc : ¬ s[k].toNat = 46) : scaleF s.data.toList (k + 1) = scaleF s.data.toList k := by
  have e : s.data.toList.getD k 0 = s[k] := getD_of (by rw [List.getElem?_eq_getElem h, at_list])
  show (if s.data.toList.getD k 0 = 46 then _ else _) = _
  rw [e, if_neg]
  intro e2
  exact hc (by rw [e2]; rfl)
theorem scale_bound (l : List UInt8) : ∀ k, k ≤ l.length → 0 ≤ scaleF l k ∧ scaleF l k ≤ l.length
  | 0, _ => ⟨Int.le_refl _, by show (0 : Int) ≤ _; omega⟩
  | k + 1, h => by
    show 0 ≤ (if l.getD k 0 = 46 then _ else _) ∧ (if l.getD k 0 = 46 then _ else _) ≤ _
    split
    · omega
    · exact scale_bound l k (by omega)
theorem two_cons (G : ByteArray) (h1 : 1 < G.size) : ∃ c e r, G.data.toList = c :: e :: r ∧ G[0] = c := by
  have h := listB_len G
  have e0 := at_list G 0 (by omega)
  cases hl : G.data.toList with
  | nil => rw [hl] at h; simp at h; omega
  | cons c r =>
    cases r with
    | nil => rw [hl] at h; simp at h; omega
    | cons e r =>
      refine ⟨c, e, r, rfl, ?_⟩
      rw [← e0]
      simp [hl]
theorem strip_step (G : ByteArray) (h1 : 1 < G.size) (h48 : G[0].toNat = 48) : stripL (G.extract 1 G.size).data.toList = stripL G.data.toList := by
  obtain ⟨c, e, r, hl, h0⟩ := two_cons G h1
  rw [extract_listD, List.take_of_length_le (Nat.le_of_eq (listB_len G)), hl]
  have hc : c = 48 := by rw [← h0]; exact eq_nat (by decide) h48
  rw [hc]
  rfl
theorem strip_stay (G : ByteArray) (h1 : 1 < G.size) (h48 : ¬ G[0].toNat = 48) : stripL G.data.toList = G.data.toList := by
  obtain ⟨c, e, r, hl, h0⟩ := two_cons G h1
  rw [hl]
  show (if c = 48 then _ else _) = _
  rw [if_neg]
  intro hc
  exact h48 (by rw [h0, hc]; rfl)
theorem strip_short (G : ByteArray) (h1 : ¬ 1 < G.size) : stripL G.data.toList = G.data.toList := by
  have h := listB_len G
  cases hl : G.data.toList with
  | nil => rfl
  | cons c r =>
    cases r with
    | nil => rfl
    | cons e r => rw [hl] at h; simp at h; omega
theorem raw_end {s G : ByteArray} (h : stripL G.data.toList = G.data.toList) (e : stripL G.data.toList = stripL (rawL s.data.toList)) : G = rawB s := listB (by rw [← h, e]; rfl)
theorem head_no {s : ByteArray} (h : ¬ 0 < s.size) : decide (s.data.toList.headD 0 = 45) = false := by
  have hl := listB_len s
  cases he : s.data.toList with
  | nil => rfl
  | cons c r => rw [he] at hl; simp at hl; omega
theorem head_yes {s : ByteArray} (h : 0 < s.size) : decide (s.data.toList.headD 0 = 45) = ((s[0].toNat : Int) == 45) := by
  rw [head_get s h]
  by_cases e : s[0].toNat = 45
  · rw [decide_eq_true (show s[0] = 45 from eq_nat (by decide) e)]
    exact (beq_iff_eq.2 (by omega)).symm
  · rw [decide_eq_false (fun h => e (by rw [h]; rfl))]
    exact (beq_eq_false_iff_ne.2 (by omega)).symm
/-- the answer by what the two readings say -/
theorem trD_bad1 {s : ByteArray} (h : decOk (rawB s) = false) : trD s = (zeroD, false) := by unfold trD readD; rw [h]; rfl
theorem trD_bad2 {s : ByteArray} (h : okD (parseD s) = false) : trD s = (zeroD, false) := by
  unfold trD
  rw [if_neg]
  unfold readD
  rw [h, Bool.false_and, Bool.and_false]
  decide
theorem trD_bad3 {s : ByteArray} (h : ¬ textD (parseD s) = s) : trD s = (zeroD, false) := by
  unfold trD
  rw [if_neg]
  unfold readD
  rw [decide_eq_false h, Bool.and_false, Bool.and_false]
  decide
theorem trD_good {s : ByteArray} (h1 : decOk (rawB s) = true) (h2 : okD (parseD s) = true) (h3 : textD (parseD s) = s) : trD s = (parseD s, true) := by
  unfold trD
  rw [if_pos]
  unfold readD
  rw [h1, h2, decide_eq_true h3]
  rfl
set_option maxHeartbeats 4000000 in
set_option maxRecDepth 100000 in
theorem specTextDec_any (s : ByteArray) (w : World) (hs : s.size ≤ 1048576) :
    Calls Tryz.prog 90 #[.string s] w (PostDb (trD s).1 (trD s).2 w) := by
  have bb0 : Below w.heap.size w (w.alloc (.cells #[.bool false, .slice none 0 0, .int .i64 0] 39)) := below_al (Below.refl _ _) _
  have ko := (box_new w #[.bool false, .slice none 0 0, .int .i64 0] 39)
  obtain ⟨P, hP⟩ : ∃ P, trD s = P := ⟨_, rfl⟩
  have EP := Lib.hid hP
  rw [hP]
  clear hP
  obtain ⟨W0, hW0⟩ : ∃ W0, W0 = (w.alloc (.cells #[.bool false, .slice none 0 0, .int .i64 0] 39)) := ⟨_, rfl⟩
  rw [← hW0] at bb0 ko 
  have HW0 := Lib.hid hW0
  clear hW0
  go_enter Tryz.func90, Tryz.ntmps90
  go_wp2_with fail
  rw [← HW0.out]
  go_loopw [4, 5, 6] (fun g c i wx => ∃ (k : Nat) (G : ByteArray), k ≤ s.size ∧ G.size ≤ k ∧ i = .int .i64 k ∧ g = .string G ∧ c = .int .i64 (scaleF s.data.toList k) ∧ Hid (G.data.toList = rawL (s.data.toList.take k)) ∧ At [w.heap.size] (BoxAt w.heap.size #[.bool false, .slice none 0 0, .int .i64 0] 39) wx ∧ Below w.heap.size w wx) (fun _ _ i _ => s.size - (intOf i).toNat)
  case atStart => exact ⟨0, ⟨#[]⟩, Nat.zero_le _, Nat.le_refl _, rfl, rfl, rfl, Lib.hid rfl, ko, bb0⟩
  case round =>
    clear ko bb0
    obtain ⟨k, G, hk, hGk, rfl, rfl, rfl, HG, ko, bbr⟩ := hrel
    by_cases hlt : k < s.size
    · by_cases h46 : s[k].toNat = 46
      · have HR := Lib.hid (raw_skip s k hlt (.inl h46))
        have HS := Lib.hid (scale_dot s k hlt h46)
        have b46 : ((s[k].toNat : Int) == 46) = true := by rw [beq_iff_eq]; omega
        clear h46
        go_wp2
        go_roundw
        case rel => exact ⟨k + 1, G, by omega, by omega, by go_num, rfl, by (rw [HS.out]; try go_num), Lib.hid (HG.out.trans HR.out.symm), ko, bbr⟩
        case measure => simp [intOf]; omega
      · have HS := Lib.hid (scale_keep s k hlt h46)
        have b46 : ((s[k].toNat : Int) == 46) = false := by rw [beq_eq_false_iff_ne]; omega
        by_cases h45 : s[k].toNat = 45
        · have HR := Lib.hid (raw_skip s k hlt (.inr h45))
          have b45 : ((s[k].toNat : Int) == 45) = true := by rw [beq_iff_eq]; omega
          have b45n : ((s[k].toNat : Int) != 45) = false := by rw [bne, b45]; rfl
          clear h45 h46
          go_wp2
          go_roundw
          case rel => exact ⟨k + 1, G, by omega, by omega, by go_num, rfl, by rw [HS.out], Lib.hid (HG.out.trans HR.out.symm), ko, bbr⟩
          case measure => simp [intOf]; omega
        · have HR := Lib.hid (raw_more s k hlt h46 h45 HG.out)
          have b45 : ((s[k].toNat : Int) == 45) = false := by rw [beq_eq_false_iff_ne]; omega
          have b45n : ((s[k].toNat : Int) != 45) = true := by rw [bne, b45]; rfl
          clear h45 h46
          have h1s : (s.extract k (k + 1)).size = 1 := by rw [ByteArray.size_extract]; omega
          have hq1 : ¬ (9223372036854775807 < G.size + (s.extract k (k + 1)).size) := by omega
          have c0 : (0 : Int) ≤ (k : Int) := by omega
          have c1 : (k : Int) ≤ (k : Int) + 1 := by omega
          have c2 : (k : Int) + 1 ≤ (s.size : Int) := by omega
          go_wp2
          go_roundw
          case rel => exact ⟨k + 1, _, by omega, by rw [ByteArray.size_append]; omega, by go_num, rfl, by rw [HS.out], Lib.hid HR.out, ko, bbr⟩
          case measure => simp [intOf]; omega
    · obtain rfl : k = s.size := by omega
      have HG2 := Lib.hid (show stripL G.data.toList = stripL (rawL s.data.toList) by rw [HG.out, take_full])
      clear HG
      have hsc := scale_bound s.data.toList s.size (Nat.le_refl _)
      have hs1 := hsc.1
      have hs2 := hsc.2
      clear hsc
      rw [listB_len] at hs2
      obtain ⟨K, hK⟩ : ∃ K, scaleF s.data.toList s.size = K := ⟨_, rfl⟩
      have EK := Lib.hid hK
      rw [hK] at hs1 hs2 ⊢
      clear hK hlt hk
      go_wp2
      go_loopw [4] (fun g wx => ∃ G : ByteArray, G.size ≤ s.size ∧ g = .string G ∧ Hid (stripL G.data.toList = stripL (rawL s.data.toList)) ∧ At [w.heap.size] (BoxAt w.heap.size #[.bool false, .slice none 0 0, .int .i64 0] 39) wx ∧ Below w.heap.size w wx) (fun g _ => strSize g)
      case atStart => exact ⟨G, hGk, rfl, HG2, ko, bbr⟩
      case round =>
        clear ko bbr HG2 hGk
        obtain ⟨G, hGk, rfl, HG, ko, bbr⟩ := hrel
        by_cases h1 : 1 < G.size
        · have h1i : (1 : Int) < (G.size : Int) := by omega
          by_cases h48 : G[0].toNat = 48
          · have b48 : ((G[0].toNat : Int) == 48) = true := by rw [beq_iff_eq]; omega
            have HS := Lib.hid (strip_step G h1 h48)
            clear h48
            have hxs : (G.extract 1 G.size).size = G.size - 1 := by rw [ByteArray.size_extract]; omega
            go_wp2
            go_roundw
            case rel => exact ⟨_, by rw [hxs]; omega, rfl, Lib.hid (HS.out.trans HG.out), ko, bbr⟩
            case measure => simp only [strSize, hxs]; omega
          · have b48 : ((G[0].toNat : Int) == 48) = false := by rw [beq_eq_false_iff_ne]; omega
            have hG := raw_end (strip_stay G h1 h48) HG.out
            clear h48
            have HGE := Lib.hid hG
            clear hG HG
            have HK := Lib.hid (ko.lt w.heap.size (by simp))
            obtain ⟨N, hN⟩ : ∃ N, decide (s.data.toList.headD 0 = 45) = N := ⟨_, rfl⟩
            obtain ⟨xs, hxs⟩ : ∃ xs, tnR G = xs := ⟨_, rfl⟩
            obtain ⟨oky, hoky⟩ : ∃ o, decOk G = o := ⟨_, rfl⟩
            have hxl : xs.length ≤ 1048576 := by rw [← hxs]; have := tnR_len G; omega
            have HX := Lib.hid (show parseD s = ((N, xs), K) by rw [← hN, ← hxs, HGE.out, ← EK.out]; rfl)
            have HB1 := Lib.hid (fun h : oky = false => (show P = (zeroD, false) by rw [← EP.out]; exact trD_bad1 (by rw [← HGE.out, hoky]; exact h)))
            have HB2 := Lib.hid (fun h : okD ((N, xs), K) = false => (show P = (zeroD, false) by rw [← EP.out]; exact trD_bad2 (by rw [HX.out]; exact h)))
            have HB3 := Lib.hid (fun h : ¬ textD ((N, xs), K) = s => (show P = (zeroD, false) by rw [← EP.out]; exact trD_bad3 (by rw [HX.out]; exact h)))
            have HGD := Lib.hid (fun (h1 : oky = true) (h2 : okD ((N, xs), K) = true) (h3 : textD ((N, xs), K) = s) => (show P = (((N, xs), K), true) by rw [← EP.out, ← HX.out]; exact trD_good (by rw [← HGE.out, hoky]; exact h1) (by rw [HX.out]; exact h2) (by rw [HX.out]; exact h3)))
            have ET0 := Lib.hid hxs
            have ET1 := Lib.hid hoky
            have HNN := Lib.hid hN
            clear hN hxs hoky
            go_wp2_with fail
            refine (((specTextNat_any G _ (by omega)).mono fun _ _ h => h.new)).mono ?_
            rintro e w1 ⟨vq, rfl, oq0, b1⟩
            rw [ET0.out] at oq0
            rw [ET1.out]
            obtain ⟨Aq, cq, rfl⟩ := own_len oq0
            have oq := own_at' oq0
            have lq := own_within oq0
            clear oq0
            have bb1 := Below.next bbr b1
            replace ko := ko.below b1
            have os := oq.imp (fun _ h => (OwnS.mk (x := (N, xs)) h : OwnS (.agg #[.bool N, .slice Aq xs.length cq]) (N, xs) _))
            clear oq
            by_cases h0 : 0 < s.size
            · have h0i : (0 : Int) < (s.size : Int) := by omega
              have hn : ((s[0].toNat : Int) == 45) = N := (head_yes h0).symm.trans HNN.out
              by_cases ok : okD ((N, xs), K) = true
              · have EV := Lib.hid (show decD (N, xs) K = (((N, xs), K), true) by unfold decD; rw [if_pos ok])
                have HO := Lib.hid ok
                clear ok
                go_wp2_with fail
                go_wp2_with fail
                refine ((l07Dec_any _ (N, xs) K _ _ hxl os).mono fun _ _ h => keptD_eq EV.out h).mono ?_
                rintro e w2 ⟨uf, Sf, rfl, of, sf, b2⟩
                obtain ⟨Af, cf, rfl⟩ := ownD_form of.here
                have bb2 := Below.next bb1 b2
                replace ko := ko.below b2
                replace os := os.below b2
                have lf : ∀ i ∈ Sf, w.heap.size < i := fun i hi => by have h1 := lq i (sf i hi); have h2 := HK.out; have h3 := h1.1; omega
                clear os
                obtain ⟨Y, hY⟩ : ∃ Y : DI, (((N, xs), K) : DI) = Y := ⟨_, rfl⟩
                have EY := Lib.hid hY
                rw [hY] at of ⊢
                clear hY
                have kd := box_new (w2) #[.bool Y.1.1, .slice Af Y.1.2.length cf, .int .i64 Y.2] 39
                have ald := below_al (Below.refl (w2).heap.size (w2)) (.cells #[.bool Y.1.1, .slice Af Y.1.2.length cf, .int .i64 Y.2] 39)
                have bbd := Below.next bb2 ald
                replace ko := ko.below ald
                replace of := of.below ald
                cases oky with
                | false =>
                  have HV0 := Lib.hid (HB1.out rfl)
                  clear kd of
                  have cz0 := ko.here.cell 0 _ rfl
                  have fz0 := Lib.frozen_of_heap ko.here 0
                  have cz1 := ko.here.cell 1 _ rfl
                  have fz1 := Lib.frozen_of_heap ko.here 1
                  have cz2 := ko.here.cell 2 _ rfl
                  have fz2 := Lib.frozen_of_heap ko.here 2
                  go_wp2
                  refine bodyPost_ret (v := .tuple #[.agg #[.bool false, .slice none 0 0, .int .i64 0], .bool false]) (by simp [results, Tryz.results90, go_sem, cz0, cz1, cz2]) rfl ?_
                  rw [HV0.out]
                  first | exact newDb_zero _ bbd | exact newDb_zero _ (below_set3 bbd (by omega))
                | true =>
                  obtain ⟨T, hT⟩ : ∃ T, textD Y = T := ⟨_, rfl⟩
                  have ET := Lib.hid hT
                  have hX1 : Y.1.2.length ≤ 1048576 := by rw [← EY.out]; exact hxl
                  clear hT
                  have kd_c0 := kd.here.cell 0 _ rfl
                  have kd_c1 := kd.here.cell 1 _ rfl
                  have kd_c2 := kd.here.cell 2 _ rfl
                  go_wp2_with fail
                  clear kd_c0 kd_c1 kd_c2
                  refine ((specDecText_any _ Y _ hX1 of.here).mono fun _ _ h => postT_isD ET.out h).mono ?_
                  rintro e w3 ⟨rfl, b3⟩
                  have bb3 := Below.next bbd b3
                  replace ko := ko.below b3
                  replace of := of.below b3
                  replace kd := kd.below b3
                  by_cases hx : T = s
                  · have HV := Lib.hid (show P = (Y, true) by rw [← EY.out]; exact HGD.out (by simp) HO.out (by rw [EY.out, ET.out]; exact hx))
                    have hse := bytes_eqP hx
                    clear hx
                    have HW := Lib.hid (postDb_chg (b := true) (T := [w.heap.size]) of (fun i hi hm => by have := lf i hi; simp at hm; omega) (fun i hi => by simp at hi; omega) (fun i hi => by have := lf i hi; omega) bb3)
                    have kd_c0 := kd.here.cell 0 _ rfl
                    have kd_c1 := kd.here.cell 1 _ rfl
                    have kd_c2 := kd.here.cell 2 _ rfl
                    have cz0 := ko.here.cell 0 _ rfl
                    have fz0 := Lib.frozen_of_heap ko.here 0
                    have cz1 := ko.here.cell 1 _ rfl
                    have fz1 := Lib.frozen_of_heap ko.here 1
                    have cz2 := ko.here.cell 2 _ rfl
                    have fz2 := Lib.frozen_of_heap ko.here 2
                    clear of kd ko
                    go_wp2
                    refine bodyPost_ret (v := .tuple #[.agg #[.bool Y.1.1, .slice Af Y.1.2.length cf, .int .i64 Y.2], .bool true]) (by simp [results, Tryz.results90, go_sem, cz0, cz1, cz2]) rfl ?_
                    rw [HV.out]
                    refine HW.out _ ?_
                    repeat (first | exact Chg.refl _ _ | refine Chg.setCell ?_ (by simp) _)
                  · have HV := Lib.hid (HB3.out (by rw [EY.out, ET.out]; exact hx))
                    have hse := bytes_neP hx
                    clear hx of kd
                    have cz0 := ko.here.cell 0 _ rfl
                    have fz0 := Lib.frozen_of_heap ko.here 0
                    have cz1 := ko.here.cell 1 _ rfl
                    have fz1 := Lib.frozen_of_heap ko.here 1
                    have cz2 := ko.here.cell 2 _ rfl
                    have fz2 := Lib.frozen_of_heap ko.here 2
                    go_wp2
                    refine bodyPost_ret (v := .tuple #[.agg #[.bool false, .slice none 0 0, .int .i64 0], .bool false]) (by simp [results, Tryz.results90, go_sem, cz0, cz1, cz2]) rfl ?_
                    rw [HV.out]
                    first | exact newDb_zero _ bb3 | exact newDb_zero _ (below_set3 bb3 (by omega))
              · have EV := Lib.hid (show decD (N, xs) K = (zeroD, false) by unfold decD; rw [if_neg ok])
                have HV := Lib.hid (HB2.out (by simpa using ok))
                clear ok
                go_wp2_with fail
                go_wp2_with fail
                refine ((l07Dec_any _ (N, xs) K _ _ hxl os).mono fun _ _ h => keptD_eq EV.out h).mono ?_
                rintro e w2 ⟨uf, Sf, rfl, of, sf, b2⟩
                obtain ⟨Af, cf, rfl⟩ := ownD_form of.here
                have bb2 := Below.next bb1 b2
                replace ko := ko.below b2
                replace os := os.below b2
                have lf : ∀ i ∈ Sf, w.heap.size < i := fun i hi => by have h1 := lq i (sf i hi); have h2 := HK.out; have h3 := h1.1; omega
                clear os
                obtain ⟨Y, hY⟩ : ∃ Y : DI, (zeroD : DI) = Y := ⟨_, rfl⟩
                have EY := Lib.hid hY
                rw [hY] at of ⊢
                clear hY
                have kd := box_new (w2) #[.bool Y.1.1, .slice Af Y.1.2.length cf, .int .i64 Y.2] 39
                have ald := below_al (Below.refl (w2).heap.size (w2)) (.cells #[.bool Y.1.1, .slice Af Y.1.2.length cf, .int .i64 Y.2] 39)
                have bbd := Below.next bb2 ald
                replace ko := ko.below ald
                replace of := of.below ald
                cases oky with
                | false =>
                  have HV0 := Lib.hid (HB1.out rfl)
                  clear kd of
                  have cz0 := ko.here.cell 0 _ rfl
                  have fz0 := Lib.frozen_of_heap ko.here 0
                  have cz1 := ko.here.cell 1 _ rfl
                  have fz1 := Lib.frozen_of_heap ko.here 1
                  have cz2 := ko.here.cell 2 _ rfl
                  have fz2 := Lib.frozen_of_heap ko.here 2
                  go_wp2
                  refine bodyPost_ret (v := .tuple #[.agg #[.bool false, .slice none 0 0, .int .i64 0], .bool false]) (by simp [results, Tryz.results90, go_sem, cz0, cz1, cz2]) rfl ?_
                  rw [HV0.out]
                  first | exact newDb_zero _ bbd | exact newDb_zero _ (below_set3 bbd (by omega))
                | true =>
                  clear kd of
                  have cz0 := ko.here.cell 0 _ rfl
                  have fz0 := Lib.frozen_of_heap ko.here 0
                  have cz1 := ko.here.cell 1 _ rfl
                  have fz1 := Lib.frozen_of_heap ko.here 1
                  have cz2 := ko.here.cell 2 _ rfl
                  have fz2 := Lib.frozen_of_heap ko.here 2
                  go_wp2
                  refine bodyPost_ret (v := .tuple #[.agg #[.bool false, .slice none 0 0, .int .i64 0], .bool false]) (by simp [results, Tryz.results90, go_sem, cz0, cz1, cz2]) rfl ?_
                  rw [HV.out]
                  first | exact newDb_zero _ bbd | exact newDb_zero _ (below_set3 bbd (by omega))
            · exfalso; omega
        · have h1i : ¬ (1 : Int) < (G.size : Int) := by omega
          have hG := raw_end (strip_short G h1) HG.out
          have HGE := Lib.hid hG
          clear hG HG
          have HK := Lib.hid (ko.lt w.heap.size (by simp))
          obtain ⟨N, hN⟩ : ∃ N, decide (s.data.toList.headD 0 = 45) = N := ⟨_, rfl⟩
          obtain ⟨xs, hxs⟩ : ∃ xs, tnR G = xs := ⟨_, rfl⟩
          obtain ⟨oky, hoky⟩ : ∃ o, decOk G = o := ⟨_, rfl⟩
          have hxl : xs.length ≤ 1048576 := by rw [← hxs]; have := tnR_len G; omega
          have HX := Lib.hid (show parseD s = ((N, xs), K) by rw [← hN, ← hxs, HGE.out, ← EK.out]; rfl)
          have HB1 := Lib.hid (fun h : oky = false => (show P = (zeroD, false) by rw [← EP.out]; exact trD_bad1 (by rw [← HGE.out, hoky]; exact h)))
          have HB2 := Lib.hid (fun h : okD ((N, xs), K) = false => (show P = (zeroD, false) by rw [← EP.out]; exact trD_bad2 (by rw [HX.out]; exact h)))
          have HB3 := Lib.hid (fun h : ¬ textD ((N, xs), K) = s => (show P = (zeroD, false) by rw [← EP.out]; exact trD_bad3 (by rw [HX.out]; exact h)))
          have HGD := Lib.hid (fun (h1 : oky = true) (h2 : okD ((N, xs), K) = true) (h3 : textD ((N, xs), K) = s) => (show P = (((N, xs), K), true) by rw [← EP.out, ← HX.out]; exact trD_good (by rw [← HGE.out, hoky]; exact h1) (by rw [HX.out]; exact h2) (by rw [HX.out]; exact h3)))
          have ET0 := Lib.hid hxs
          have ET1 := Lib.hid hoky
          have HNN := Lib.hid hN
          clear hN hxs hoky
          go_wp2_with fail
          refine (((specTextNat_any G _ (by omega)).mono fun _ _ h => h.new)).mono ?_
          rintro e w1 ⟨vq, rfl, oq0, b1⟩
          rw [ET0.out] at oq0
          rw [ET1.out]
          obtain ⟨Aq, cq, rfl⟩ := own_len oq0
          have oq := own_at' oq0
          have lq := own_within oq0
          clear oq0
          have bb1 := Below.next bbr b1
          replace ko := ko.below b1
          have os := oq.imp (fun _ h => (OwnS.mk (x := (N, xs)) h : OwnS (.agg #[.bool N, .slice Aq xs.length cq]) (N, xs) _))
          clear oq
          by_cases h0 : 0 < s.size
          · have h0i : (0 : Int) < (s.size : Int) := by omega
            have hn : ((s[0].toNat : Int) == 45) = N := (head_yes h0).symm.trans HNN.out
            by_cases ok : okD ((N, xs), K) = true
            · have EV := Lib.hid (show decD (N, xs) K = (((N, xs), K), true) by unfold decD; rw [if_pos ok])
              have HO := Lib.hid ok
              clear ok
              go_wp2_with fail
              go_wp2_with fail
              refine ((l07Dec_any _ (N, xs) K _ _ hxl os).mono fun _ _ h => keptD_eq EV.out h).mono ?_
              rintro e w2 ⟨uf, Sf, rfl, of, sf, b2⟩
              obtain ⟨Af, cf, rfl⟩ := ownD_form of.here
              have bb2 := Below.next bb1 b2
              replace ko := ko.below b2
              replace os := os.below b2
              have lf : ∀ i ∈ Sf, w.heap.size < i := fun i hi => by have h1 := lq i (sf i hi); have h2 := HK.out; have h3 := h1.1; omega
              clear os
              obtain ⟨Y, hY⟩ : ∃ Y : DI, (((N, xs), K) : DI) = Y := ⟨_, rfl⟩
              have EY := Lib.hid hY
              rw [hY] at of ⊢
              clear hY
              have kd := box_new (w2) #[.bool Y.1.1, .slice Af Y.1.2.length cf, .int .i64 Y.2] 39
              have ald := below_al (Below.refl (w2).heap.size (w2)) (.cells #[.bool Y.1.1, .slice Af Y.1.2.length cf, .int .i64 Y.2] 39)
              have bbd := Below.next bb2 ald
              replace ko := ko.below ald
              replace of := of.below ald
              cases oky with
              | false =>
                have HV0 := Lib.hid (HB1.out rfl)
                clear kd of
                have cz0 := ko.here.cell 0 _ rfl
                have fz0 := Lib.frozen_of_heap ko.here 0
                have cz1 := ko.here.cell 1 _ rfl
                have fz1 := Lib.frozen_of_heap ko.here 1
                have cz2 := ko.here.cell 2 _ rfl
                have fz2 := Lib.frozen_of_heap ko.here 2
                go_wp2
                refine bodyPost_ret (v := .tuple #[.agg #[.bool false, .slice none 0 0, .int .i64 0], .bool false]) (by simp [results, Tryz.results90, go_sem, cz0, cz1, cz2]) rfl ?_
                rw [HV0.out]
                first | exact newDb_zero _ bbd | exact newDb_zero _ (below_set3 bbd (by omega))
              | true =>
                obtain ⟨T, hT⟩ : ∃ T, textD Y = T := ⟨_, rfl⟩
                have ET := Lib.hid hT
                have hX1 : Y.1.2.length ≤ 1048576 := by rw [← EY.out]; exact hxl
                clear hT
                have kd_c0 := kd.here.cell 0 _ rfl
                have kd_c1 := kd.here.cell 1 _ rfl
                have kd_c2 := kd.here.cell 2 _ rfl
                go_wp2_with fail
                clear kd_c0 kd_c1 kd_c2
                refine ((specDecText_any _ Y _ hX1 of.here).mono fun _ _ h => postT_isD ET.out h).mono ?_
                rintro e w3 ⟨rfl, b3⟩
                have bb3 := Below.next bbd b3
                replace ko := ko.below b3
                replace of := of.below b3
                replace kd := kd.below b3
                by_cases hx : T = s
                · have HV := Lib.hid (show P = (Y, true) by rw [← EY.out]; exact HGD.out (by simp) HO.out (by rw [EY.out, ET.out]; exact hx))
                  have hse := bytes_eqP hx
                  clear hx
                  have HW := Lib.hid (postDb_chg (b := true) (T := [w.heap.size]) of (fun i hi hm => by have := lf i hi; simp at hm; omega) (fun i hi => by simp at hi; omega) (fun i hi => by have := lf i hi; omega) bb3)
                  have kd_c0 := kd.here.cell 0 _ rfl
                  have kd_c1 := kd.here.cell 1 _ rfl
                  have kd_c2 := kd.here.cell 2 _ rfl
                  have cz0 := ko.here.cell 0 _ rfl
                  have fz0 := Lib.frozen_of_heap ko.here 0
                  have cz1 := ko.here.cell 1 _ rfl
                  have fz1 := Lib.frozen_of_heap ko.here 1
                  have cz2 := ko.here.cell 2 _ rfl
                  have fz2 := Lib.frozen_of_heap ko.here 2
                  clear of kd ko
                  go_wp2
                  refine bodyPost_ret (v := .tuple #[.agg #[.bool Y.1.1, .slice Af Y.1.2.length cf, .int .i64 Y.2], .bool true]) (by simp [results, Tryz.results90, go_sem, cz0, cz1, cz2]) rfl ?_
                  rw [HV.out]
                  refine HW.out _ ?_
                  repeat (first | exact Chg.refl _ _ | refine Chg.setCell ?_ (by simp) _)
                · have HV := Lib.hid (HB3.out (by rw [EY.out, ET.out]; exact hx))
                  have hse := bytes_neP hx
                  clear hx of kd
                  have cz0 := ko.here.cell 0 _ rfl
                  have fz0 := Lib.frozen_of_heap ko.here 0
                  have cz1 := ko.here.cell 1 _ rfl
                  have fz1 := Lib.frozen_of_heap ko.here 1
                  have cz2 := ko.here.cell 2 _ rfl
                  have fz2 := Lib.frozen_of_heap ko.here 2
                  go_wp2
                  refine bodyPost_ret (v := .tuple #[.agg #[.bool false, .slice none 0 0, .int .i64 0], .bool false]) (by simp [results, Tryz.results90, go_sem, cz0, cz1, cz2]) rfl ?_
                  rw [HV.out]
                  first | exact newDb_zero _ bb3 | exact newDb_zero _ (below_set3 bb3 (by omega))
            · have EV := Lib.hid (show decD (N, xs) K = (zeroD, false) by unfold decD; rw [if_neg ok])
              have HV := Lib.hid (HB2.out (by simpa using ok))
              clear ok
              go_wp2_with fail
              go_wp2_with fail
              refine ((l07Dec_any _ (N, xs) K _ _ hxl os).mono fun _ _ h => keptD_eq EV.out h).mono ?_
              rintro e w2 ⟨uf, Sf, rfl, of, sf, b2⟩
              obtain ⟨Af, cf, rfl⟩ := ownD_form of.here
              have bb2 := Below.next bb1 b2
              replace ko := ko.below b2
              replace os := os.below b2
              have lf : ∀ i ∈ Sf, w.heap.size < i := fun i hi => by have h1 := lq i (sf i hi); have h2 := HK.out; have h3 := h1.1; omega
              clear os
              obtain ⟨Y, hY⟩ : ∃ Y : DI, (zeroD : DI) = Y := ⟨_, rfl⟩
              have EY := Lib.hid hY
              rw [hY] at of ⊢
              clear hY
              have kd := box_new (w2) #[.bool Y.1.1, .slice Af Y.1.2.length cf, .int .i64 Y.2] 39
              have ald := below_al (Below.refl (w2).heap.size (w2)) (.cells #[.bool Y.1.1, .slice Af Y.1.2.length cf, .int .i64 Y.2] 39)
              have bbd := Below.next bb2 ald
              replace ko := ko.below ald
              replace of := of.below ald
              cases oky with
              | false =>
                have HV0 := Lib.hid (HB1.out rfl)
                clear kd of
                have cz0 := ko.here.cell 0 _ rfl
                have fz0 := Lib.frozen_of_heap ko.here 0
                have cz1 := ko.here.cell 1 _ rfl
                have fz1 := Lib.frozen_of_heap ko.here 1
                have cz2 := ko.here.cell 2 _ rfl
                have fz2 := Lib.frozen_of_heap ko.here 2
                go_wp2
                refine bodyPost_ret (v := .tuple #[.agg #[.bool false, .slice none 0 0, .int .i64 0], .bool false]) (by simp [results, Tryz.results90, go_sem, cz0, cz1, cz2]) rfl ?_
                rw [HV0.out]
                first | exact newDb_zero _ bbd | exact newDb_zero _ (below_set3 bbd (by omega))
              | true =>
                clear kd of
                have cz0 := ko.here.cell 0 _ rfl
                have fz0 := Lib.frozen_of_heap ko.here 0
                have cz1 := ko.here.cell 1 _ rfl
                have fz1 := Lib.frozen_of_heap ko.here 1
                have cz2 := ko.here.cell 2 _ rfl
                have fz2 := Lib.frozen_of_heap ko.here 2
                go_wp2
                refine bodyPost_ret (v := .tuple #[.agg #[.bool false, .slice none 0 0, .int .i64 0], .bool false]) (by simp [results, Tryz.results90, go_sem, cz0, cz1, cz2]) rfl ?_
                rw [HV.out]
                first | exact newDb_zero _ bbd | exact newDb_zero _ (below_set3 bbd (by omega))
          · have h0i : ¬ (0 : Int) < (s.size : Int) := by omega
            have hn : false = N := (head_no h0).symm.trans HNN.out
            subst hn
            by_cases ok : okD ((false, xs), K) = true
            · have EV := Lib.hid (show decD (false, xs) K = (((false, xs), K), true) by unfold decD; rw [if_pos ok])
              have HO := Lib.hid ok
              clear ok
              go_wp2_with fail
              go_wp2_with fail
              refine ((l07Dec_any _ (false, xs) K _ _ hxl os).mono fun _ _ h => keptD_eq EV.out h).mono ?_
              rintro e w2 ⟨uf, Sf, rfl, of, sf, b2⟩
              obtain ⟨Af, cf, rfl⟩ := ownD_form of.here
              have bb2 := Below.next bb1 b2
              replace ko := ko.below b2
              replace os := os.below b2
              have lf : ∀ i ∈ Sf, w.heap.size < i := fun i hi => by have h1 := lq i (sf i hi); have h2 := HK.out; have h3 := h1.1; omega
              clear os
              obtain ⟨Y, hY⟩ : ∃ Y : DI, (((false, xs), K) : DI) = Y := ⟨_, rfl⟩
              have EY := Lib.hid hY
              rw [hY] at of ⊢
              clear hY
              have kd := box_new (w2) #[.bool Y.1.1, .slice Af Y.1.2.length cf, .int .i64 Y.2] 39
              have ald := below_al (Below.refl (w2).heap.size (w2)) (.cells #[.bool Y.1.1, .slice Af Y.1.2.length cf, .int .i64 Y.2] 39)
              have bbd := Below.next bb2 ald
              replace ko := ko.below ald
              replace of := of.below ald
              cases oky with
              | false =>
                have HV0 := Lib.hid (HB1.out rfl)
                clear kd of
                have cz0 := ko.here.cell 0 _ rfl
                have fz0 := Lib.frozen_of_heap ko.here 0
                have cz1 := ko.here.cell 1 _ rfl
                have fz1 := Lib.frozen_of_heap ko.here 1
                have cz2 := ko.here.cell 2 _ rfl
                have fz2 := Lib.frozen_of_heap ko.here 2
                go_wp2
                refine bodyPost_ret (v := .tuple #[.agg #[.bool false, .slice none 0 0, .int .i64 0], .bool false]) (by simp [results, Tryz.results90, go_sem, cz0, cz1, cz2]) rfl ?_
                rw [HV0.out]
                first | exact newDb_zero _ bbd | exact newDb_zero _ (below_set3 bbd (by omega))
              | true =>
                obtain ⟨T, hT⟩ : ∃ T, textD Y = T := ⟨_, rfl⟩
                have ET := Lib.hid hT
                have hX1 : Y.1.2.length ≤ 1048576 := by rw [← EY.out]; exact hxl
                clear hT
                have kd_c0 := kd.here.cell 0 _ rfl
                have kd_c1 := kd.here.cell 1 _ rfl
                have kd_c2 := kd.here.cell 2 _ rfl
                go_wp2_with fail
                clear kd_c0 kd_c1 kd_c2
                refine ((specDecText_any _ Y _ hX1 of.here).mono fun _ _ h => postT_isD ET.out h).mono ?_
                rintro e w3 ⟨rfl, b3⟩
                have bb3 := Below.next bbd b3
                replace ko := ko.below b3
                replace of := of.below b3
                replace kd := kd.below b3
                by_cases hx : T = s
                · have HV := Lib.hid (show P = (Y, true) by rw [← EY.out]; exact HGD.out (by simp) HO.out (by rw [EY.out, ET.out]; exact hx))
                  have hse := bytes_eqP hx
                  clear hx
                  have HW := Lib.hid (postDb_chg (b := true) (T := [w.heap.size]) of (fun i hi hm => by have := lf i hi; simp at hm; omega) (fun i hi => by simp at hi; omega) (fun i hi => by have := lf i hi; omega) bb3)
                  have kd_c0 := kd.here.cell 0 _ rfl
                  have kd_c1 := kd.here.cell 1 _ rfl
                  have kd_c2 := kd.here.cell 2 _ rfl
                  have cz0 := ko.here.cell 0 _ rfl
                  have fz0 := Lib.frozen_of_heap ko.here 0
                  have cz1 := ko.here.cell 1 _ rfl
                  have fz1 := Lib.frozen_of_heap ko.here 1
                  have cz2 := ko.here.cell 2 _ rfl
                  have fz2 := Lib.frozen_of_heap ko.here 2
                  clear of kd ko
                  go_wp2
                  refine bodyPost_ret (v := .tuple #[.agg #[.bool Y.1.1, .slice Af Y.1.2.length cf, .int .i64 Y.2], .bool true]) (by simp [results, Tryz.results90, go_sem, cz0, cz1, cz2]) rfl ?_
                  rw [HV.out]
                  refine HW.out _ ?_
                  repeat (first | exact Chg.refl _ _ | refine Chg.setCell ?_ (by simp) _)
                · have HV := Lib.hid (HB3.out (by rw [EY.out, ET.out]; exact hx))
                  have hse := bytes_neP hx
                  clear hx of kd
                  have cz0 := ko.here.cell 0 _ rfl
                  have fz0 := Lib.frozen_of_heap ko.here 0
                  have cz1 := ko.here.cell 1 _ rfl
                  have fz1 := Lib.frozen_of_heap ko.here 1
                  have cz2 := ko.here.cell 2 _ rfl
                  have fz2 := Lib.frozen_of_heap ko.here 2
                  go_wp2
                  refine bodyPost_ret (v := .tuple #[.agg #[.bool false, .slice none 0 0, .int .i64 0], .bool false]) (by simp [results, Tryz.results90, go_sem, cz0, cz1, cz2]) rfl ?_
                  rw [HV.out]
                  first | exact newDb_zero _ bb3 | exact newDb_zero _ (below_set3 bb3 (by omega))
            · have EV := Lib.hid (show decD (false, xs) K = (zeroD, false) by unfold decD; rw [if_neg ok])
              have HV := Lib.hid (HB2.out (by simpa using ok))
              clear ok
              go_wp2_with fail
              go_wp2_with fail
              refine ((l07Dec_any _ (false, xs) K _ _ hxl os).mono fun _ _ h => keptD_eq EV.out h).mono ?_
              rintro e w2 ⟨uf, Sf, rfl, of, sf, b2⟩
              obtain ⟨Af, cf, rfl⟩ := ownD_form of.here
              have bb2 := Below.next bb1 b2
              replace ko := ko.below b2
              replace os := os.below b2
              have lf : ∀ i ∈ Sf, w.heap.size < i := fun i hi => by have h1 := lq i (sf i hi); have h2 := HK.out; have h3 := h1.1; omega
              clear os
              obtain ⟨Y, hY⟩ : ∃ Y : DI, (zeroD : DI) = Y := ⟨_, rfl⟩
              have EY := Lib.hid hY
              rw [hY] at of ⊢
              clear hY
              have kd := box_new (w2) #[.bool Y.1.1, .slice Af Y.1.2.length cf, .int .i64 Y.2] 39
              have ald := below_al (Below.refl (w2).heap.size (w2)) (.cells #[.bool Y.1.1, .slice Af Y.1.2.length cf, .int .i64 Y.2] 39)
              have bbd := Below.next bb2 ald
              replace ko := ko.below ald
              replace of := of.below ald
              cases oky with
              | false =>
                have HV0 := Lib.hid (HB1.out rfl)
                clear kd of
                have cz0 := ko.here.cell 0 _ rfl
                have fz0 := Lib.frozen_of_heap ko.here 0
                have cz1 := ko.here.cell 1 _ rfl
                have fz1 := Lib.frozen_of_heap ko.here 1
                have cz2 := ko.here.cell 2 _ rfl
                have fz2 := Lib.frozen_of_heap ko.here 2
                go_wp2
                refine bodyPost_ret (v := .tuple #[.agg #[.bool false, .slice none 0 0, .int .i64 0], .bool false]) (by simp [results, Tryz.results90, go_sem, cz0, cz1, cz2]) rfl ?_
                rw [HV0.out]
                first | exact newDb_zero _ bbd | exact newDb_zero _ (below_set3 bbd (by omega))
              | true =>
                clear kd of
                have cz0 := ko.here.cell 0 _ rfl
                have fz0 := Lib.frozen_of_heap ko.here 0
                have cz1 := ko.here.cell 1 _ rfl
                have fz1 := Lib.frozen_of_heap ko.here 1
                have cz2 := ko.here.cell 2 _ rfl
                have fz2 := Lib.frozen_of_heap ko.here 2
                go_wp2
                refine bodyPost_ret (v := .tuple #[.agg #[.bool false, .slice none 0 0, .int .i64 0], .bool false]) (by simp [results, Tryz.results90, go_sem, cz0, cz1, cz2]) rfl ?_
                rw [HV.out]
                first | exact newDb_zero _ bbd | exact newDb_zero _ (below_set3 bbd (by omega))
end Go.Proofs.YtbpfabicampdkaaGreatDoor

namespace Go.Proofs.YtbpfabicampdkaaGreatDoor
open Go.RowKit

theorem known_sizeE {s : ByteArray} (hk : knownC s = true) : s.size ≤ 3 := by
  obtain ⟨r, hr, e, _⟩ := known_row hk
  rw [← e]
  have h : (specT.all fun r => decide (r.1.size ≤ 3)) = true := by decide +kernel
  exact of_decide_eq_true (List.all_eq_true.1 h r hr)
def textE (r : EI) : ByteArray := if okE r = true then r.1 ++ ⟨#[32]⟩ ++ r.2.1 ++ ⟨#[32]⟩ ++ textD r.2.2 else ⟨#[]⟩
theorem textE_yes {r : EI} (h : okE r = true) : textE r = r.1 ++ ⟨#[32]⟩ ++ r.2.1 ++ ⟨#[32]⟩ ++ textD r.2.2 := by unfold textE; rw [if_pos h]
theorem textE_no {r : EI} (h : ¬ okE r = true) : textE r = ⟨#[]⟩ := by unfold textE; rw [if_neg h]
theorem textE_sizes {r : EI} (h : okE r = true) : r.1.size ≤ 3 ∧ r.2.1.size ≤ 3 ∧ (textD r.2.2).size ≤ 102 :=
  ⟨known_sizeE (okE_parts h).1, known_sizeE (okE_parts h).2.1, textD_size _⟩
theorem textE_size (r : EI) : (textE r).size ≤ 110 := by
  by_cases h : okE r = true
  · have h1 := textE_sizes h
    rw [textE_yes h, ByteArray.size_append, ByteArray.size_append, ByteArray.size_append, ByteArray.size_append]
    show r.1.size + 1 + r.2.1.size + 1 + _ ≤ 110
    omega
  · rw [textE_no h]; decide
end Go.Proofs.YtbpfabicampdkaaGreatDoor
