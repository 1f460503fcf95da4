/-
  Rates in plain words, as package impl finds them: with how they are found; that it comes to the same.
-/
import Derived.Test.YtbpfabicampdkaaGreatDoorRateStep
import Derived.Test.YtbpfabicampdkaaGreatDoorJB4
namespace Go.Proofs.YtbpfabicampdkaaGreatDoor
open Go.RowKit

theorem limbs_one : limbs 1 = [1] := by
  rw [limbs, dif_neg (by decide), show 1 / 1000000000 = 0 from rfl, limbs, dif_pos rfl]
  rfl
theorem ofZ_one : ofZ 1 = (false, [1]) := by
  unfold ofZ
  rw [show (1 : Int).natAbs = 1 from rfl, limbs_one]
  rfl
theorem unit_low : unitQ = lowQ false 1 1 := by
  unfold unitQ makeQ
  rw [ofZ_one, if_pos ⟨by decide, by decide⟩]
  rfl
theorem unit_bd : unitQ.2 = true ∧ Bd unitQ.1 1 := by
  rw [unit_low]
  obtain ⟨h1, h2, _⟩ := low_bd (n := false) (a := 1) (b := 1) (m := 1) (by decide) (by decide) (by decide) (by decide)
  exact ⟨h1, h2⟩
theorem okT_mem {t : TI} (h : okT t = true) {x : EI} (hx : x ∈ t.2) : okE x = true := by
  rw [okT_pairs, Bool.and_eq_true, Bool.and_eq_true, Bool.and_eq_true] at h
  exact List.all_eq_true.1 h.2.2.1 x hx
theorem num_posE {x : EI} (h : okE x = true) : 0 < numD x.2.2 := by
  obtain ⟨_, _, _, h4, h5, _⟩ := okE_parts h
  unfold cmpS at h5
  split at h5
  · unfold cmpI at h5
    have e : valS zeroS = 0 := rfl
    rw [e] at h5
    unfold numD
    split at h5
    · omega
    · split at h5
      · assumption
      · omega
  · omega
theorem leg_bd {x : EI} (h : okE x = true) : Bd (ratD x.2.2) 6 ∧ numQ (ratD x.2.2) ≠ 0 := by
  obtain ⟨_, _, _, h4, _, _⟩ := okE_parts h
  have hb := ten_bd h4
  refine ⟨hb.2.1, fun h0 => ?_⟩
  have hp := num_posE h
  have hq := hb.2.2
  have hd := hb.2.1.pos
  have hpt := pt_pos x.2.2.2
  unfold ratV at hq
  rw [h0] at hq
  have n1 := rat_ne hd
  have n2 := rat_ne hpt
  have n3 : (numD x.2.2 : Rat) ≠ 0 := rat_ne hp
  apply n3
  have e : (((0 : Int)) : Rat) = 0 := rfl
  rw [e] at hq
  grind
theorem step_bd {t : TI} {a b : ByteArray} (ht : okT t = true) (h : ¬ legT t.2 a b = 0) : Bd (stepT t.2 a b) 7 := by
  by_cases h0 : 0 ≤ posE t.2 a b
  · obtain ⟨n, x, e1, e2, e3⟩ := posE_at h0
    have e : stepT t.2 a b = ratD x.2.2 := by unfold stepT; rw [if_pos h0, e3, e2]
    rw [e]
    exact (leg_bd (okT_mem ht (List.mem_of_getElem? e2))).1.mono (by decide)
  · have h1 : 0 ≤ posE t.2 b a := by
      unfold legT at h
      rw [if_neg h0] at h
      split at h
      · assumption
      · exact absurd rfl h
    obtain ⟨n, x, e1, e2, e3⟩ := posE_at h1
    have e : stepT t.2 a b = (divQ unitQ.1 (ratD x.2.2)).1 := by unfold stepT; rw [if_neg h0, e3, e2]
    have hl := leg_bd (okT_mem ht (List.mem_of_getElem? e2))
    rw [e]
    exact (div_bd unit_bd.2 hl.1 (by decide) hl.2).2.1
theorem leg_self {t : TI} (ht : okT t = true) (a : ByteArray) : legT t.2 a a = 0 := by
  have hn : ¬ 0 ≤ posE t.2 a a := fun h0 => by
    obtain ⟨n, x, e1, e2, e3⟩ := posE_at h0
    obtain ⟨y, hy, hp⟩ := atE_has (l := t.2) (a := a) (b := a) (by rw [e3]; exact (List.getElem?_eq_some_iff.1 e2).1)
    have := (okE_parts (okT_mem ht (List.mem_of_getElem? hy))).2.2.1
    exact this (hp.1.trans hp.2.symm)
  unfold legT
  rw [if_neg hn, if_neg hn]
/-- what is stored of a pair, without the pivot -/
def storeT (l : List EI) (a b : ByteArray) : QI × Int := if legT l a b = 0 then (zeroQ, 0) else (stepT l a b, legT l a b)
def pivT (t : TI) (a b : ByteArray) : QI × Int :=
  if legT t.2 a t.1 = 0 ∨ legT t.2 t.1 b = 0 then (zeroQ, 0) else ((mulQ (stepT t.2 a t.1) (stepT t.2 t.1 b)).1, 4)
def findT (t : TI) (a b : ByteArray) : QI × Int :=
  if okT t = true ∧ knownC a = true ∧ knownC b = true then (if a = b then (unitQ.1, 1) else if legT t.2 a b = 0 then pivT t a b else (stepT t.2 a b, legT t.2 a b)) else (zeroQ, 0)
theorem legT_cases (l : List EI) (a b : ByteArray) : legT l a b = 0 ∨ legT l a b = 2 ∨ legT l a b = 3 := by
  unfold legT
  split
  · exact .inr (.inl rfl)
  · split
    · exact .inr (.inr rfl)
    · exact .inl rfl
theorem find_how (t : TI) (a b : ByteArray) : (findT t a b).2 = howT t a b := by
  unfold findT howT
  by_cases h : okT t = true ∧ knownC a = true ∧ knownC b = true
  · rw [if_pos h, if_pos h]
    by_cases hab : a = b
    · rw [if_pos hab, if_pos hab]
    · rw [if_neg hab, if_neg hab]
      by_cases hl : legT t.2 a b = 0
      · rw [if_pos hl, if_neg (fun h => h hl)]
        unfold pivT
        by_cases hp : legT t.2 a t.1 = 0 ∨ legT t.2 t.1 b = 0
        · rw [if_pos hp, if_neg (fun hh => by
            rcases hp with hp | hp
            · exact hh.2.2.1 hp
            · exact hh.2.2.2 hp)]
        · rw [if_neg hp, if_pos ⟨fun e => hp (.inl (by rw [e]; exact leg_self h.1 _)), fun e => hp (.inr (by rw [e]; exact leg_self h.1 _)), fun e => hp (.inl e), fun e => hp (.inr e)⟩]
      · rw [if_neg hl, if_pos hl]
  · rw [if_neg h, if_neg h]
theorem find_rate (t : TI) (a b : ByteArray) : rateT t a b = ((findT t a b).1, (findT t a b).2 != 0) := by
  have hh := find_how t a b
  unfold rateT
  rw [← hh]
  unfold findT
  by_cases h : okT t = true ∧ knownC a = true ∧ knownC b = true
  · rw [if_pos h]
    by_cases hab : a = b
    · rw [if_pos hab, if_pos rfl]
      exact pair_eq unit_bd.1
    · rw [if_neg hab]
      by_cases hl : legT t.2 a b = 0
      · rw [if_pos hl]
        unfold pivT
        by_cases hp : legT t.2 a t.1 = 0 ∨ legT t.2 t.1 b = 0
        · rw [if_pos hp]
          rfl
        · rw [if_neg hp]
          exact pair_eq (mul_bd (step_bd h.1 (fun e => hp (.inl e))) (step_bd h.1 (fun e => hp (.inr e))) (by decide)).1
      · rw [if_neg hl]
        rcases legT_cases t.2 a b with h0 | h2 | h2
        · exact absurd h0 hl
        · rw [h2]; rfl
        · rw [h2]; rfl
  · rw [if_neg h]
    rfl
theorem findT_sz (t : TI) (a b : ByteArray) : szQ (findT t a b).1 ≤ 1048576 := by
  unfold findT
  split
  · split
    · rw [unit_low]; exact lowQ_sz _ _ _
    · split
      · unfold pivT
        split
        · exact zeroQ_sz
        · exact (by unfold mulQ; split; exact lowQ_sz _ _ _; exact zeroQ_sz : szQ (mulQ _ _).1 ≤ 1048576)
      · exact stepT_sz _ _ _
  · exact zeroQ_sz
end Go.Proofs.YtbpfabicampdkaaGreatDoor
