/-
  Chapter 11 of package spec: the rate of one step in plain words.
-/
import Derived.Test.YtbpfabicampdkaaGreatDoorJB9
namespace Go.Proofs.YtbpfabicampdkaaGreatDoor
open Go.RowKit

/-- one -/
def unitQ : QI × Bool := makeQ (ofZ 1) (ofZ 1)
/-- the rate of one step -/
def stepT (l : List EI) (a b : ByteArray) : QI :=
  if 0 ≤ posE l a b then (match l[atE l a b]? with | some r => ratD r.2.2 | none => zeroQ)
  else (divQ unitQ.1 (match l[atE l b a]? with | some r => ratD r.2.2 | none => zeroQ)).1
def rateT (t : TI) (a b : ByteArray) : QI × Bool :=
  if howT t a b = 1 then unitQ else if howT t a b = 2 ∨ howT t a b = 3 then (stepT t.2 a b, true)
  else if howT t a b = 4 then mulQ (stepT t.2 a t.1) (stepT t.2 t.1 b) else (zeroQ, false)
theorem stepT_sz (l : List EI) (a b : ByteArray) : szQ (stepT l a b) ≤ 1048576 := by
  unfold stepT
  split
  · split
    · exact ratD_sz _
    · decide
  · exact (by unfold divQ; split; exact lowQ_sz _ _ _; decide : szQ (divQ unitQ.1 _).1 ≤ 1048576)
theorem howT_leg (t : TI) (a b : ByteArray) (h : howT t a b = 2 ∨ howT t a b = 3) : ¬ legT t.2 a b = 0 := by
  unfold howT at h
  split at h
  · split at h
    · omega
    · split at h
      · rename_i hl
        exact hl
      · split at h <;> omega
  · omega
theorem howT_piv (t : TI) (a b : ByteArray) (h : howT t a b = 4) : ¬ legT t.2 a t.1 = 0 ∧ ¬ legT t.2 t.1 b = 0 := by
  unfold howT at h
  split at h
  · split at h
    · omega
    · split at h
      · rename_i hl
        unfold legT at h
        split at h
        · omega
        · split at h <;> omega
      · split at h
        · rename_i hp
          exact ⟨hp.2.2.1, hp.2.2.2⟩
        · omega
  · omega
theorem one_szR : szS (ofZ 1) ≤ 1048576 := by unfold szS szI; have := ofZ_len 1; omega
end Go.Proofs.YtbpfabicampdkaaGreatDoor
