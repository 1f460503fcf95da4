/-
  Amounts of money in plain words: what each function of chapter 10 answers.
-/
import Derived.Test.YtgejjiiaimddaaaDoorCurPlain
import Derived.Test.YtgejjiiaimddaaaDoorSigned
namespace Go.Proofs.YtgejjiiaimddaaaDoor
open Go.RowKit

/-! ### look-ups by code -/
def zeroC : CR := (⟨#[]⟩, ⟨#[]⟩, 0, 0)
def rowOf (l : List CR) (s : ByteArray) : CR := match l.find? (fun r => decide (r.1 = s)) with
  | some r => r
  | none => zeroC
theorem rowOf_mem {l : List CR} (hn : (l.map fun r => r.1).Nodup) {r : CR} (h : r ∈ l) : rowOf l r.1 = r := by
  unfold rowOf
  rw [find_of_mem (f := fun r : CR => r.1) hn h]
theorem rowOf_none {l : List CR} {n : ByteArray} (h : ∀ r ∈ l, ¬ r.1 = n) : rowOf l n = zeroC := by
  unfold rowOf
  rw [List.find?_eq_none.2 fun r hr => by simpa using h r hr]
theorem rowOf_eq (n : ByteArray) : rowOf implT n = rowOf specT n := by
  unfold rowOf
  rw [find_perm (f := fun r : CR => r.1) implT_codes specT_codes implT_sub specT_sub n]
def knownC (s : ByteArray) : Bool := (codesT specT).any fun c => decide (c = s)
theorem specT_ne : ∀ r ∈ specT, ¬ r.1 = ⟨#[]⟩ := by
  have h : (specT.all fun r => decide (¬ r.1 = ⟨#[]⟩)) = true := by decide +kernel
  exact fun r hr => of_decide_eq_true (List.all_eq_true.1 h r hr)
theorem known_row {s : ByteArray} (h : knownC s = true) : ∃ r ∈ specT, r.1 = s ∧ rowOf specT s = r := by
  have h1 : s ∈ codesT specT := by
    obtain ⟨c, hc, e⟩ := List.any_eq_true.1 h
    rw [← of_decide_eq_true e]
    exact hc
  obtain ⟨r, hr, rfl⟩ := List.mem_map.1 h1
  exact ⟨r, hr, rfl, rowOf_mem specT_codes hr⟩
theorem not_known {s : ByteArray} (h : knownC s = false) : rowOf specT s = zeroC := by
  refine rowOf_none fun r hr e => ?_
  have h1 : knownC s = true := List.any_eq_true.2 ⟨r.1, List.mem_map_of_mem hr, decide_eq_true e⟩
  rw [h] at h1
  cases h1
/-- a row is found where its code is not empty -/
theorem known_ne (s : ByteArray) : decide (¬ (rowOf specT s).1 = ⟨#[]⟩) = knownC s := by
  cases h : knownC s with
  | true =>
    obtain ⟨r, hr, _, e⟩ := known_row h
    rw [e]
    exact decide_eq_true (specT_ne r hr)
  | false => rw [not_known h]; rfl
def placesC (s : ByteArray) : Int := (rowOf specT s).2.2.1
theorem placesC_range (s : ByteArray) : 0 ≤ placesC s ∧ placesC s ≤ 4 := by
  unfold placesC
  cases h : knownC s with
  | true =>
    obtain ⟨r, hr, _, e⟩ := known_row h
    rw [e]
    have h : (specT.all fun r => decide (0 ≤ r.2.2.1 ∧ r.2.2.1 ≤ 4)) = true := by decide +kernel
    exact of_decide_eq_true (List.all_eq_true.1 h r hr)
  | false => rw [not_known h]; decide

/-! ### amounts -/
abbrev MI : Type := ByteArray × SI
def zeroM : MI := (⟨#[]⟩, zeroS)
def szM (m : MI) : Int := m.1.size + szS m.2
/-- how many cells a mark of it takes -/
def mkM (m : MI) : Int := szS m.2
def okM (m : MI) : Bool := knownC m.1 && okS m.2 && decide (m.2.2.length ≤ 4)
def makeM (c : ByteArray) (x : SI) : MI × Bool := if okM (c, x) = true then ((c, x), true) else (zeroM, false)
def bothM (m n : MI) : Bool := okM m && okM n && decide (m.1 = n.1)
def addM (m n : MI) : MI × Bool := if bothM m n = true then makeM m.1 (addS m.2 n.2) else (zeroM, false)
def subM (m n : MI) : MI × Bool := if bothM m n = true then makeM m.1 (subS m.2 n.2) else (zeroM, false)
def negM (m : MI) : MI × Bool := if okM m = true then makeM m.1 (negS m.2) else (zeroM, false)
def timesM (m : MI) (k : Int) : MI × Bool := if okM m = true then makeM m.1 (mulS m.2 (ofZ k)) else (zeroM, false)
def cmpM (m n : MI) : Int × Bool := if bothM m n = true then (cmpS m.2 n.2, true) else (0, false)
def sameM (m n : MI) : Bool := decide (m.1 = n.1) && decide (m.2 = n.2)
end Go.Proofs.YtgejjiiaimddaaaDoor
