/-
  Plain facts of chapter 7: the modes and their names.
-/
import Derived.Test.YtipbdpdmefcofaaDoorCore
namespace Go.Proofs.YtipbdpdmefcofaaDoor
open Go.RowKit

def modeB (m : Int) : Bool := decide (0 ≤ m ∧ m ≤ 6)
/-- the name of a mode -/
def nameB (m : Int) : ByteArray :=
  if m = 0 then ⟨#[100, 111, 119, 110]⟩ else if m = 1 then ⟨#[117, 112]⟩ else if m = 2 then ⟨#[102, 108, 111, 111, 114]⟩ else if m = 3 then ⟨#[99, 101, 105, 108]⟩
  else if m = 4 then ⟨#[104, 97, 108, 102, 100, 111, 119, 110]⟩ else if m = 5 then ⟨#[104, 97, 108, 102, 117, 112]⟩ else if m = 6 then ⟨#[104, 97, 108, 102, 101, 118, 101, 110]⟩ else ⟨#[]⟩
/-- the mode of a name, looked for in n modes from m on -/
def modeFrom : Nat → Int → ByteArray → Int × Bool
  | 0, _, _ => (0, false)
  | n + 1, m, s => if nameB m = s then (m, true) else modeFrom n (m + 1) s
def modeOf (s : ByteArray) : Int × Bool := modeFrom 7 0 s
theorem modeB_cases {m : Int} (h : modeB m = true) : m = 0 ∨ m = 1 ∨ m = 2 ∨ m = 3 ∨ m = 4 ∨ m = 5 ∨ m = 6 := by
  have := of_decide_eq_true h
  omega
theorem modeB_false {m : Int} (h : ¬ modeB m = true) : nameB m = ⟨#[]⟩ ∧ ¬ (0 ≤ m ∧ m ≤ 6) := by
  have h' : ¬ (0 ≤ m ∧ m ≤ 6) := fun e => h (decide_eq_true e)
  refine ⟨?_, h'⟩
  unfold nameB
  rw [if_neg (by omega), if_neg (by omega), if_neg (by omega), if_neg (by omega), if_neg (by omega), if_neg (by omega), if_neg (by omega)]
theorem modeFrom_end (s : ByteArray) (m : Int) : modeFrom 0 m s = (0, false) := rfl
theorem modeFrom_hit {n : Nat} {m : Int} {s : ByteArray} (h : nameB m = s) : modeFrom (n + 1) m s = (m, true) := if_pos h
theorem modeFrom_miss {n : Nat} {m : Int} {s : ByteArray} (h : ¬ nameB m = s) : modeFrom (n + 1) m s = modeFrom n (m + 1) s := if_neg h
end Go.Proofs.YtipbdpdmefcofaaDoor
