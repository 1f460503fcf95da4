/-
  CvName: what both packages answer, and the law.
-/
import Derived.Test.YtehkknphcflofaaLaw
import Derived.Test.YtehkknphcflofaaCore
namespace Go.Proofs.Ytehkknphcflofaa
open Go.ChangeShapes Go.WideShapes Go.ChangeAt Go.RowKit

/-- the code's name -/
def cvName (n : Int) : ByteArray := if n = 0 then ⟨#[111, 107]⟩ else if n = 1 then ⟨#[109, 111, 110, 101, 121]⟩ else if n = 2 then ⟨#[114, 97, 116, 101]⟩ else if n = 3 then ⟨#[108, 97, 114, 103, 101]⟩ else ⟨#[]⟩
def codeB (n : Int) : Bool := decide (0 ≤ n) && decide (n ≤ 3)
theorem codeB_cases {n : Int} (h : codeB n = true) : n = 0 ∨ n = 1 ∨ n = 2 ∨ n = 3 := by
  unfold codeB at h
  rw [Bool.and_eq_true, decide_eq_true_eq, decide_eq_true_eq] at h
  omega
theorem codeB_not {n : Int} (h : ¬ codeB n = true) : cvName n = ⟨#[]⟩ ∧ ¬ n = 0 ∧ ¬ n = 1 ∧ ¬ n = 2 ∧ ¬ n = 3 := by
  have hn : ¬ (0 ≤ n ∧ n ≤ 3) := fun hh => h (by unfold codeB; rw [decide_eq_true hh.1, decide_eq_true hh.2]; rfl)
  have h0 : ¬ n = 0 := by omega
  have h1 : ¬ n = 1 := by omega
  have h2 : ¬ n = 2 := by omega
  have h3 : ¬ n = 3 := by omega
  unfold cvName
  rw [if_neg h0, if_neg h1, if_neg h2, if_neg h3]
  exact ⟨rfl, h0, h1, h2, h3⟩
theorem codeB_in (m : Int) : codeB m = (decide (0 ≤ m) && decide (m ≤ 3)) := rfl
theorem specInC_any (n : Int) (w : World) : Calls Try.prog 6 #[.int .i64 n, .int .i64 0, .int .i64 3] w fun e w' => e = .returned (.bool (codeB n)) ∧ w = w' := by
  go_enter Try.func6, Try.ntmps6
  go_wp2
  all_goals go_ret
  · exact ⟨by simp [codeB, *], rfl⟩
  · exact ⟨by simp [codeB]; omega, rfl⟩
def PostC (s : ByteArray) (w : World) (e : Ending) (w' : World) : Prop := e = .returned (.string s) ∧ Below w.heap.size w w'
set_option maxHeartbeats 1000000 in
set_option maxRecDepth 100000 in
theorem specCvName_any (m : Int) (w : World) : Calls Try.prog 4 #[.int .i64 m] w (PostC (cvName m) w) := by
  by_cases h : codeB m = true
  · rcases codeB_cases h with rfl | rfl | rfl | rfl
    all_goals
      go_enter Try.func4, Try.ntmps4
      go_wp2_with fail
      refine (specInC_any _ _).mono ?_
      rintro e w1 ⟨rfl, rfl⟩
      simp only [show codeB 0 = true from rfl, show codeB 1 = true from rfl, show codeB 2 = true from rfl, show codeB 3 = true from rfl]
      go_wp2
      go_ret
      exact ⟨rfl, (Below.refl _ _).alloc (Nat.le_refl _) _⟩
  · have hf : codeB m = false := by simpa using h
    have HV := Lib.hid (codeB_not h).1
    clear h
    go_enter Try.func4, Try.ntmps4
    go_wp2_with fail
    refine (specInC_any m _).mono ?_
    rintro e w1 ⟨rfl, rfl⟩
    rw [hf]
    clear hf
    go_wp2
    go_ret
    exact ⟨by rw [HV.out]; rfl, Below.refl _ _⟩
set_option maxHeartbeats 1000000 in
set_option maxRecDepth 100000 in
theorem implCvName_any (m : Int) (w : World) : Calls Try.prog 5 #[.int .i64 m] w (PostC (cvName m) w) := by
  by_cases h : codeB m = true
  · rcases codeB_cases h with rfl | rfl | rfl | rfl
    all_goals
      go_enter Try.func5, Try.ntmps5
      go_wp2
      go_ret
      exact ⟨rfl, Below.refl _ _⟩
  · obtain ⟨hv, h0, h1, h2, h3⟩ := codeB_not h
    have HV := Lib.hid hv
    have e0 : (m == (0 : Int)) = false := by simpa using h0
    have e1 : (m == (1 : Int)) = false := by simpa using h1
    have e2 : (m == (2 : Int)) = false := by simpa using h2
    have e3 : (m == (3 : Int)) = false := by simpa using h3
    clear h hv h0 h1 h2 h3
    go_enter Try.func5, Try.ntmps5
    go_wp2
    go_ret
    exact ⟨by rw [HV.out]; rfl, Below.refl _ _⟩
end Go.Proofs.Ytehkknphcflofaa
