/-
  FnRoundPlain, FnRoundPlain2, FnModesPlain, RoundPost, Modes, RoundWords, RestPlain, RatMoneyPlain, CurSpec, CurFindS, MoneySpec, RatSpec2, RatSpec4, MoneyRatS, DecSpec, CurUnitS, ConvPlain, ConvWords, RateSpec, RateAtS, NatImpl
-/
import Derived.Laws.EntriesVeiled
import Derived.Deep.MidRow
import Derived.Deep.RegionHeld3
import Derived.Deep.DeepCutAuto
import Derived.Laws.OwnMore
import Derived.Test.YtehkknphcflofaaGreatDoorJU3
namespace Go.Proofs.YtehkknphcflofaaGreatDoor
open Go.RowKit

/-- what rounding makes of the size: the whole part, or one more where something is left over -/
theorem roundN_cases (neg : Bool) (A D : Nat) (m : Int) : (roundN neg A D m = A / D ∧ (A % D = 0 ∨ awayB neg (A / D) (A % D) D m = false)) ∨ (roundN neg A D m = A / D + 1 ∧ A % D ≠ 0 ∧ awayB neg (A / D) (A % D) D m = true) := by
  unfold roundN
  by_cases h : A % D ≠ 0 ∧ awayB neg (A / D) (A % D) D m = true
  · rw [if_pos h]; exact .inr ⟨rfl, h.1, h.2⟩
  · rw [if_neg h]
    refine .inl ⟨by omega, ?_⟩
    by_cases h0 : A % D = 0
    · exact .inl h0
    · refine .inr ?_
      rcases Bool.eq_false_or_eq_true (awayB neg (A / D) (A % D) D m) with e | e
      · exact absurd ⟨h0, e⟩ h
      · exact e
theorem near_away {neg : Bool} {Q R D : Nat} {m : Int} (h4 : 4 ≤ m) (h6 : m ≤ 6) : (awayB neg Q R D m = true → D ≤ 2 * R) ∧ (awayB neg Q R D m = false → 2 * R ≤ D) := by
  rcases (show m = 4 ∨ m = 5 ∨ m = 6 by omega) with rfl | rfl | rfl
  · show (decide (D < 2 * R) = true → _) ∧ (decide (D < 2 * R) = false → _)
    rw [decide_eq_true_eq, decide_eq_false_iff_not]; omega
  · show (decide (D ≤ 2 * R) = true → _) ∧ (decide (D ≤ 2 * R) = false → _)
    rw [decide_eq_true_eq, decide_eq_false_iff_not]; omega
  · show ((decide (D < 2 * R) || (decide (2 * R = D) && decide (Q % 2 = 1))) = true → _) ∧ ((decide (D < 2 * R) || (decide (2 * R = D) && decide (Q % 2 = 1))) = false → _)
    rw [Bool.or_eq_true, Bool.or_eq_false_iff, Bool.and_eq_true, decide_eq_true_eq, decide_eq_true_eq, decide_eq_false_iff_not]
    omega
/-- the rounded size times the denominator is off by less than one, by at most a half in the nearest modes, and not at all where nothing is left over -/
theorem round_off (neg : Bool) (A D : Nat) (m : Int) (hD : 0 < D) : ∃ e : Int, (roundN neg A D m : Int) * D = A + e ∧ -(D : Int) < e ∧ e < D ∧ (4 ≤ m → m ≤ 6 → 2 * e ≤ D ∧ -(D : Int) ≤ 2 * e) ∧ (e = 0 ↔ A % D = 0) := by
  have h1 := Nat.div_add_mod A D
  have h2 := Nat.mod_lt A hD
  rcases roundN_cases neg A D m with ⟨hk, hc⟩ | ⟨hk, h0, hc⟩
  · refine ⟨-((A % D : Nat) : Int), ?_, by omega, by omega, fun h4 h6 => ?_, by omega⟩
    · rw [hk, Int.mul_comm, ← Int.natCast_mul]; omega
    · rcases hc with hc | hc
      · omega
      · have := (near_away h4 h6).2 hc; omega
  · refine ⟨(D : Int) - ((A % D : Nat) : Int), ?_, by omega, by omega, fun h4 h6 => ?_, by omega⟩
    · rw [hk, Int.natCast_add, Int.add_mul, Int.mul_comm, ← Int.natCast_mul]; omega
    · have := (near_away h4 h6).1 hc; omega
theorem roundS_val {r : QI} (h : Parts r) (m : Int) : valS (roundS r m) = if r.1.1 = true then -(roundN r.1.1 (topN r) (denQ r) m : Int) else roundN r.1.1 (topN r) (denQ r) m := by
  unfold roundS
  rw [mkS_limbs, ofZ_val]
  have := round_len h m
  rw [show (if r.1.1 = true then -(roundN r.1.1 (topN r) (denQ r) m : Int) else roundN r.1.1 (topN r) (denQ r) m).natAbs = roundN r.1.1 (topN r) (denQ r) m by split <;> omega]
  omega
/-- the value of a rounded fraction, against the fraction -/
theorem round_val {r : QI} (h : okQ r = true) (m : Int) : ∃ e : Int, valS (roundS r m) * denQ r = numQ r + e ∧ -(denQ r : Int) < e ∧ e < denQ r ∧ (4 ≤ m → m ≤ 6 → 2 * e ≤ denQ r ∧ -(denQ r : Int) ≤ 2 * e) ∧ (e = 0 ↔ topN r % denQ r = 0) := by
  have hp := parts_of h
  obtain ⟨e, h1, h2, h3, h4, h5⟩ := round_off r.1.1 (topN r) (denQ r) m hp.pos
  rw [roundS_val hp, hp.top]
  generalize roundN r.1.1 (topN r) (denQ r) m = k at *
  cases r.1.1 with
  | true => exact ⟨-e, by rw [if_pos rfl, if_pos rfl, Int.neg_mul, h1]; omega, by omega, by omega, fun a b => by have := h4 a b; omega, by omega⟩
  | false => exact ⟨e, by rw [if_neg (by decide), if_neg (by decide), h1], by omega, by omega, h4, h5⟩
end Go.Proofs.YtehkknphcflofaaGreatDoor

namespace Go.Proofs.YtehkknphcflofaaGreatDoor
open Go.RowKit

theorem ofZ_nat {n : Nat} (h : (n : Int) < bp 50) : ofZ (n : Int) = (false, limbs n) := by
  unfold ofZ
  rw [show ((n : Int)).natAbs = n by omega, if_pos (limbs_length_le _ 50 h), decide_eq_false (by omega)]
theorem bp50 : (1000000000 : Int) ≤ bp 50 := by have : bp 1 ≤ bp 50 := bp_mono (by omega); have e : bp 1 = 1000000000 := rfl; omega
/-- an integer as a fraction -/
theorem int_bd {x : SI} {m : Nat} (ok : okS x = true) (hm : m ≤ 18) (h0 : 0 < m) (h : ((valS x).natAbs : Int) < bp m) : (makeQ x (ofZ 1)).2 = true ∧ Bd (makeQ x (ofZ 1)).1 m ∧ ratV (makeQ x (ofZ 1)).1 = ((valS x : Int) : Rat) := by
  have hp := okS_parts ok
  have ha := valS_abs x hp.1
  have eo : ofZ 1 = (false, limbs 1) := ofZ_nat (n := 1) (by have := bp50; omega)
  have e1 : (ofZ 1).1 = false := by rw [eo]
  have e2 : (nval (ofZ 1).2).toNat = 1 := by rw [eo]; show (nval (limbs 1)).toNat = 1; rw [limbs_val]; rfl
  have e : makeQ x (ofZ 1) = lowQ x.1 (nval x.2).toNat 1 := by
    unfold makeQ
    rw [if_pos ⟨ok, ofZ_ok 1⟩, e1, e2]
    cases x.1 <;> rfl
  have hb1 : ((1 : Nat) : Int) < bp m := by
    have h1 : bp 1 ≤ bp m := bp_mono h0
    have : bp 1 = 1000000000 := rfl
    omega
  obtain ⟨h1, h2, h3⟩ := low_bd (n := x.1) (a := (nval x.2).toNat) (b := 1) (by omega) hm (by omega) hb1
  rw [e]
  refine ⟨h1, h2, h3.trans ?_⟩
  have hv : (if x.1 = true then -((nval x.2).toNat : Int) else ((nval x.2).toNat : Int)) = valS x := by
    have hn := nval_ok hp.1
    unfold valS
    rw [Int.toNat_of_nonneg hn]
  rw [hv]
  simp
  grind
end Go.Proofs.YtehkknphcflofaaGreatDoor

namespace Go.Proofs.YtehkknphcflofaaGreatDoor
open Go.RowKit

theorem negQ_is {r : QI} (h : okQ r = true) : negQ r = ((negS r.1, r.2), true) := by unfold negQ; rw [if_pos h]
/-! ### RoundTo -/
end Go.Proofs.YtehkknphcflofaaGreatDoor

namespace Go.Proofs.YtehkknphcflofaaGreatDoor
open Go.RowKit

/-- what a call answers: a new signed number and a bool; a new signed number, a new fraction and a bool -/
def PostSb (R0 : SI) (R1 : Bool) (w : World) (e : Ending) (w' : World) : Prop :=
  ∃ (v : Value) (S : List Nat), e = .returned (.tuple #[v, .bool R1]) ∧ At S (OwnS v R0) w' ∧ Within S w.heap.size w'.heap.size ∧ Below w.heap.size w w'
def PostSQb (R0 : SI) (R1 : QI) (R2 : Bool) (w : World) (e : Ending) (w' : World) : Prop :=
  ∃ (v u : Value) (S T : List Nat), e = .returned (.tuple #[v, u, .bool R2]) ∧ At S (OwnS v R0) w' ∧ At T (OwnQ u R1) w' ∧ (∀ g ∈ S, g ∉ T) ∧ Within S w.heap.size w'.heap.size ∧ Within T w.heap.size w'.heap.size ∧ Below w.heap.size w w'
end Go.Proofs.YtehkknphcflofaaGreatDoor

namespace Go.Proofs.YtehkknphcflofaaGreatDoor
open Go.RowKit

theorem modeB_in (m : Int) : inB m 0 6 = modeB m := rfl
set_option maxHeartbeats 400000 in
set_option maxRecDepth 100000 in
theorem l06Mode_any (m : Int) (w : World) : Calls Tryz.prog 200 #[.int .i64 m] w (Postb (modeB m) w) := by
  go_enter Tryz.func200, Tryz.ntmps200
  go_wp2_with fail
  refine (specIn_any m 0 6 (modeB m) _ (modeB_in m)).mono ?_
  rintro e w1 ⟨rfl, rfl⟩
  go_wp2
  go_ret
  exact ⟨rfl, Below.refl _ _⟩
/-- impl's table of the modes -/
def modeCells : Array Value := #[.string ⟨#[100, 111, 119, 110]⟩, .func (.func 302) #[] #[], .string ⟨#[117, 112]⟩, .func (.func 303) #[] #[], .string ⟨#[102, 108, 111, 111, 114]⟩, .func (.func 304) #[] #[], .string ⟨#[99, 101, 105, 108]⟩, .func (.func 305) #[] #[], .string ⟨#[104, 97, 108, 102, 100, 111, 119, 110]⟩, .func (.func 306) #[] #[], .string ⟨#[104, 97, 108, 102, 117, 112]⟩, .func (.func 308) #[] #[], .string ⟨#[104, 97, 108, 102, 101, 118, 101, 110]⟩, .func (.func 309) #[] #[]]
set_option maxHeartbeats 1000000 in
set_option maxRecDepth 100000 in
theorem roundings_any (w : World) : Calls Tryz.prog 285 #[] w fun e w' => ∃ b : Nat, e = .returned (.slice (some ⟨b, 0, none⟩) 7 7) ∧ At [b] (BoxAt b modeCells 271) w' ∧ w.heap.size ≤ b ∧ Below w.heap.size w w' := by
  go_enter Tryz.func285, Tryz.ntmps285
  go_wp2
  go_ret
  exact ⟨_, rfl, box_new _ _ _, Nat.le_refl _, below_al (Below.refl _ _) _⟩
theorem below_set2M {W0 W : World} {g : Nat} {a b : Value} (h : Below W0.heap.size W0 W) (hg : W0.heap.size ≤ g) : Below W0.heap.size W0 ((W.setCell ⟨g, 0, none⟩ a).setCell ⟨g, 1, none⟩ b) := (h.setCell (p := ⟨g, 0, none⟩) hg _).setCell (p := ⟨g, 1, none⟩) hg _
/-- the function that impl's table holds for a mode -/
def fnOf (m : Int) : FuncId := if m = 0 then 302 else if m = 1 then 303 else if m = 2 then 304 else if m = 3 then 305 else if m = 4 then 306 else if m = 5 then 308 else 309
def PostRM (s : ByteArray) (f : Value) (b : Bool) (w : World) (e : Ending) (w' : World) : Prop := e = .returned (.tuple #[.agg #[.string s, f], .bool b]) ∧ Below w.heap.size w w'
set_option maxHeartbeats 4000000 in
set_option maxRecDepth 100000 in
theorem roundingOf_mode (m : Int) (hm : modeB m = true) (w : World) : Calls Tryz.prog 240 #[.int .i64 m] w (PostRM (nameB m) (.func (.func (fnOf m)) #[] #[]) true w) := by
  have bb0 : Below w.heap.size w (w.alloc (.cells #[.string ⟨#[]⟩, .nilFunc] 271)) := below_al (Below.refl _ _) _
  have ko := box_new w #[.string ⟨#[]⟩, .nilFunc] 271
  rcases modeB_cases hm with rfl | rfl | rfl | rfl | rfl | rfl | rfl
  · clear hm
    go_enter Tryz.func240, Tryz.ntmps240
    go_wp2_with fail
    refine (roundings_any _).mono ?_
    rintro e w1 ⟨b, rfl, kb, hb, b1⟩
    have bb1 := Below.next bb0 b1
    replace ko := ko.below b1
    have cb0 : w1.cell? ⟨b, 0, none⟩ = some (.string ⟨#[100, 111, 119, 110]⟩) := kb.here.cell 0 _ rfl
    have cb1 : w1.cell? ⟨b, 1, none⟩ = some (.func (.func 302) #[] #[]) := kb.here.cell 1 _ rfl
    have cz0 := ko.here.cell 0 _ rfl
    have cz1 := ko.here.cell 1 _ rfl
    have fz0 := Lib.frozen_of_heap ko.here 0
    have fz1 := Lib.frozen_of_heap ko.here 1
    go_wp2
    refine bodyPost_ret (v := .tuple #[.agg #[.string ⟨#[100, 111, 119, 110]⟩, .func (.func 302) #[] #[]], .bool true]) (by simp [results, Tryz.results240, go_sem, cz0, cz1]) rfl ?_
    exact ⟨rfl, below_set2M bb1 (Nat.le_refl _)⟩
  · clear hm
    go_enter Tryz.func240, Tryz.ntmps240
    go_wp2_with fail
    refine (roundings_any _).mono ?_
    rintro e w1 ⟨b, rfl, kb, hb, b1⟩
    have bb1 := Below.next bb0 b1
    replace ko := ko.below b1
    have cb0 : w1.cell? ⟨b, 2, none⟩ = some (.string ⟨#[117, 112]⟩) := kb.here.cell 2 _ rfl
    have cb1 : w1.cell? ⟨b, 3, none⟩ = some (.func (.func 303) #[] #[]) := kb.here.cell 3 _ rfl
    have cz0 := ko.here.cell 0 _ rfl
    have cz1 := ko.here.cell 1 _ rfl
    have fz0 := Lib.frozen_of_heap ko.here 0
    have fz1 := Lib.frozen_of_heap ko.here 1
    go_wp2
    refine bodyPost_ret (v := .tuple #[.agg #[.string ⟨#[117, 112]⟩, .func (.func 303) #[] #[]], .bool true]) (by simp [results, Tryz.results240, go_sem, cz0, cz1]) rfl ?_
    exact ⟨rfl, below_set2M bb1 (Nat.le_refl _)⟩
  · clear hm
    go_enter Tryz.func240, Tryz.ntmps240
    go_wp2_with fail
    refine (roundings_any _).mono ?_
    rintro e w1 ⟨b, rfl, kb, hb, b1⟩
    have bb1 := Below.next bb0 b1
    replace ko := ko.below b1
    have cb0 : w1.cell? ⟨b, 4, none⟩ = some (.string ⟨#[102, 108, 111, 111, 114]⟩) := kb.here.cell 4 _ rfl
    have cb1 : w1.cell? ⟨b, 5, none⟩ = some (.func (.func 304) #[] #[]) := kb.here.cell 5 _ rfl
    have cz0 := ko.here.cell 0 _ rfl
    have cz1 := ko.here.cell 1 _ rfl
    have fz0 := Lib.frozen_of_heap ko.here 0
    have fz1 := Lib.frozen_of_heap ko.here 1
    go_wp2
    refine bodyPost_ret (v := .tuple #[.agg #[.string ⟨#[102, 108, 111, 111, 114]⟩, .func (.func 304) #[] #[]], .bool true]) (by simp [results, Tryz.results240, go_sem, cz0, cz1]) rfl ?_
    exact ⟨rfl, below_set2M bb1 (Nat.le_refl _)⟩
  · clear hm
    go_enter Tryz.func240, Tryz.ntmps240
    go_wp2_with fail
    refine (roundings_any _).mono ?_
    rintro e w1 ⟨b, rfl, kb, hb, b1⟩
    have bb1 := Below.next bb0 b1
    replace ko := ko.below b1
    have cb0 : w1.cell? ⟨b, 6, none⟩ = some (.string ⟨#[99, 101, 105, 108]⟩) := kb.here.cell 6 _ rfl
    have cb1 : w1.cell? ⟨b, 7, none⟩ = some (.func (.func 305) #[] #[]) := kb.here.cell 7 _ rfl
    have cz0 := ko.here.cell 0 _ rfl
    have cz1 := ko.here.cell 1 _ rfl
    have fz0 := Lib.frozen_of_heap ko.here 0
    have fz1 := Lib.frozen_of_heap ko.here 1
    go_wp2
    refine bodyPost_ret (v := .tuple #[.agg #[.string ⟨#[99, 101, 105, 108]⟩, .func (.func 305) #[] #[]], .bool true]) (by simp [results, Tryz.results240, go_sem, cz0, cz1]) rfl ?_
    exact ⟨rfl, below_set2M bb1 (Nat.le_refl _)⟩
  · clear hm
    go_enter Tryz.func240, Tryz.ntmps240
    go_wp2_with fail
    refine (roundings_any _).mono ?_
    rintro e w1 ⟨b, rfl, kb, hb, b1⟩
    have bb1 := Below.next bb0 b1
    replace ko := ko.below b1
    have cb0 : w1.cell? ⟨b, 8, none⟩ = some (.string ⟨#[104, 97, 108, 102, 100, 111, 119, 110]⟩) := kb.here.cell 8 _ rfl
    have cb1 : w1.cell? ⟨b, 9, none⟩ = some (.func (.func 306) #[] #[]) := kb.here.cell 9 _ rfl
    have cz0 := ko.here.cell 0 _ rfl
    have cz1 := ko.here.cell 1 _ rfl
    have fz0 := Lib.frozen_of_heap ko.here 0
    have fz1 := Lib.frozen_of_heap ko.here 1
    go_wp2
    refine bodyPost_ret (v := .tuple #[.agg #[.string ⟨#[104, 97, 108, 102, 100, 111, 119, 110]⟩, .func (.func 306) #[] #[]], .bool true]) (by simp [results, Tryz.results240, go_sem, cz0, cz1]) rfl ?_
    exact ⟨rfl, below_set2M bb1 (Nat.le_refl _)⟩
  · clear hm
    go_enter Tryz.func240, Tryz.ntmps240
    go_wp2_with fail
    refine (roundings_any _).mono ?_
    rintro e w1 ⟨b, rfl, kb, hb, b1⟩
    have bb1 := Below.next bb0 b1
    replace ko := ko.below b1
    have cb0 : w1.cell? ⟨b, 10, none⟩ = some (.string ⟨#[104, 97, 108, 102, 117, 112]⟩) := kb.here.cell 10 _ rfl
    have cb1 : w1.cell? ⟨b, 11, none⟩ = some (.func (.func 308) #[] #[]) := kb.here.cell 11 _ rfl
    have cz0 := ko.here.cell 0 _ rfl
    have cz1 := ko.here.cell 1 _ rfl
    have fz0 := Lib.frozen_of_heap ko.here 0
    have fz1 := Lib.frozen_of_heap ko.here 1
    go_wp2
    refine bodyPost_ret (v := .tuple #[.agg #[.string ⟨#[104, 97, 108, 102, 117, 112]⟩, .func (.func 308) #[] #[]], .bool true]) (by simp [results, Tryz.results240, go_sem, cz0, cz1]) rfl ?_
    exact ⟨rfl, below_set2M bb1 (Nat.le_refl _)⟩
  · clear hm
    go_enter Tryz.func240, Tryz.ntmps240
    go_wp2_with fail
    refine (roundings_any _).mono ?_
    rintro e w1 ⟨b, rfl, kb, hb, b1⟩
    have bb1 := Below.next bb0 b1
    replace ko := ko.below b1
    have cb0 : w1.cell? ⟨b, 12, none⟩ = some (.string ⟨#[104, 97, 108, 102, 101, 118, 101, 110]⟩) := kb.here.cell 12 _ rfl
    have cb1 : w1.cell? ⟨b, 13, none⟩ = some (.func (.func 309) #[] #[]) := kb.here.cell 13 _ rfl
    have cz0 := ko.here.cell 0 _ rfl
    have cz1 := ko.here.cell 1 _ rfl
    have fz0 := Lib.frozen_of_heap ko.here 0
    have fz1 := Lib.frozen_of_heap ko.here 1
    go_wp2
    refine bodyPost_ret (v := .tuple #[.agg #[.string ⟨#[104, 97, 108, 102, 101, 118, 101, 110]⟩, .func (.func 309) #[] #[]], .bool true]) (by simp [results, Tryz.results240, go_sem, cz0, cz1]) rfl ?_
    exact ⟨rfl, below_set2M bb1 (Nat.le_refl _)⟩
set_option maxHeartbeats 4000000 in
set_option maxRecDepth 100000 in
theorem roundingOf_none (m : Int) (hm : ¬ modeB m = true) (w : World) : Calls Tryz.prog 240 #[.int .i64 m] w (PostRM ⟨#[]⟩ .nilFunc false w) := by
  have bb0 : Below w.heap.size w (w.alloc (.cells #[.string ⟨#[]⟩, .nilFunc] 271)) := below_al (Below.refl _ _) _
  have ko := box_new w #[.string ⟨#[]⟩, .nilFunc] 271
  have h6 := (modeB_false hm).2
  clear hm
  by_cases h0 : m < 0
  · clear h6
    go_enter Tryz.func240, Tryz.ntmps240
    go_wp2_with fail
    refine (roundings_any _).mono ?_
    rintro e w1 ⟨b, rfl, kb, hb, b1⟩
    have bb1 := Below.next bb0 b1
    replace ko := ko.below b1
    have cz0 := ko.here.cell 0 _ rfl
    have cz1 := ko.here.cell 1 _ rfl
    have fz0 := Lib.frozen_of_heap ko.here 0
    have fz1 := Lib.frozen_of_heap ko.here 1
    go_wp2
    refine bodyPost_ret (v := .tuple #[.agg #[.string ⟨#[]⟩, .nilFunc], .bool false]) (by simp [results, Tryz.results240, go_sem, cz0, cz1]) rfl ?_
    exact ⟨rfl, below_set2M bb1 (Nat.le_refl _)⟩
  · have h7 : ((7 : Nat) : Int) ≤ m := by omega
    clear h6
    go_enter Tryz.func240, Tryz.ntmps240
    go_wp2_with fail
    refine (roundings_any _).mono ?_
    rintro e w1 ⟨b, rfl, kb, hb, b1⟩
    have bb1 := Below.next bb0 b1
    replace ko := ko.below b1
    have cz0 := ko.here.cell 0 _ rfl
    have cz1 := ko.here.cell 1 _ rfl
    have fz0 := Lib.frozen_of_heap ko.here 0
    have fz1 := Lib.frozen_of_heap ko.here 1
    go_wp2
    refine bodyPost_ret (v := .tuple #[.agg #[.string ⟨#[]⟩, .nilFunc], .bool false]) (by simp [results, Tryz.results240, go_sem, cz0, cz1]) rfl ?_
    exact ⟨rfl, below_set2M bb1 (Nat.le_refl _)⟩
end Go.Proofs.YtehkknphcflofaaGreatDoor

namespace Go.Proofs.YtehkknphcflofaaGreatDoor
open Go.RowKit

theorem OwnI.belowI {v : Value} {xs : List Int} {w w' : World} (h : OwnI v xs w) (hb : Below w.heap.size w w') : OwnI v xs w' := own_below h hb
theorem ownI_eq {v : Value} {xs ys : List Int} {w : World} (h : OwnI v xs w) (e : xs = ys) : OwnI v ys w := e ▸ h
theorem roundVS_eq {x y : SI} {w w' : World} {e : Ending} (hxy : x = y) (h : NewV (fun u => OwnS u x) w e w') : NewV (fun u => OwnS u y) w e w' := hxy ▸ h
theorem chg_set2 {r : Nat} {c0 c1 : Value} {W : World} : Chg [r] W ((W.setCell ⟨r, 0, none⟩ c0).setCell ⟨r, 1, none⟩ c1) := ((Chg.refl _ _).setCell (by simp) _).setCell (by simp) _
/-- a result that lies in its cells at block r: a new signed number, with a bool and without -/
theorem newSb_at {r B : Nat} {S : List Nat} {c0 c1 : Value} {x : SI} {b : Bool} {w W : World} (o : At S (OwnS (.agg #[c0, c1]) x) W) (l : Within S B W.heap.size) (hrB : r < B) (hr : w.heap.size ≤ r) (hW : Below w.heap.size w W) :
    PostSb x b w (.returned (.tuple #[.agg #[c0, c1], .bool b])) ((W.setCell ⟨r, 0, none⟩ c0).setCell ⟨r, 1, none⟩ c1) := by
  have hc : Chg [r] W ((W.setCell ⟨r, 0, none⟩ c0).setCell ⟨r, 1, none⟩ c1) := chg_set2
  have hz := hc.size
  exact ⟨_, S, rfl, o.chg hc (fun i hi hm => by have := l i hi; simp at hm; omega), fun i hi => by have := l i hi; omega, below_set2 hW hr⟩
theorem newS_at {r B : Nat} {S : List Nat} {c0 c1 : Value} {x : SI} {w W : World} (o : At S (OwnS (.agg #[c0, c1]) x) W) (l : Within S B W.heap.size) (hrB : r < B) (hr : w.heap.size ≤ r) (hW : Below w.heap.size w W) :
    NewV (fun v => OwnS v x) w (.returned (.agg #[c0, c1])) ((W.setCell ⟨r, 0, none⟩ c0).setCell ⟨r, 1, none⟩ c1) := by
  have hc : Chg [r] W ((W.setCell ⟨r, 0, none⟩ c0).setCell ⟨r, 1, none⟩ c1) := chg_set2
  have hz := hc.size
  exact ⟨_, S, rfl, o.chg hc (fun i hi hm => by have := l i hi; simp at hm; omega), fun i hi => by have := l i hi; omega, below_set2 hW hr⟩
theorem ownS_zero (w : World) : OwnS (.agg #[.bool false, .slice none 0 0]) zeroS w := ⟨_, rfl, World.ownsRow_nil _ _ _ _⟩
theorem newSb_zero {w W : World} (b : Bool) (hW : Below w.heap.size w W) : PostSb zeroS b w (.returned (.tuple #[.agg #[.bool false, .slice none 0 0], .bool b])) W :=
  ⟨_, [], rfl, ⟨ownS_zero _, fun _ hg => absurd hg List.not_mem_nil, fun w' _ => ownS_zero w'⟩, fun _ hg => absurd hg List.not_mem_nil, hW⟩
theorem quot_of {r : QI} (h : okQ r = true) : (nval r.1.2 / nval r.2).toNat = topN r / denQ r := by
  have p := parts_of h
  rw [p.n, p.d, limbs_val, limbs_val]
  exact div_toNat _ _
theorem rest_of {r : QI} (h : okQ r = true) : (nval r.1.2 % nval r.2).toNat = topN r % denQ r := by
  have p := parts_of h
  rw [p.n, p.d, limbs_val, limbs_val, ← Int.natCast_emod]
  exact Int.toNat_natCast _
/-- sizes of quotient and rest -/
theorem quot_len {r : QI} (h : okQ r = true) : (limbs (topN r / denQ r)).length ≤ 18 := limbs_length_le _ 18 (by
  have p := (parts_of h).nlt
  have := Nat.div_le_self (topN r) (denQ r)
  omega)
theorem rest_len {r : QI} (h : okQ r = true) : (limbs (topN r % denQ r)).length ≤ 18 := limbs_length_le _ 18 (by
  have p := (parts_of h).dlt
  have := Nat.mod_lt (topN r) (denQ_pos h)
  omega)
theorem even_limbs {k : Nat} (h : (limbs k).length ≤ 50) : evenB (limbs k) = decide (k % 2 = 0) := by
  unfold evenB
  rw [limbs_okL _ h, Bool.true_and]
  have e : (limbs k).headD 0 % 2 = ((k % 2 : Nat) : Int) := by
    by_cases h : k = 0
    · subst h; rw [limbs, dif_pos rfl]; rfl
    · rw [limbs, dif_neg h]
      show ((k % 1000000000 : Nat) : Int) % 2 = _
      omega
  rw [e, decide_eq_decide]
  omega
theorem round_plain {r : QI} {m : Int} (h : topN r % denQ r = 0 ∨ awayB r.1.1 (topN r / denQ r) (topN r % denQ r) (denQ r) m = false) : mkS r.1.1 (limbs (topN r / denQ r)) = roundS r m := by
  unfold roundS roundN
  rw [if_neg (fun e => by rcases h with h | h; exact e.1 h; rw [h] at e; exact absurd e.2 (by decide)), Nat.add_zero]
theorem round_more {r : QI} {m : Int} (h : topN r % denQ r ≠ 0) (ha : awayB r.1.1 (topN r / denQ r) (topN r % denQ r) (denQ r) m = true) : mkS r.1.1 (limbs (topN r / denQ r + 1)) = roundS r m := by
  unfold roundS roundN
  rw [if_pos ⟨h, ha⟩]
theorem one_more (Q : Nat) : trimL (addL (limbs Q) [1] 0) = limbs (Q + 1) := by
  have h := addL_val (limbs Q) [1] 0 (limbs_digN Q) (by rw [← one_limbs]; exact limbs_digN 1) (by omega) (by omega)
  rw [trim_limbs _ h.2.1, h.1, limbs_val]
  have : nval [1] = 1 := rfl
  rw [this, show ((Q : Int) + 1 + 0).toNat = Q + 1 by omega]
theorem twice_len {R : Nat} (h : (limbs R).length ≤ 18) : (addL (limbs R) (limbs R) 0).length ≤ 40 ∧ DigN (addL (limbs R) (limbs R) 0) ∧ (addL (limbs R) (limbs R) 0).getLastD 1 ≠ 0 ∧ nval (addL (limbs R) (limbs R) 0) = (R : Int) + R + 0 := by
  have hs := addL_val (limbs R) (limbs R) 0 (limbs_digN R) (limbs_digN R) (by omega) (by omega)
  rw [limbs_val] at hs
  exact ⟨by omega, hs.2.1, addL_last _ _ _ (limbs_digN R) (limbs_digN R) (by omega) (by omega) (limbs_lastN R) (limbs_lastN R), hs.1⟩
theorem awayB_4 (neg : Bool) (Q R D : Nat) : awayB neg Q R D 4 = decide (D < 2 * R) := rfl
theorem awayB_5 (neg : Bool) (Q R D : Nat) : awayB neg Q R D 5 = decide (D ≤ 2 * R) := rfl
theorem awayB_6 (neg : Bool) (Q R D : Nat) : awayB neg Q R D 6 = (decide (D < 2 * R) || (decide (2 * R = D) && decide (Q % 2 = 1))) := rfl
/-- the modes that look at the half, by how twice the rest compares with the denominator -/
theorem away_cmp (neg : Bool) (Q R D : Nat) {c : Int} (h : cmpI ((R : Int) + R + 0) D = c) : awayB neg Q R D 4 = decide (0 < c) ∧ awayB neg Q R D 5 = decide (0 ≤ c) ∧ awayB neg Q R D 6 = (decide (0 < c) || (decide (c = 0) && decide (Q % 2 = 1))) := by
  have t := twice_cmp R D
  rw [h] at t
  rw [awayB_4, awayB_5, awayB_6, decide_eq_decide.2 t.1, decide_eq_decide.2 t.2.1, decide_eq_decide.2 t.2.2]
  exact ⟨rfl, rfl, rfl⟩
theorem cmp_three (x y : Int) : cmpI x y = -1 ∨ cmpI x y = 0 ∨ cmpI x y = 1 := by unfold cmpI; split; exact .inl rfl; split; exact .inr (.inr rfl); exact .inr (.inl rfl)
end Go.Proofs.YtehkknphcflofaaGreatDoor

namespace Go.Proofs.YtehkknphcflofaaGreatDoor
open Go.RowKit

theorem round_lt18 {r : QI} (h : okQ r = true) (m : Int) : (roundN r.1.1 (topN r) (denQ r) m : Int) < bp 18 := by
  have p := parts_of h
  have hn := p.nlt
  have hd := denQ_pos h
  have c := roundN_cases r.1.1 (topN r) (denQ r) m
  have b1 : bp 1 = 1000000000 := rfl
  have b18 : bp 1 ≤ bp 18 := bp_mono (by omega)
  by_cases h1 : denQ r = 1
  · rw [h1] at c ⊢
    rw [Nat.mod_one, Nat.div_one] at c
    omega
  · have h2 : topN r / denQ r ≤ topN r / 2 := Nat.div_le_div_left (by omega) (by omega)
    have h3 := roundN_le r.1.1 (topN r) (denQ r) m
    omega
/-- the rounded number as a fraction, and the rest -/
theorem rest_parts {r : QI} (h : okQ r = true) (m : Int) : (makeQ (roundS r m) (ofZ 1)).2 = true ∧ (subQ r (makeQ (roundS r m) (ofZ 1)).1).2 = true := by
  have p := parts_of h
  have okx := roundS_ok r m
  have h18 := round_lt18 h m
  have hv := roundS_val p m
  have hab : ((valS (roundS r m)).natAbs : Int) < bp 18 := by
    have : (valS (roundS r m)).natAbs = roundN r.1.1 (topN r) (denQ r) m := by rw [hv]; split <;> omega
    omega
  obtain ⟨b1, b2, b3⟩ := int_bd okx (m := 18) (by omega) (by omega) hab
  refine ⟨b1, ?_⟩
  obtain ⟨e, e1, e2, e3, _, _⟩ := round_val h m
  generalize roundS r m = X at *
  generalize (makeQ X (ofZ 1)).1 = Y at *
  have py := b2.pos
  have pr : (0 : Int) < denQ r := by have := denQ_pos h; omega
  have hY : numQ Y = valS X * denQ Y := by
    have n1 := rat_ne py
    unfold ratV at b3
    have : (numQ Y : Rat) = ((valS X : Int) : Rat) * ((denQ Y : Int) : Rat) := by grind
    exact_mod_cast this
  obtain ⟨n1, n2, n3⟩ := neg_bd b2
  have en := negQ_is b2.ok
  have hN : numQ (negQ Y).1 = - numQ Y := by rw [en]; exact negS_val (okQ_parts b2.ok).1
  have hD : denQ (negQ Y).1 = denQ Y := by rw [en]; rfl
  have h1 : denQ Y = 1 := by
    have hg : Nat.gcd (topN Y) (denQ Y) = 1 := (okQ_parts b2.ok).2.2.2.2.2
    have ht : topN Y = (valS X).natAbs * denQ Y := by rw [abs_top b2.ok, hY, Int.natAbs_mul, Int.natAbs_natCast]
    rw [ht, Nat.gcd_mul_left_left] at hg
    exact hg
  have es : subQ r Y = lowQ (decide (numQ r * denQ (negQ Y).1 + numQ (negQ Y).1 * denQ r < 0)) (numQ r * denQ (negQ Y).1 + numQ (negQ Y).1 * denQ r).natAbs (denQ r * denQ (negQ Y).1) := by
    unfold subQ
    rw [if_pos n1]
    unfold addQ
    rw [if_pos ⟨h, n2.ok⟩]
  rw [es, hN, hD, hY, h1]
  have hnum : (numQ r * ((1 : Nat) : Int) + -(valS X * ((1 : Nat) : Int)) * denQ r).natAbs < denQ r := by
    have : numQ r * ((1 : Nat) : Int) + -(valS X * ((1 : Nat) : Int)) * denQ r = -e := by
      have : -(valS X * ((1 : Nat) : Int)) * (denQ r : Int) = -(valS X * (denQ r : Int)) := by rw [Int.natCast_one, Int.mul_one, Int.neg_mul]
      rw [this, e1]
      omega
    rw [this]
    omega
  exact (low_is _ _ _ (by omega) (by have := p.dlt; omega) (by rw [Nat.mul_one]; exact p.dlt)).1
theorem rest_all {r : QI} {m : Int} (h : okQ r = true) (hm : modeB m = true) : roundR r m = (roundS r m, true) ∧ restB r m = true ∧ restS r m = roundS r m ∧ restQ r m = (subQ r (makeQ (roundS r m) (ofZ 1)).1).1 := by
  have e : roundR r m = (roundS r m, true) := by unfold roundR; rw [if_pos ⟨h, hm⟩]
  have b := rest_parts h m
  have eb : restB r m = true := by unfold restB; rw [e]; simp only; rw [b.1, b.2]; rfl
  refine ⟨e, eb, ?_, ?_⟩
  · unfold restS; rw [if_pos eb, e]
  · unfold restQ; rw [if_pos eb, e]
theorem rest_none {r : QI} {m : Int} (h : ¬ (okQ r = true ∧ modeB m = true)) : roundR r m = (zeroS, false) ∧ restB r m = false ∧ restS r m = zeroS ∧ restQ r m = zeroQ := by
  have e : roundR r m = (zeroS, false) := by unfold roundR; rw [if_neg h]
  have eb : restB r m = false := by unfold restB; rw [e]; rfl
  refine ⟨e, eb, ?_, ?_⟩
  · unfold restS; rw [if_neg (by rw [eb]; decide)]
  · unfold restQ; rw [if_neg (by rw [eb]; decide)]
theorem makeQ_szQ (x y : SI) : szQ (makeQ x y).1 ≤ 1048576 := by unfold makeQ; split; exact lowQ_sz _ _ _; decide
theorem postSb_is {q : SI × Bool} {X : SI} {b : Bool} (e : q = (X, b)) {w w' : World} {n : Ending} (h : PostSb q.1 q.2 w n w') : PostSb X b w n w' := by rw [e] at h; exact h
theorem postQb_is {q : QI × Bool} {X : QI} {b : Bool} (e : q = (X, b)) {w w' : World} {n : Ending} (h : PostQb q.1 q.2 w n w') : PostQb X b w n w' := by rw [e] at h; exact h
theorem newSQb_zero {w W : World} (hW : Below w.heap.size w W) : PostSQb zeroS zeroQ false w (.returned (.tuple #[.agg #[.bool false, .slice none 0 0], .agg #[.bool false, .slice none 0 0, .slice none 0 0], .bool false])) W :=
  ⟨_, _, [], [], rfl, ⟨ownS_zero _, fun _ hg => absurd hg List.not_mem_nil, fun w' _ => ownS_zero w'⟩, ⟨ownQ_zero _, fun _ hg => absurd hg List.not_mem_nil, fun w' _ => ownQ_zero w'⟩, fun _ hg => absurd hg List.not_mem_nil, fun _ hg => absurd hg List.not_mem_nil, fun _ hg => absurd hg List.not_mem_nil, hW⟩
/-- a signed number in block r and a fraction in block p, in whatever order they were stored -/
theorem newSQb_at {r p B C : Nat} {S T : List Nat} {c0 c1 d0 d1 d2 : Value} {x : SI} {y : QI} {b : Bool} {w W : World} (o : At S (OwnS (.agg #[c0, c1]) x) W) (q : At T (OwnQ (.agg #[d0, d1, d2]) y) W)
    (l : Within S B W.heap.size) (k : Within T C W.heap.size) (hap : ∀ g ∈ S, g ∉ T) (hB : p < B) (hC : p < C) (hrp : r < p) (hr : w.heap.size ≤ r) (hp : w.heap.size ≤ p) (hW : Below w.heap.size w W) :
    ∀ W', Chg [r, p] W W' → PostSQb x y b w (.returned (.tuple #[.agg #[c0, c1], .agg #[d0, d1, d2], .bool b])) W' := by
  intro W' hc
  have hz := hc.size
  refine ⟨_, _, S, T, rfl, o.chg hc (fun i hi hm => ?_), q.chg hc (fun i hi hm => ?_), hap, fun i hi => ?_, fun i hi => ?_, below_chg hW hc hW.size (fun i hi => ?_)⟩
  · have := l i hi; simp at hm; omega
  · have := k i hi; simp at hm; omega
  · have := l i hi; omega
  · have := k i hi; omega
  · simp at hi; omega
end Go.Proofs.YtehkknphcflofaaGreatDoor

namespace Go.Proofs.YtehkknphcflofaaGreatDoor
open Go.RowKit

def rmB (cu : ByteArray) (r : QI) (m : Int) : Bool := restB r m && okM (cu, restS r m)
def rmM (cu : ByteArray) (r : QI) (m : Int) : MI := if rmB cu r m = true then (cu, restS r m) else zeroM
def rmQ (cu : ByteArray) (r : QI) (m : Int) : QI := if rmB cu r m = true then restQ r m else zeroQ
theorem rm_good {cu : ByteArray} {r : QI} {m : Int} (h1 : restB r m = true) (h2 : (makeM cu (restS r m)).2 = true) : rmM cu r m = (makeM cu (restS r m)).1 ∧ rmQ cu r m = restQ r m ∧ rmB cu r m = true := by
  unfold makeM at h2 ⊢
  split at h2
  · rename_i hk
    have hb : rmB cu r m = true := by unfold rmB; rw [h1, hk]; rfl
    unfold rmM rmQ
    rw [if_pos hb, if_pos hb, if_pos hk]
    exact ⟨rfl, rfl, hb⟩
  · cases h2
theorem rm_bad {cu : ByteArray} {r : QI} {m : Int} (h : restB r m = false ∨ (makeM cu (restS r m)).2 = false) : rmM cu r m = zeroM ∧ rmQ cu r m = zeroQ ∧ rmB cu r m = false := by
  have hb : rmB cu r m = false := by
    unfold rmB
    rcases h with h | h
    · rw [h]; rfl
    · unfold makeM at h
      split at h
      · cases h
      · rename_i hk
        rw [show okM (cu, restS r m) = false by simpa using hk, Bool.and_false]
  unfold rmM rmQ
  rw [hb]
  exact ⟨rfl, rfl, rfl⟩
theorem rm_sz (cu : ByteArray) (r : QI) (m : Int) (hq : szQ (restQ r m) ≤ 1048576) : szM (rmM cu r m) ≤ 1048576 ∧ szQ (rmQ cu r m) ≤ 1048576 := by
  unfold rmM rmQ
  by_cases h : rmB cu r m = true
  · rw [if_pos h, if_pos h]
    refine ⟨?_, hq⟩
    have hk : okM (cu, restS r m) = true := by
      unfold rmB at h
      rw [Bool.and_eq_true] at h
      exact h.2
    have h4 := (okM_parts hk).2.2
    have h3 := okM_size hk
    dsimp only at h3 h4
    unfold szM szS szI
    dsimp only
    omega
  · rw [if_neg h, if_neg h]
    exact ⟨by decide, by decide⟩
theorem restS_len (r : QI) (m : Int) : (restS r m).2.length ≤ 1048576 := by
  have h : szS (restS r m) ≤ 1048576 := by unfold restS; split; exact roundR_sz r m; decide
  unfold szS szI at h
  omega
theorem postSQb_isM {x x' : SI} {y y' : QI} {b b' : Bool} (e1 : x = x') (e2 : y = y') (e3 : b = b') {w w' : World} {e : Ending} (h : PostSQb x y b w e w') : PostSQb x' y' b' w e w' := by subst e1 e2 e3; exact h
def PostMQb (R0 : MI) (R1 : QI) (R2 : Bool) (w : World) (e : Ending) (w' : World) : Prop :=
  ∃ (v u : Value) (S T : List Nat), e = .returned (.tuple #[v, u, .bool R2]) ∧ At S (OwnM v R0) w' ∧ At T (OwnQ u R1) w' ∧ (∀ g ∈ S, g ∉ T) ∧ Within S w.heap.size w'.heap.size ∧ Within T w.heap.size w'.heap.size ∧ Below w.heap.size w w'
theorem newMQb_zero {w W : World} (hW : Below w.heap.size w W) : PostMQb zeroM zeroQ false w (.returned (.tuple #[.agg #[.string ⟨#[]⟩, .bool false, .slice none 0 0], .agg #[.bool false, .slice none 0 0, .slice none 0 0], .bool false])) W :=
  ⟨_, _, [], [], rfl, atM_zero _, ⟨⟨_, _, rfl, World.ownsRow_nil _ _ _ _, World.ownsRow_nil _ _ _ _, fun g hg => by cases hg⟩, fun _ hg => absurd hg List.not_mem_nil, fun w' _ => ⟨_, _, rfl, World.ownsRow_nil _ _ _ _, World.ownsRow_nil _ _ _ _, fun g hg => by cases hg⟩⟩, fun _ hg => absurd hg List.not_mem_nil, fun _ hg => absurd hg List.not_mem_nil, fun _ hg => absurd hg List.not_mem_nil, hW⟩
theorem newMQb_at {r p B C : Nat} {S T : List Nat} {c0 c1 c2 d0 d1 d2 : Value} {x : MI} {y : QI} {b : Bool} {w W : World} (o : At S (OwnM (.agg #[c0, c1, c2]) x) W) (q : At T (OwnQ (.agg #[d0, d1, d2]) y) W)
    (l : Within S B W.heap.size) (k : Within T C W.heap.size) (hap : ∀ g ∈ S, g ∉ T) (hB : p < B) (hC : p < C) (hrp : r < p) (hr : w.heap.size ≤ r) (hp : w.heap.size ≤ p) (hW : Below w.heap.size w W) :
    ∀ W', Chg [r, p] W W' → PostMQb x y b w (.returned (.tuple #[.agg #[c0, c1, c2], .agg #[d0, d1, d2], .bool b])) W' := by
  intro W' hc
  have hz := hc.size
  refine ⟨_, _, S, T, rfl, o.chg hc (fun i hi hm => ?_), q.chg hc (fun i hi hm => ?_), hap, fun i hi => ?_, fun i hi => ?_, below_chg hW hc hW.size (fun i hi => ?_)⟩
  · have := l i hi; simp at hm; omega
  · have := k i hi; simp at hm; omega
  · have := l i hi; omega
  · have := k i hi; omega
  · simp at hi; omega
end Go.Proofs.YtehkknphcflofaaGreatDoor

namespace Go.Proofs.YtehkknphcflofaaGreatDoor
open Go.RowKit

/-- the four cells of a row, where the table lies -/
def RowCells (W : World) (g k : Nat) (r : CR) : Prop := W.cell? ⟨g, k * 4, none⟩ = some (.string r.1) ∧ W.cell? ⟨g, k * 4 + 1, none⟩ = some (.string r.2.1) ∧ W.cell? ⟨g, k * 4 + 2, none⟩ = some (.int .i64 r.2.2.1) ∧ W.cell? ⟨g, k * 4 + 3, none⟩ = some (.int .i64 r.2.2.2)
theorem rowCells_of {W : World} {g : Nat} {l : List CR} (h : W.rangeAt g 0 (cellsT l)) {k : Nat} (hk : k < l.length) : RowCells W g k l[k] := by
  have f : ∀ j (hj : j < 4) v, (cellsC l[k])[j]? = some v → W.cell? ⟨g, k * 4 + j, none⟩ = some v := fun j hj v hv => by
    have := h (k * 4 + j) v (by rw [cellsT_get l k j hk hj]; exact hv)
    rwa [Nat.zero_add] at this
  exact ⟨f 0 (by decide) _ rfl, f 1 (by decide) _ rfl, f 2 (by decide) _ rfl, f 3 (by decide) _ rfl⟩
theorem range_new (w : World) (l : List Value) (T : TypeId) : (w.alloc (.cells l.toArray T)).rangeAt w.heap.size 0 l := by
  intro j v hv
  have hb : (w.alloc (.cells l.toArray T)).heap[w.heap.size]? = some (.cells l.toArray T (0, 0)) := Array.getElem?_push_size
  rw [Nat.zero_add]
  unfold World.cell?
  simp only [hb]
  simpa using hv
theorem range_below {w W : World} {g : Nat} {l : List Value} (h : w.rangeAt g 0 l) (hg : g < w.heap.size) (hb : Below w.heap.size w W) : W.rangeAt g 0 l := fun j v hv => (hb.cell hg).trans (h j v hv)
def TabPost (w : World) (e : Ending) (w' : World) : Prop := e = .returned (.slice (some ⟨w.heap.size, 0, none⟩) 20 20) ∧ w' = w.alloc (.cells (cellsT specT).toArray 111)
set_option maxHeartbeats 1000000 in
set_option maxRecDepth 100000 in
theorem l08Table_any (w : World) : Calls Tryz.prog 148 #[] w (TabPost w) := by
  go_enter Tryz.func148, Tryz.ntmps148
  go_wp2
  go_ret
  exact ⟨rfl, rfl⟩
end Go.Proofs.YtehkknphcflofaaGreatDoor

namespace Go.Proofs.YtehkknphcflofaaGreatDoor
open Go.RowKit

def RowPost (r : CR) (w : World) (e : Ending) (w' : World) : Prop := e = .returned (.agg #[.string r.1, .string r.2.1, .int .i64 r.2.2.1, .int .i64 r.2.2.2]) ∧ Below w.heap.size w w'
theorem below_set4 {W0 W : World} {g : Nat} {a b c d : Value} (h : Below W0.heap.size W0 W) (hg : W0.heap.size ≤ g) : Below W0.heap.size W0 ((((W.setCell ⟨g, 0, none⟩ a).setCell ⟨g, 1, none⟩ b).setCell ⟨g, 2, none⟩ c).setCell ⟨g, 3, none⟩ d) :=
  (((h.setCell (p := ⟨g, 0, none⟩) hg _).setCell (p := ⟨g, 1, none⟩) hg _).setCell (p := ⟨g, 2, none⟩) hg _).setCell (p := ⟨g, 3, none⟩) hg _
set_option maxHeartbeats 1000000 in
set_option maxRecDepth 100000 in
theorem l08Find_any (n : ByteArray) (w : World) : Calls Tryz.prog 73 #[.string n] w (RowPost (rowOf specT n) w) := by
  have kr := box_new w #[.string ⟨#[]⟩, .string ⟨#[]⟩, .int .i64 0, .int .i64 0] 111
  have b0 := below_al (Below.refl w.heap.size w) (.cells #[.string ⟨#[]⟩, .string ⟨#[]⟩, .int .i64 0, .int .i64 0] 111)
  obtain ⟨W0, hW0⟩ : ∃ W0, W0 = w.alloc (.cells #[.string ⟨#[]⟩, .string ⟨#[]⟩, .int .i64 0, .int .i64 0] 111) := ⟨_, rfl⟩
  rw [← hW0] at kr b0
  have HW := Lib.hid hW0
  clear hW0
  go_enter Tryz.func73, Tryz.ntmps73
  go_wp2_with fail
  rw [← HW.out]
  refine (l08Table_any _).mono ?_
  rintro e w1 ⟨rfl, hw1⟩
  have b1 : Below W0.heap.size W0 w1 := by rw [hw1]; exact (Below.refl _ _).alloc (Nat.le_refl _) _
  have hr1 : w1.rangeAt W0.heap.size 0 (cellsT specT) := by rw [hw1]; exact range_new _ _ _
  have hg1 : W0.heap.size < w1.heap.size := by rw [hw1]; simp
  have HR := Lib.hid (show ∀ W, Below w1.heap.size w1 W → ∀ k (hk : k < 20), RowCells W W0.heap.size k (specT[k]'hk) from fun W hb k hk => rowCells_of (range_below hr1 hg1 hb) hk)
  have HK := Lib.hid (kr.below b1)
  have B1 := Lib.hid (Below.next b0 b1)
  generalize W0.heap.size = g at HR hg1
  clear hw1 hr1 b1 kr b0 HW
  go_wp2
  go_loopw [7] (fun i wr => ∃ k : Nat, k ≤ 20 ∧ i = .int .i64 k ∧ Hid (∀ r ∈ specT.take k, ¬ r.1 = n) ∧ Below w1.heap.size w1 wr) (fun i _ => 20 - (intOf i).toNat)
  case atStart => exact ⟨0, Nat.zero_le _, rfl, Lib.hid (fun r hr => absurd hr (by simp)), Below.refl _ _⟩
  case round =>
    obtain ⟨k, hk, rfl, hp, hb⟩ := hrel
    by_cases hlt : k < 20
    · have hix := HR.out wr hb k hlt
      have HM := Lib.hid (show specT[k] ∈ specT from List.getElem_mem _)
      have HN := Lib.hid (fun h => take_next hp.out (show k < specT.length from hlt) h)
      generalize specT[k] = r at hix HM HN
      obtain ⟨c, m, p, q⟩ := r
      obtain ⟨x0, x1, x2, x3⟩ := hix
      dsimp only at x0 x1 x2 x3
      have hal := below_al (Below.refl wr.heap.size wr) (.cells #[.string c, .string m, .int .i64 p, .int .i64 q] 111)
      by_cases he : c = n
      · subst he
        have hA := Lib.hid (rowOf_mem specT_codes HM.out)
        have ko := (HK.out.below hb).below hal
        have HB := Lib.hid (Below.next (Below.next B1.out hb) hal)
        have co0 := ko.here.cell 0 _ rfl
        have co1 := ko.here.cell 1 _ rfl
        have co2 := ko.here.cell 2 _ rfl
        have co3 := ko.here.cell 3 _ rfl
        have fo0 := Lib.frozen_of_heap ko.here 0
        have fo1 := Lib.frozen_of_heap ko.here 1
        have fo2 := Lib.frozen_of_heap ko.here 2
        have fo3 := Lib.frozen_of_heap ko.here 3
        clear HM HN hp ko hal
        go_wp2
        refine bodyPost_ret (v := .agg #[.string c, .string m, .int .i64 p, .int .i64 q]) (by simp [results, Tryz.results73, go_sem, co0, co1, co2, co3]) rfl ?_
        unfold RowPost
        rw [hA.out]
        exact ⟨rfl, below_set4 HB.out (Nat.le_refl _)⟩
      · have HN2 := Lib.hid (HN.out he)
        clear HM HN hp hal
        have hne := bytes_neC he
        go_wp2
        exact ⟨⟨k + 1, by omega, by go_num, HN2, hb.alloc (by have := hb.size; omega) _⟩, by simp [intOf]; omega⟩
    · obtain rfl : k = 20 := by omega
      have hA := Lib.hid (rowOf_none (l := specT) (n := n) (by rw [← List.take_of_length_le (l := specT) (i := 20) (by decide)]; exact hp.out))
      have ko := HK.out.below hb
      have HB := Lib.hid (Below.next B1.out hb)
      have co0 := ko.here.cell 0 _ rfl
      have co1 := ko.here.cell 1 _ rfl
      have co2 := ko.here.cell 2 _ rfl
      have co3 := ko.here.cell 3 _ rfl
      have fo0 := Lib.frozen_of_heap ko.here 0
      have fo1 := Lib.frozen_of_heap ko.here 1
      have fo2 := Lib.frozen_of_heap ko.here 2
      have fo3 := Lib.frozen_of_heap ko.here 3
      clear hp ko
      go_wp2
      refine bodyPost_ret (v := .agg #[.string ⟨#[]⟩, .string ⟨#[]⟩, .int .i64 0, .int .i64 0]) (by simp [results, Tryz.results73, go_sem, co0, co1, co2, co3]) rfl ?_
      unfold RowPost
      rw [hA.out]
      first | exact ⟨rfl, HB.out⟩ | exact ⟨rfl, below_set4 HB.out (Nat.le_refl _)⟩
theorem field_row0 (c m : ByteArray) (p q : Int) (W : World) : (Instr.field 111 (.agg #[.string c, .string m, .int .i64 p, .int .i64 q]) 0).run Tryz.prog W = .ok (.string c) W := by kernel_rfl
theorem field_row2 (c m : ByteArray) (p q : Int) (W : World) : (Instr.field 111 (.agg #[.string c, .string m, .int .i64 p, .int .i64 q]) 2).run Tryz.prog W = .ok (.int .i64 p) W := by kernel_rfl
theorem empty_list : (⟨#[]⟩ : ByteArray).toList = [] := by rw [ByteArray.toList_eq]
theorem known_neq (n : ByteArray) : ((rowOf specT n).1.toList == ([] : List UInt8)) = !knownC n := by
  rw [← known_ne n]
  by_cases h : (rowOf specT n).1 = ⟨#[]⟩
  · rw [h, empty_list]; rfl
  · have h2 := bytes_neC h
    rw [empty_list] at h2
    rw [h2, decide_eq_true h]
    rfl
set_option maxHeartbeats 400000 in
set_option maxRecDepth 100000 in
theorem specCurKnown_any (n : ByteArray) (w : World) : Calls Tryz.prog 18 #[.string n] w (Postb (knownC n) w) := by
  go_enter Tryz.func18, Tryz.ntmps18
  go_wp2_with fail
  refine (l08Find_any n _).mono ?_
  rintro e w1 ⟨rfl, b1⟩
  have hk := known_neq n
  generalize rowOf specT n = r at *
  obtain ⟨c, m, p, q⟩ := r
  dsimp only at hk ⊢
  have hk2 : (c.toList != ([] : List UInt8)) = knownC n := by rw [bne, hk, Bool.not_not]
  generalize knownC n = b at *
  have hf := field_row0 c m p q
  go_wp2
  go_ret
  exact ⟨rfl, b1⟩
set_option maxHeartbeats 400000 in
set_option maxRecDepth 100000 in
theorem specCurPlaces_any (n : ByteArray) (w : World) : Calls Tryz.prog 195 #[.string n] w fun e w' => e = .returned (.int .i64 (placesC n)) ∧ Below w.heap.size w w' := by
  go_enter Tryz.func195, Tryz.ntmps195
  go_wp2_with fail
  refine (l08Find_any n _).mono ?_
  rintro e w1 ⟨rfl, b1⟩
  have hf := field_row2 (rowOf specT n).1 (rowOf specT n).2.1 (rowOf specT n).2.2.1 (rowOf specT n).2.2.2
  go_wp2
  go_ret
  exact ⟨rfl, b1⟩
end Go.Proofs.YtehkknphcflofaaGreatDoor

namespace Go.Proofs.YtehkknphcflofaaGreatDoor
open Go.RowKit

/-- what a call answers that keeps the memory of its argument: an amount that leans on no other blocks, and a bool -/
def KeptM (S : List Nat) (R0 : MI) (R1 : Bool) (w : World) (e : Ending) (w' : World) : Prop :=
  ∃ (v : Value) (T : List Nat), e = .returned (.tuple #[v, .bool R1]) ∧ At T (OwnM v R0) w' ∧ (∀ i ∈ T, i ∈ S) ∧ Below w.heap.size w w'
theorem keptM_at {r : Nat} {S : List Nat} {c0 c1 c2 : Value} {x : MI} {b : Bool} {w W : World} (o : At S (OwnM (.agg #[c0, c1, c2]) x) W) (hS : ∀ i ∈ S, i < w.heap.size) (hr : w.heap.size ≤ r) (hW : Below w.heap.size w W) :
    KeptM S x b w (.returned (.tuple #[.agg #[c0, c1, c2], .bool b])) (((W.setCell ⟨r, 0, none⟩ c0).setCell ⟨r, 1, none⟩ c1).setCell ⟨r, 2, none⟩ c2) :=
  ⟨_, S, rfl, o.chg chg_set3M (fun i hi hm => by have := hS i hi; simp at hm; omega), fun i hi => hi, below_set3 hW hr⟩
theorem keptM_zero {S : List Nat} {w W : World} (hW : Below w.heap.size w W) : KeptM S zeroM false w (.returned (.tuple #[.agg #[.string ⟨#[]⟩, .bool false, .slice none 0 0], .bool false])) W :=
  ⟨_, [], rfl, atM_zero _, fun _ hi => absurd hi List.not_mem_nil, hW⟩
theorem keptM_eq {S : List Nat} {q p : MI × Bool} (e : q = p) {w w' : World} {n : Ending} (h : KeptM S q.1 q.2 w n w') : KeptM S p.1 p.2 w n w' := e ▸ h
set_option maxHeartbeats 1000000 in
set_option maxRecDepth 100000 in
theorem specMoneyOk_any (vm : Value) (m : MI) (w : World) (hl : m.2.2.length ≤ 1048576) (hm : OwnM vm m w) :
    Calls Tryz.prog 128 #[vm] w (Postb (okM m) w) := by
  have Hm := Lib.hid hm
  obtain ⟨Am, cm, rfl⟩ := ownM_form hm
  have OMm := Lib.hid (show ∀ W, Below w.heap.size w W → OwnM (.agg #[.string m.1, .bool m.2.1, .slice Am m.2.2.length cm]) m W from fun W hb => OwnM.below Hm.out hb)
  have OIm := Lib.hid (show ∀ W, Below w.heap.size w W → OwnI (.slice Am m.2.2.length cm) m.2.2 W from fun W hb => ownM_open (OMm.out W hb))
  have OSm := Lib.hid (show ∀ W, Below w.heap.size w W → OwnS (.agg #[.bool m.2.1, .slice Am m.2.2.length cm]) m.2 W from fun W hb => OwnS.mk (OIm.out W hb))
  clear hm
  have bb0 : Below w.heap.size w (w.alloc (.cells #[.string m.1, .bool m.2.1, .slice Am m.2.2.length cm] 32)) := below_al (Below.refl _ _) _
  have km := (box_new w #[.string m.1, .bool m.2.1, .slice Am m.2.2.length cm] 32)
  go_enter Tryz.func128, Tryz.ntmps128
  have km_c0 := km.here.cell 0 _ rfl
  have km_c1 := km.here.cell 1 _ rfl
  have km_c2 := km.here.cell 2 _ rfl
  go_wp2_with fail
  clear km_c0 km_c1 km_c2
  refine (specCurKnown_any m.1 _).mono ?_
  rintro e w1 ⟨rfl, b1⟩
  have bb1 := Below.next bb0 b1
  replace km := km.below b1
  by_cases ok0 : knownC m.1 = true
  · rw [ok0]
    have HO0 := Lib.hid ok0
    clear ok0
    have km_c0 := km.here.cell 0 _ rfl
    have km_c1 := km.here.cell 1 _ rfl
    have km_c2 := km.here.cell 2 _ rfl
    go_wp2_with fail
    clear km_c0 km_c1 km_c2
    refine (specIntOk_any _ m.2 _ hl (OwnS.rd (OSm.out _ bb1))).mono ?_
    rintro e w2 ⟨rfl, b2⟩
    have bb2 := Below.next bb1 b2
    replace km := km.below b2
    by_cases ok1 : okS m.2 = true
    · rw [ok1]
      have HO1 := Lib.hid ok1
      clear ok1
      have HV := Lib.hid (show okM m = decide ((m.2.2.length : Int) ≤ 4) by unfold okM; rw [HO0.out, HO1.out, Bool.true_and, Bool.true_and, decide_eq_decide]; omega)
      have km_c0 := km.here.cell 0 _ rfl
      have km_c1 := km.here.cell 1 _ rfl
      have km_c2 := km.here.cell 2 _ rfl
      clear hl
      go_wp2
      go_ret
      exact ⟨ret_bool HV.out.symm, bb2⟩
    · have ok1' : okS m.2 = false := by simpa using ok1
      have HV := Lib.hid (show okM m = false by unfold okM; rw [ok1', Bool.and_false, Bool.false_and])
      rw [ok1']
      clear ok1 ok1'
      go_wp2
      go_ret
      exact ⟨ret_bool HV.out.symm, bb2⟩
  · have ok0' : knownC m.1 = false := by simpa using ok0
    have HV := Lib.hid (show okM m = false by unfold okM; rw [ok0', Bool.false_and, Bool.false_and])
    rw [ok0']
    clear ok0 ok0'
    go_wp2
    go_ret
    exact ⟨ret_bool HV.out.symm, bb1⟩
set_option maxHeartbeats 1000000 in
set_option maxRecDepth 100000 in
theorem l09Make_any (cu : ByteArray) (vx : Value) (x : SI) (S : List Nat) (w : World) (hl : x.2.length ≤ 1048576) (hx : At S (OwnS vx x) w) :
    Calls Tryz.prog 202 #[.string cu, vx] w (KeptM S (makeM cu x).1 (makeM cu x).2 w) := by
  obtain ⟨Ax, cx, rfl⟩ := ownS_form hx.here
  have OX := Lib.hid (show ∀ W, Below w.heap.size w W → At S (OwnM (.agg #[.string cu, .bool x.1, .slice Ax x.2.length cx]) (cu, x)) W from fun W hb => (hx.below hb).imp fun _ h => OwnM.mk (q := (cu, x)) (ownS_openM h))
  have HLT := Lib.hid hx.lt
  clear hx
  have bb0 : Below w.heap.size w ((w.alloc (.cells #[.bool x.1, .slice Ax x.2.length cx] 30)).alloc (.cells #[.string ⟨#[]⟩, .bool false, .slice none 0 0] 32)) := below_al (below_al (Below.refl _ _) _) _
  have kx := (box_new w #[.bool x.1, .slice Ax x.2.length cx] 30).below (below_al (Below.refl _ _) (.cells #[.string ⟨#[]⟩, .bool false, .slice none 0 0] 32))
  have ko := (box_new (w.alloc (.cells #[.bool x.1, .slice Ax x.2.length cx] 30)) #[.string ⟨#[]⟩, .bool false, .slice none 0 0] 32)
  rw [show (w.alloc (.cells #[.bool x.1, .slice Ax x.2.length cx] 30)).heap.size = w.heap.size + 1 by simp] at ko
  have kd := box_new (((w.alloc (.cells #[.bool x.1, .slice Ax x.2.length cx] 30)).alloc (.cells #[.string ⟨#[]⟩, .bool false, .slice none 0 0] 32))) #[.string cu, .bool x.1, .slice Ax x.2.length cx] 32
  have ald := below_al (Below.refl (((w.alloc (.cells #[.bool x.1, .slice Ax x.2.length cx] 30)).alloc (.cells #[.string ⟨#[]⟩, .bool false, .slice none 0 0] 32))).heap.size (((w.alloc (.cells #[.bool x.1, .slice Ax x.2.length cx] 30)).alloc (.cells #[.string ⟨#[]⟩, .bool false, .slice none 0 0] 32)))) (.cells #[.string cu, .bool x.1, .slice Ax x.2.length cx] 32)
  have bbd := Below.next bb0 ald
  replace kx := kx.below ald
  replace ko := ko.below ald
  rw [show ((w.alloc (.cells #[.bool x.1, .slice Ax x.2.length cx] 30)).alloc (.cells #[.string ⟨#[]⟩, .bool false, .slice none 0 0] 32)).heap.size = w.heap.size + 1 + 1 by simp] at kd
  go_enter Tryz.func202, Tryz.ntmps202
  have kx_c0 := kx.here.cell 0 _ rfl
  have kx_c1 := kx.here.cell 1 _ rfl
  have kd_c0 := kd.here.cell 0 _ rfl
  have kd_c1 := kd.here.cell 1 _ rfl
  have kd_c2 := kd.here.cell 2 _ rfl
  go_wp2_with fail
  clear kx_c0 kx_c1 kd_c0 kd_c1 kd_c2
  refine (specMoneyOk_any _ (cu, x) _ hl (OX.out _ bbd).here).mono ?_
  rintro e w1 ⟨rfl, b1⟩
  have bb1 := Below.next bbd b1
  replace kx := kx.below b1
  replace ko := ko.below b1
  replace kd := kd.below b1
  by_cases ok : okM (cu, x) = true
  · rw [ok]
    have HV := Lib.hid (show makeM cu x = ((cu, x), true) by unfold makeM; rw [if_pos ok])
    clear ok kx
    have HW := Lib.hid (keptM_at (r := w.heap.size + 1) (b := true) (OX.out _ bb1) HLT.out (by omega) bb1)
    have kd_c0 := kd.here.cell 0 _ rfl
    have kd_c1 := kd.here.cell 1 _ rfl
    have kd_c2 := kd.here.cell 2 _ rfl
    have cz0 := ko.here.cell 0 _ rfl
    have fz0 := Lib.frozen_of_heap ko.here 0
    have cz1 := ko.here.cell 1 _ rfl
    have fz1 := Lib.frozen_of_heap ko.here 1
    have cz2 := ko.here.cell 2 _ rfl
    have fz2 := Lib.frozen_of_heap ko.here 2
    clear kd ko
    go_wp2
    refine bodyPost_ret (v := .tuple #[.agg #[.string cu, .bool x.1, .slice Ax x.2.length cx], .bool true]) (by simp [results, Tryz.results202, go_sem, cz0, cz1, cz2]) rfl ?_
    rw [HV.out]
    exact HW.out
  · have ok' : okM (cu, x) = false := by simpa using ok
    have HV := Lib.hid (show makeM cu x = (zeroM, false) by unfold makeM; rw [if_neg ok])
    rw [ok']
    clear ok ok' kx kd
    have cz0 := ko.here.cell 0 _ rfl
    have fz0 := Lib.frozen_of_heap ko.here 0
    have cz1 := ko.here.cell 1 _ rfl
    have fz1 := Lib.frozen_of_heap ko.here 1
    have cz2 := ko.here.cell 2 _ rfl
    have fz2 := Lib.frozen_of_heap ko.here 2
    go_wp2
    refine bodyPost_ret (v := .tuple #[.agg #[.string ⟨#[]⟩, .bool false, .slice none 0 0], .bool false]) (by simp [results, Tryz.results202, go_sem, cz0, cz1, cz2]) rfl ?_
    rw [HV.out]
    first | exact keptM_zero bb1 | exact keptM_zero (below_set3 bb1 (by omega))
end Go.Proofs.YtehkknphcflofaaGreatDoor

namespace Go.Proofs.YtehkknphcflofaaGreatDoor
open Go.RowKit

theorem ownS_open {u c : Value} {x : SI} {w : World} (h : OwnS (.agg #[c, u]) x w) : OwnI u x.2 w := by
  obtain ⟨u', e, hu⟩ := h
  injection e with e
  simp at e
  obtain ⟨_, e2⟩ := e
  subst e2
  exact hu
theorem OwnS.below {w W : World} {v : Value} {x : SI} (h : OwnS v x w) (hb : Below w.heap.size w W) : OwnS v x W := by
  obtain ⟨u, rfl, o⟩ := h
  exact ⟨u, rfl, own_below o hb⟩
theorem one_szS : szS (ofZ 1) ≤ 1048576 := by have := ofZ_len 1; unfold szS szI; omega
theorem postQb_eq {q Q : QI × Bool} (e : q = Q) {w w' : World} {n : Ending} (h : PostQb q.1 q.2 w n w') : PostQb Q.1 Q.2 w n w' := by rw [← e]; exact h
theorem postn_eq {z z' : Int} (e : z = z') {w w' : World} {n : Ending} (h : Postn z w n w') : Postn z' w n w' := by rw [← e]; exact h
theorem OwnQ.below {w W : World} {v : Value} {x : QI} (h : OwnQ v x w) (hb : Below w.heap.size w W) : OwnQ v x W := by
  obtain ⟨u, d, rfl, o, p, hap⟩ := h
  exact ⟨u, d, rfl, own_below o hb, own_below p hb, hap⟩
set_option maxHeartbeats 2000000 in
set_option maxRecDepth 100000 in
theorem specRatMul_any (vr : Value) (vs : Value) (r s : QI) (w : World) (hzr : szQ r ≤ 1048576) (hzs : szQ s ≤ 1048576) (hr : OwnQ vr r w) (hs : OwnQ vs s w) :
    Calls Tryz.prog 117 #[vr, vs] w (PostQb (mulQ r s).1 (mulQ r s).2 w) := by
  have Hr := Lib.hid hr
  obtain ⟨Ar, cr, Br, dr, rfl⟩ := ownQ_form hr
  have OQr := Lib.hid (show ∀ W, Below w.heap.size w W → OwnQ (.agg #[.bool r.1.1, .slice Ar r.1.2.length cr, .slice Br r.2.length dr]) r W from fun W hb => OwnQ.below Hr.out hb)
  have OUr := Lib.hid (show ∀ W, Below w.heap.size w W → OwnI (.slice Ar r.1.2.length cr) r.1.2 W from fun W hb => (ownQ_open (OQr.out W hb)).2.1)
  have ODr := Lib.hid (show ∀ W, Below w.heap.size w W → OwnI (.slice Br r.2.length dr) r.2 W from fun W hb => (ownQ_open (OQr.out W hb)).2.2.1)
  have OSr := Lib.hid (show ∀ W, Below w.heap.size w W → OwnS (.agg #[.bool r.1.1, .slice Ar r.1.2.length cr]) r.1 W from fun W hb => OwnS.mk (OUr.out W hb))
  clear hr
  have Hs := Lib.hid hs
  obtain ⟨As, cs, Bs, ds, rfl⟩ := ownQ_form hs
  have OQs := Lib.hid (show ∀ W, Below w.heap.size w W → OwnQ (.agg #[.bool s.1.1, .slice As s.1.2.length cs, .slice Bs s.2.length ds]) s W from fun W hb => OwnQ.below Hs.out hb)
  have OUs := Lib.hid (show ∀ W, Below w.heap.size w W → OwnI (.slice As s.1.2.length cs) s.1.2 W from fun W hb => (ownQ_open (OQs.out W hb)).2.1)
  have ODs := Lib.hid (show ∀ W, Below w.heap.size w W → OwnI (.slice Bs s.2.length ds) s.2 W from fun W hb => (ownQ_open (OQs.out W hb)).2.2.1)
  have OSs := Lib.hid (show ∀ W, Below w.heap.size w W → OwnS (.agg #[.bool s.1.1, .slice As s.1.2.length cs]) s.1 W from fun W hb => OwnS.mk (OUs.out W hb))
  clear hs
  have hlr := szQ_len hzr
  have hl1r := hlr.1
  have hl2r := hlr.2
  clear hlr
  have hls := szQ_len hzs
  have hl1s := hls.1
  have hl2s := hls.2
  clear hls
  have bb0 : Below w.heap.size w (((w.alloc (.cells #[.bool r.1.1, .slice Ar r.1.2.length cr, .slice Br r.2.length dr] 36)).alloc (.cells #[.bool s.1.1, .slice As s.1.2.length cs, .slice Bs s.2.length ds] 36)).alloc (.cells #[.bool false, .slice none 0 0, .slice none 0 0] 36)) := below_al (below_al (below_al (Below.refl _ _) _) _) _
  have kr := (box_new w #[.bool r.1.1, .slice Ar r.1.2.length cr, .slice Br r.2.length dr] 36).below (below_al (below_al (Below.refl _ _) (.cells #[.bool s.1.1, .slice As s.1.2.length cs, .slice Bs s.2.length ds] 36)) (.cells #[.bool false, .slice none 0 0, .slice none 0 0] 36))
  have ks := (box_new (w.alloc (.cells #[.bool r.1.1, .slice Ar r.1.2.length cr, .slice Br r.2.length dr] 36)) #[.bool s.1.1, .slice As s.1.2.length cs, .slice Bs s.2.length ds] 36).below (below_al (Below.refl _ _) (.cells #[.bool false, .slice none 0 0, .slice none 0 0] 36))
  rw [show (w.alloc (.cells #[.bool r.1.1, .slice Ar r.1.2.length cr, .slice Br r.2.length dr] 36)).heap.size = w.heap.size + 1 by simp] at ks
  have ko := (box_new ((w.alloc (.cells #[.bool r.1.1, .slice Ar r.1.2.length cr, .slice Br r.2.length dr] 36)).alloc (.cells #[.bool s.1.1, .slice As s.1.2.length cs, .slice Bs s.2.length ds] 36)) #[.bool false, .slice none 0 0, .slice none 0 0] 36)
  rw [show ((w.alloc (.cells #[.bool r.1.1, .slice Ar r.1.2.length cr, .slice Br r.2.length dr] 36)).alloc (.cells #[.bool s.1.1, .slice As s.1.2.length cs, .slice Bs s.2.length ds] 36)).heap.size = w.heap.size + 1 + 1 by simp] at ko
  go_enter Tryz.func117, Tryz.ntmps117
  have kr_c0 := kr.here.cell 0 _ rfl
  have kr_c1 := kr.here.cell 1 _ rfl
  have kr_c2 := kr.here.cell 2 _ rfl
  go_wp2_with fail
  clear kr_c0 kr_c1 kr_c2
  refine (specRatOk_any _ r _ hzr (OQr.out _ bb0)).mono ?_
  rintro e w1 ⟨rfl, b1⟩
  have bb1 := Below.next bb0 b1
  replace kr := kr.below b1
  replace ks := ks.below b1
  replace ko := ko.below b1
  by_cases okr : okQ r = true
  · rw [okr]
    have HOr := Lib.hid okr
    clear okr
    have ks_c0 := ks.here.cell 0 _ rfl
    have ks_c1 := ks.here.cell 1 _ rfl
    have ks_c2 := ks.here.cell 2 _ rfl
    go_wp2_with fail
    clear ks_c0 ks_c1 ks_c2
    refine (specRatOk_any _ s _ hzs (OQs.out _ bb1)).mono ?_
    rintro e w2 ⟨rfl, b2⟩
    have bb2 := Below.next bb1 b2
    replace kr := kr.below b2
    replace ks := ks.below b2
    replace ko := ko.below b2
    by_cases oks : okQ s = true
    · rw [oks]
      have HOs := Lib.hid oks
      clear oks
      have Pr := parts_of HOr.out
      have Ps := parts_of HOs.out
      have HPr := Lib.hid Pr
      have HPs := Lib.hid Ps
      have hnr := Pr.n50
      have hns := Ps.n50
      have hdr := Pr.d50
      have hds := Ps.d50
      have z0 := bb2.size
      have hko := ko.lt (w.heap.size + 1 + 1) (by simp)
      have H1 := Lib.hid (show (limbs (nval (r.1.2) * nval (s.1.2)).toNat).length ≤ 50 by rw [mul_toNat (okS_parts HPr.out.okn).1 (okS_parts HPs.out.okn).1]; exact Nat.le_trans (prod_len HPr.out.nlt HPs.out.nlt) (by decide))
      have H2 := Lib.hid (show (limbs (nval (r.2) * nval (s.2)).toNat).length ≤ 50 by rw [mul_toNat HPr.out.okd HPs.out.okd]; exact Nat.le_trans (prod_len HPr.out.dlt HPs.out.dlt) (by decide))
      have HV := Lib.hid (show mulQ r s = lowQ (!(r.1.1 == s.1.1)) (nval (r.1.2) * nval (s.1.2)).toNat (nval (r.2) * nval (s.2)).toNat by unfold mulQ; rw [if_pos ⟨HOr.out, HOs.out⟩, mul_toNat (okS_parts HPr.out.okn).1 (okS_parts HPs.out.okn).1, mul_toNat HPr.out.okd HPs.out.okd]; rfl)
      clear Pr Ps
      have kr_c0 := kr.here.cell 0 _ rfl
      have kr_c1 := kr.here.cell 1 _ rfl
      have kr_c2 := kr.here.cell 2 _ rfl
      have ks_c0 := ks.here.cell 0 _ rfl
      have ks_c1 := ks.here.cell 1 _ rfl
      have ks_c2 := ks.here.cell 2 _ rfl
      go_wp2_with fail
      have HC0 := Lib.hid (show Chg [w.heap.size + 1 + 1] w2 w2.drew from (Chg.refl _ _).drew1)
      have HCr := Lib.hid (show Chg [w.heap.size + 1 + 1] w2 w2 from Chg.refl _ _)
      have KL := Lib.hid (show ∀ W, Chg [w.heap.size + 1 + 1] w2 W → W.cell? ⟨w.heap.size, 0, none⟩ = some (.bool r.1.1) ∧ W.cell? ⟨w.heap.size, 1, none⟩ = some (.slice Ar r.1.2.length cr) ∧ W.cell? ⟨w.heap.size, 2, none⟩ = some (.slice Br r.2.length dr) ∧ W.cell? ⟨w.heap.size + 1, 0, none⟩ = some (.bool s.1.1) ∧ W.cell? ⟨w.heap.size + 1, 1, none⟩ = some (.slice As s.1.2.length cs) ∧ W.cell? ⟨w.heap.size + 1, 2, none⟩ = some (.slice Bs s.2.length ds) ∧ Hid (Chg [w.heap.size + 1 + 1] w2 W) from fun W hc => ⟨(kr.chg hc (fun i hi hm => by simp at hi hm; omega)).here.cell 0 _ rfl, (kr.chg hc (fun i hi hm => by simp at hi hm; omega)).here.cell 1 _ rfl, (kr.chg hc (fun i hi hm => by simp at hi hm; omega)).here.cell 2 _ rfl, (ks.chg hc (fun i hi hm => by simp at hi hm; omega)).here.cell 0 _ rfl, (ks.chg hc (fun i hi hm => by simp at hi hm; omega)).here.cell 1 _ rfl, (ks.chg hc (fun i hi hm => by simp at hi hm; omega)).here.cell 2 _ rfl, Lib.hid hc⟩)
      have BBF := Lib.hid (show ∀ W, Chg [w.heap.size + 1 + 1] w2 W → Below w.heap.size w W from fun W hc => below_chg bb2 hc bb2.size (fun i hi => by simp at hi; omega))
      clear kr_c0 kr_c1 kr_c2 ks_c0 ks_c1 ks_c2
      go_region_held3 (fun W => W.cell? ⟨w.heap.size, 0, none⟩ = some (.bool r.1.1) ∧ W.cell? ⟨w.heap.size, 1, none⟩ = some (.slice Ar r.1.2.length cr) ∧ W.cell? ⟨w.heap.size, 2, none⟩ = some (.slice Br r.2.length dr) ∧ W.cell? ⟨w.heap.size + 1, 0, none⟩ = some (.bool s.1.1) ∧ W.cell? ⟨w.heap.size + 1, 1, none⟩ = some (.slice As s.1.2.length cs) ∧ W.cell? ⟨w.heap.size + 1, 2, none⟩ = some (.slice Bs s.2.length ds) ∧ Hid (Chg [w.heap.size + 1 + 1] w2 W))
        ((refine KL.out _ ?_; (first | exact HC5.out | exact HC4.out | exact HC3.out | exact HCr.out | exact HC0.out | exact HC5.out.drew1 | exact HC4.out.drew1 | exact HC3.out.drew1 | exact HCr.out.drew1 | exact HC0.out.drew1 | exact HC5.out.trans (Chg.of_below (below_al (Below.refl _ _) _)) | exact HC4.out.trans (Chg.of_below (below_al (Below.refl _ _) _)) | exact HC3.out.trans (Chg.of_below (below_al (Below.refl _ _) _)) | exact HCr.out.trans (Chg.of_below (below_al (Below.refl _ _) _)) | exact HC0.out.trans (Chg.of_below (below_al (Below.refl _ _) _)) | exact (Chg.setCell HC5.out (by simp) _) | exact (Chg.setCell (Chg.setCell HC5.out (by simp) _) (by simp) _) | exact (Chg.setCell (Chg.setCell (Chg.setCell HC5.out (by simp) _) (by simp) _) (by simp) _) | fail)))
        (first
          | (go_at_call 193; (have hBB := (‹_ ∧ _ ∧ _ ∧ _ ∧ _ ∧ _ ∧ Hid (Chg [w.heap.size + 1 + 1] w2 _)›).2.2.2.2.2.2); (with_reducible refine (specMulV_any _ _ (r.1.2) (s.1.2) 0 _ 0 _ _ (by omega) (by omega) (Nat.le_refl _) (Nat.le_refl _) (natOk_parts (okS_parts HPr.out.okn).1).1 (natOk_parts (okS_parts HPs.out.okn).1).1 (OUr.out _ (BBF.out _ hBB.out)).row (OUs.out _ (BBF.out _ hBB.out)).row).mono ?_); rintro e w3 ⟨ua, rfl, oa_, b3⟩; have HC3 := Lib.hid (hBB.out.trans (Chg.of_below b3)); (have ko_3 := At.below (by first | exact ko | exact At.below ko (below_al (Below.refl _ _) _) | exact At.below (At.below ko (below_al (Below.refl _ _) _)) (below_al (Below.refl _ _) _) | exact At.move ko (fun _ _ => rfl) (Nat.le_refl _)) b3); have oa := own_at' oa_; have HBZ3 := Lib.hid hBB.out.size; clear hBB)
          | (go_at_call 193; (have hBB := (‹_ ∧ _ ∧ _ ∧ _ ∧ _ ∧ _ ∧ Hid (Chg [w.heap.size + 1 + 1] w2 _)›).2.2.2.2.2.2); (with_reducible refine (specMulV_any _ _ (r.2) (s.2) 0 _ 0 _ _ (by omega) (by omega) (Nat.le_refl _) (Nat.le_refl _) (natOk_parts HPr.out.okd).1 (natOk_parts HPs.out.okd).1 (ODr.out _ (BBF.out _ hBB.out)).row (ODs.out _ (BBF.out _ hBB.out)).row).mono ?_); rintro e w4 ⟨ub, rfl, ob_, b4⟩; have HC4 := Lib.hid (hBB.out.trans (Chg.of_below b4)); (have ko_4 := At.below (by first | exact ko_3 | exact At.below ko_3 (below_al (Below.refl _ _) _) | exact At.below (At.below ko_3 (below_al (Below.refl _ _) _)) (below_al (Below.refl _ _) _) | exact At.move ko_3 (fun _ _ => rfl) (Nat.le_refl _)) b4); (have oa_4 := At.below (by first | exact oa | exact At.below oa (below_al (Below.refl _ _) _) | exact At.below (At.below oa (below_al (Below.refl _ _) _)) (below_al (Below.refl _ _) _) | exact At.move oa (fun _ _ => rfl) (Nat.le_refl _)) b4); have ob := own_at' ob_; have HBZ4 := Lib.hid hBB.out.size; clear hBB)
          | (go_at_call 192; (have hBB := (‹_ ∧ _ ∧ _ ∧ _ ∧ _ ∧ _ ∧ Hid (Chg [w.heap.size + 1 + 1] w2 _)›).2.2.2.2.2.2); (with_reducible refine (l05Low_any _ _ _ ((nval (r.1.2) * nval (s.1.2)).toNat) ((nval (r.2) * nval (s.2)).toNat) _ H1.out H2.out (At.here (by first | exact oa_4 | exact At.below oa_4 (below_al (Below.refl _ _) _) | exact At.below (At.below oa_4 (below_al (Below.refl _ _) _)) (below_al (Below.refl _ _) _) | exact At.move oa_4 (fun _ _ => rfl) (Nat.le_refl _))) (At.here (by first | exact ob | exact At.below ob (below_al (Below.refl _ _) _) | exact At.below (At.below ob (below_al (Below.refl _ _) _)) (below_al (Below.refl _ _) _) | exact At.move ob (fun _ _ => rfl) (Nat.le_refl _)))).mono ?_); rintro e w5 ⟨uf, Sf, rfl, of, lf, b5⟩; have HC5 := Lib.hid (hBB.out.trans (Chg.of_below b5)); (have ko_5 := At.below (by first | exact ko_4 | exact At.below ko_4 (below_al (Below.refl _ _) _) | exact At.below (At.below ko_4 (below_al (Below.refl _ _) _)) (below_al (Below.refl _ _) _) | exact At.move ko_4 (fun _ _ => rfl) (Nat.le_refl _)) b5); (have oa_5 := At.below (by first | exact oa_4 | exact At.below oa_4 (below_al (Below.refl _ _) _) | exact At.below (At.below oa_4 (below_al (Below.refl _ _) _)) (below_al (Below.refl _ _) _) | exact At.move oa_4 (fun _ _ => rfl) (Nat.le_refl _)) b5); (have ob_5 := At.below (by first | exact ob | exact At.below ob (below_al (Below.refl _ _) _) | exact At.below (At.below ob (below_al (Below.refl _ _) _)) (below_al (Below.refl _ _) _) | exact At.move ob (fun _ _ => rfl) (Nat.le_refl _)) b5); obtain ⟨Af, cf, Bf, df, rfl⟩ := ownQ_form of.here; have cz0 := ko_5.here.cell 0 _ rfl; have fz0 := Lib.frozen_of_heap ko_5.here 0; have cz1 := ko_5.here.cell 1 _ rfl; have fz1 := Lib.frozen_of_heap ko_5.here 1; have cz2 := ko_5.here.cell 2 _ rfl; have fz2 := Lib.frozen_of_heap ko_5.here 2; have HBZ5 := Lib.hid hBB.out.size; clear hBB))
      have bb5 := BBF.out _ HC5.out
      replace kr := kr.chg HC5.out (fun i hi hm => by simp at hi hm; omega)
      replace ks := ks.chg HC5.out (fun i hi hm => by simp at hi hm; omega)
      replace ko := ko_5
      have oa := oa_5
      have ob := ob_5
      have HW := Lib.hid (newQb_at (r := w.heap.size + 1 + 1) (b := (lowQ (!(r.1.1 == s.1.1)) ((nval (r.1.2) * nval (s.1.2)).toNat) ((nval (r.2) * nval (s.2)).toNat)).2) of lf (by have := HBZ5.out; omega) (by omega) bb5)
      clear of ko kr ks oa ob z0 hko
      go_wp2
      refine bodyPost_ret (v := .tuple #[.agg #[.bool _, .slice Af _ cf, .slice Bf _ df], .bool _]) (by simp [results, Tryz.results117, go_sem, cz0, cz1, cz2]; exact ⟨⟨rfl, rfl, rfl⟩, rfl⟩) rfl ?_
      rw [HV.out]
      exact HW.out
    · have oks' : okQ s = false := by simpa using oks
      have HV := Lib.hid (show mulQ r s = (zeroQ, false) by unfold mulQ; rw [if_neg (fun h => oks h.2)])
      rw [oks']
      clear oks oks'
      have ko_c0 := ko.here.cell 0 _ rfl
      have ko_c1 := ko.here.cell 1 _ rfl
      have ko_c2 := ko.here.cell 2 _ rfl
      have cz0 := ko.here.cell 0 _ rfl
      have fz0 := Lib.frozen_of_heap ko.here 0
      have cz1 := ko.here.cell 1 _ rfl
      have fz1 := Lib.frozen_of_heap ko.here 1
      have cz2 := ko.here.cell 2 _ rfl
      have fz2 := Lib.frozen_of_heap ko.here 2
      go_wp2
      refine bodyPost_ret (v := .tuple #[.agg #[.bool false, .slice none 0 0, .slice none 0 0], .bool false]) (by simp [results, Tryz.results117, go_sem, cz0, cz1, cz2]) rfl ?_
      rw [HV.out]
      first | exact newQb_zero _ bb2 | exact newQb_zero _ (below_set3 bb2 (by omega))
  · have okr' : okQ r = false := by simpa using okr
    have HV := Lib.hid (show mulQ r s = (zeroQ, false) by unfold mulQ; rw [if_neg (fun h => okr h.1)])
    rw [okr']
    clear okr okr'
    have ko_c0 := ko.here.cell 0 _ rfl
    have ko_c1 := ko.here.cell 1 _ rfl
    have ko_c2 := ko.here.cell 2 _ rfl
    have cz0 := ko.here.cell 0 _ rfl
    have fz0 := Lib.frozen_of_heap ko.here 0
    have cz1 := ko.here.cell 1 _ rfl
    have fz1 := Lib.frozen_of_heap ko.here 1
    have cz2 := ko.here.cell 2 _ rfl
    have fz2 := Lib.frozen_of_heap ko.here 2
    go_wp2
    refine bodyPost_ret (v := .tuple #[.agg #[.bool false, .slice none 0 0, .slice none 0 0], .bool false]) (by simp [results, Tryz.results117, go_sem, cz0, cz1, cz2]) rfl ?_
    rw [HV.out]
    first | exact newQb_zero _ bb1 | exact newQb_zero _ (below_set3 bb1 (by omega))
set_option maxHeartbeats 2000000 in
set_option maxRecDepth 100000 in
theorem specRatDiv_any (vr : Value) (vs : Value) (r s : QI) (w : World) (hzr : szQ r ≤ 1048576) (hzs : szQ s ≤ 1048576) (hr : OwnQ vr r w) (hs : OwnQ vs s w) :
    Calls Tryz.prog 115 #[vr, vs] w (PostQb (divQ r s).1 (divQ r s).2 w) := by
  have Hr := Lib.hid hr
  obtain ⟨Ar, cr, Br, dr, rfl⟩ := ownQ_form hr
  have OQr := Lib.hid (show ∀ W, Below w.heap.size w W → OwnQ (.agg #[.bool r.1.1, .slice Ar r.1.2.length cr, .slice Br r.2.length dr]) r W from fun W hb => OwnQ.below Hr.out hb)
  have OUr := Lib.hid (show ∀ W, Below w.heap.size w W → OwnI (.slice Ar r.1.2.length cr) r.1.2 W from fun W hb => (ownQ_open (OQr.out W hb)).2.1)
  have ODr := Lib.hid (show ∀ W, Below w.heap.size w W → OwnI (.slice Br r.2.length dr) r.2 W from fun W hb => (ownQ_open (OQr.out W hb)).2.2.1)
  have OSr := Lib.hid (show ∀ W, Below w.heap.size w W → OwnS (.agg #[.bool r.1.1, .slice Ar r.1.2.length cr]) r.1 W from fun W hb => OwnS.mk (OUr.out W hb))
  clear hr
  have Hs := Lib.hid hs
  obtain ⟨As, cs, Bs, ds, rfl⟩ := ownQ_form hs
  have OQs := Lib.hid (show ∀ W, Below w.heap.size w W → OwnQ (.agg #[.bool s.1.1, .slice As s.1.2.length cs, .slice Bs s.2.length ds]) s W from fun W hb => OwnQ.below Hs.out hb)
  have OUs := Lib.hid (show ∀ W, Below w.heap.size w W → OwnI (.slice As s.1.2.length cs) s.1.2 W from fun W hb => (ownQ_open (OQs.out W hb)).2.1)
  have ODs := Lib.hid (show ∀ W, Below w.heap.size w W → OwnI (.slice Bs s.2.length ds) s.2 W from fun W hb => (ownQ_open (OQs.out W hb)).2.2.1)
  have OSs := Lib.hid (show ∀ W, Below w.heap.size w W → OwnS (.agg #[.bool s.1.1, .slice As s.1.2.length cs]) s.1 W from fun W hb => OwnS.mk (OUs.out W hb))
  clear hs
  have hlr := szQ_len hzr
  have hl1r := hlr.1
  have hl2r := hlr.2
  clear hlr
  have hls := szQ_len hzs
  have hl1s := hls.1
  have hl2s := hls.2
  clear hls
  have bb0 : Below w.heap.size w (((w.alloc (.cells #[.bool r.1.1, .slice Ar r.1.2.length cr, .slice Br r.2.length dr] 36)).alloc (.cells #[.bool s.1.1, .slice As s.1.2.length cs, .slice Bs s.2.length ds] 36)).alloc (.cells #[.bool false, .slice none 0 0, .slice none 0 0] 36)) := below_al (below_al (below_al (Below.refl _ _) _) _) _
  have kr := (box_new w #[.bool r.1.1, .slice Ar r.1.2.length cr, .slice Br r.2.length dr] 36).below (below_al (below_al (Below.refl _ _) (.cells #[.bool s.1.1, .slice As s.1.2.length cs, .slice Bs s.2.length ds] 36)) (.cells #[.bool false, .slice none 0 0, .slice none 0 0] 36))
  have ks := (box_new (w.alloc (.cells #[.bool r.1.1, .slice Ar r.1.2.length cr, .slice Br r.2.length dr] 36)) #[.bool s.1.1, .slice As s.1.2.length cs, .slice Bs s.2.length ds] 36).below (below_al (Below.refl _ _) (.cells #[.bool false, .slice none 0 0, .slice none 0 0] 36))
  rw [show (w.alloc (.cells #[.bool r.1.1, .slice Ar r.1.2.length cr, .slice Br r.2.length dr] 36)).heap.size = w.heap.size + 1 by simp] at ks
  have ko := (box_new ((w.alloc (.cells #[.bool r.1.1, .slice Ar r.1.2.length cr, .slice Br r.2.length dr] 36)).alloc (.cells #[.bool s.1.1, .slice As s.1.2.length cs, .slice Bs s.2.length ds] 36)) #[.bool false, .slice none 0 0, .slice none 0 0] 36)
  rw [show ((w.alloc (.cells #[.bool r.1.1, .slice Ar r.1.2.length cr, .slice Br r.2.length dr] 36)).alloc (.cells #[.bool s.1.1, .slice As s.1.2.length cs, .slice Bs s.2.length ds] 36)).heap.size = w.heap.size + 1 + 1 by simp] at ko
  go_enter Tryz.func115, Tryz.ntmps115
  have kr_c0 := kr.here.cell 0 _ rfl
  have kr_c1 := kr.here.cell 1 _ rfl
  have kr_c2 := kr.here.cell 2 _ rfl
  go_wp2_with fail
  clear kr_c0 kr_c1 kr_c2
  refine (specRatOk_any _ r _ hzr (OQr.out _ bb0)).mono ?_
  rintro e w1 ⟨rfl, b1⟩
  have bb1 := Below.next bb0 b1
  replace kr := kr.below b1
  replace ks := ks.below b1
  replace ko := ko.below b1
  by_cases okr : okQ r = true
  · rw [okr]
    have HOr := Lib.hid okr
    clear okr
    have ks_c0 := ks.here.cell 0 _ rfl
    have ks_c1 := ks.here.cell 1 _ rfl
    have ks_c2 := ks.here.cell 2 _ rfl
    go_wp2_with fail
    clear ks_c0 ks_c1 ks_c2
    refine (specRatOk_any _ s _ hzs (OQs.out _ bb1)).mono ?_
    rintro e w2 ⟨rfl, b2⟩
    have bb2 := Below.next bb1 b2
    replace kr := kr.below b2
    replace ks := ks.below b2
    replace ko := ko.below b2
    by_cases oks : okQ s = true
    · rw [oks]
      have HOs := Lib.hid oks
      clear oks
      have Pr := parts_of HOr.out
      have Ps := parts_of HOs.out
      have HPr := Lib.hid Pr
      have HPs := Lib.hid Ps
      have hnr := Pr.n50
      have hns := Ps.n50
      have hdr := Pr.d50
      have hds := Ps.d50
      have z0 := bb2.size
      have hko := ko.lt (w.heap.size + 1 + 1) (by simp)
      have H1 := Lib.hid (show (limbs (nval (r.1.2) * nval (s.2)).toNat).length ≤ 50 by rw [mul_toNat (okS_parts HPr.out.okn).1 HPs.out.okd]; exact Nat.le_trans (prod_len HPr.out.nlt HPs.out.dlt) (by decide))
      have H2 := Lib.hid (show (limbs (nval (r.2) * nval (s.1.2)).toNat).length ≤ 50 by rw [mul_toNat HPr.out.okd (okS_parts HPs.out.okn).1]; exact Nat.le_trans (prod_len HPr.out.dlt HPs.out.nlt) (by decide))
      have HV := Lib.hid (show divQ r s = lowQ (!(r.1.1 == s.1.1)) (nval (r.1.2) * nval (s.2)).toNat (nval (r.2) * nval (s.1.2)).toNat by unfold divQ; rw [if_pos ⟨HOr.out, HOs.out⟩, mul_toNat (okS_parts HPr.out.okn).1 HPs.out.okd, mul_toNat HPr.out.okd (okS_parts HPs.out.okn).1]; rfl)
      clear Pr Ps
      have kr_c0 := kr.here.cell 0 _ rfl
      have kr_c1 := kr.here.cell 1 _ rfl
      have kr_c2 := kr.here.cell 2 _ rfl
      have ks_c0 := ks.here.cell 0 _ rfl
      have ks_c1 := ks.here.cell 1 _ rfl
      have ks_c2 := ks.here.cell 2 _ rfl
      go_wp2_with fail
      have HC0 := Lib.hid (show Chg [w.heap.size + 1 + 1] w2 w2.drew from (Chg.refl _ _).drew1)
      have HCr := Lib.hid (show Chg [w.heap.size + 1 + 1] w2 w2 from Chg.refl _ _)
      have KL := Lib.hid (show ∀ W, Chg [w.heap.size + 1 + 1] w2 W → W.cell? ⟨w.heap.size, 0, none⟩ = some (.bool r.1.1) ∧ W.cell? ⟨w.heap.size, 1, none⟩ = some (.slice Ar r.1.2.length cr) ∧ W.cell? ⟨w.heap.size, 2, none⟩ = some (.slice Br r.2.length dr) ∧ W.cell? ⟨w.heap.size + 1, 0, none⟩ = some (.bool s.1.1) ∧ W.cell? ⟨w.heap.size + 1, 1, none⟩ = some (.slice As s.1.2.length cs) ∧ W.cell? ⟨w.heap.size + 1, 2, none⟩ = some (.slice Bs s.2.length ds) ∧ Hid (Chg [w.heap.size + 1 + 1] w2 W) from fun W hc => ⟨(kr.chg hc (fun i hi hm => by simp at hi hm; omega)).here.cell 0 _ rfl, (kr.chg hc (fun i hi hm => by simp at hi hm; omega)).here.cell 1 _ rfl, (kr.chg hc (fun i hi hm => by simp at hi hm; omega)).here.cell 2 _ rfl, (ks.chg hc (fun i hi hm => by simp at hi hm; omega)).here.cell 0 _ rfl, (ks.chg hc (fun i hi hm => by simp at hi hm; omega)).here.cell 1 _ rfl, (ks.chg hc (fun i hi hm => by simp at hi hm; omega)).here.cell 2 _ rfl, Lib.hid hc⟩)
      have BBF := Lib.hid (show ∀ W, Chg [w.heap.size + 1 + 1] w2 W → Below w.heap.size w W from fun W hc => below_chg bb2 hc bb2.size (fun i hi => by simp at hi; omega))
      clear kr_c0 kr_c1 kr_c2 ks_c0 ks_c1 ks_c2
      go_region_held3 (fun W => W.cell? ⟨w.heap.size, 0, none⟩ = some (.bool r.1.1) ∧ W.cell? ⟨w.heap.size, 1, none⟩ = some (.slice Ar r.1.2.length cr) ∧ W.cell? ⟨w.heap.size, 2, none⟩ = some (.slice Br r.2.length dr) ∧ W.cell? ⟨w.heap.size + 1, 0, none⟩ = some (.bool s.1.1) ∧ W.cell? ⟨w.heap.size + 1, 1, none⟩ = some (.slice As s.1.2.length cs) ∧ W.cell? ⟨w.heap.size + 1, 2, none⟩ = some (.slice Bs s.2.length ds) ∧ Hid (Chg [w.heap.size + 1 + 1] w2 W))
        ((refine KL.out _ ?_; (first | exact HC5.out | exact HC4.out | exact HC3.out | exact HCr.out | exact HC0.out | exact HC5.out.drew1 | exact HC4.out.drew1 | exact HC3.out.drew1 | exact HCr.out.drew1 | exact HC0.out.drew1 | exact HC5.out.trans (Chg.of_below (below_al (Below.refl _ _) _)) | exact HC4.out.trans (Chg.of_below (below_al (Below.refl _ _) _)) | exact HC3.out.trans (Chg.of_below (below_al (Below.refl _ _) _)) | exact HCr.out.trans (Chg.of_below (below_al (Below.refl _ _) _)) | exact HC0.out.trans (Chg.of_below (below_al (Below.refl _ _) _)) | exact (Chg.setCell HC5.out (by simp) _) | exact (Chg.setCell (Chg.setCell HC5.out (by simp) _) (by simp) _) | exact (Chg.setCell (Chg.setCell (Chg.setCell HC5.out (by simp) _) (by simp) _) (by simp) _) | fail)))
        (first
          | (go_at_call 193; (have hBB := (‹_ ∧ _ ∧ _ ∧ _ ∧ _ ∧ _ ∧ Hid (Chg [w.heap.size + 1 + 1] w2 _)›).2.2.2.2.2.2); (with_reducible refine (specMulV_any _ _ (r.1.2) (s.2) 0 _ 0 _ _ (by omega) (by omega) (Nat.le_refl _) (Nat.le_refl _) (natOk_parts (okS_parts HPr.out.okn).1).1 (natOk_parts HPs.out.okd).1 (OUr.out _ (BBF.out _ hBB.out)).row (ODs.out _ (BBF.out _ hBB.out)).row).mono ?_); rintro e w3 ⟨ua, rfl, oa_, b3⟩; have HC3 := Lib.hid (hBB.out.trans (Chg.of_below b3)); (have ko_3 := At.below (by first | exact ko | exact At.below ko (below_al (Below.refl _ _) _) | exact At.below (At.below ko (below_al (Below.refl _ _) _)) (below_al (Below.refl _ _) _) | exact At.move ko (fun _ _ => rfl) (Nat.le_refl _)) b3); have oa := own_at' oa_; have HBZ3 := Lib.hid hBB.out.size; clear hBB)
          | (go_at_call 193; (have hBB := (‹_ ∧ _ ∧ _ ∧ _ ∧ _ ∧ _ ∧ Hid (Chg [w.heap.size + 1 + 1] w2 _)›).2.2.2.2.2.2); (with_reducible refine (specMulV_any _ _ (r.2) (s.1.2) 0 _ 0 _ _ (by omega) (by omega) (Nat.le_refl _) (Nat.le_refl _) (natOk_parts HPr.out.okd).1 (natOk_parts (okS_parts HPs.out.okn).1).1 (ODr.out _ (BBF.out _ hBB.out)).row (OUs.out _ (BBF.out _ hBB.out)).row).mono ?_); rintro e w4 ⟨ub, rfl, ob_, b4⟩; have HC4 := Lib.hid (hBB.out.trans (Chg.of_below b4)); (have ko_4 := At.below (by first | exact ko_3 | exact At.below ko_3 (below_al (Below.refl _ _) _) | exact At.below (At.below ko_3 (below_al (Below.refl _ _) _)) (below_al (Below.refl _ _) _) | exact At.move ko_3 (fun _ _ => rfl) (Nat.le_refl _)) b4); (have oa_4 := At.below (by first | exact oa | exact At.below oa (below_al (Below.refl _ _) _) | exact At.below (At.below oa (below_al (Below.refl _ _) _)) (below_al (Below.refl _ _) _) | exact At.move oa (fun _ _ => rfl) (Nat.le_refl _)) b4); have ob := own_at' ob_; have HBZ4 := Lib.hid hBB.out.size; clear hBB)
          | (go_at_call 192; (have hBB := (‹_ ∧ _ ∧ _ ∧ _ ∧ _ ∧ _ ∧ Hid (Chg [w.heap.size + 1 + 1] w2 _)›).2.2.2.2.2.2); (with_reducible refine (l05Low_any _ _ _ ((nval (r.1.2) * nval (s.2)).toNat) ((nval (r.2) * nval (s.1.2)).toNat) _ H1.out H2.out (At.here (by first | exact oa_4 | exact At.below oa_4 (below_al (Below.refl _ _) _) | exact At.below (At.below oa_4 (below_al (Below.refl _ _) _)) (below_al (Below.refl _ _) _) | exact At.move oa_4 (fun _ _ => rfl) (Nat.le_refl _))) (At.here (by first | exact ob | exact At.below ob (below_al (Below.refl _ _) _) | exact At.below (At.below ob (below_al (Below.refl _ _) _)) (below_al (Below.refl _ _) _) | exact At.move ob (fun _ _ => rfl) (Nat.le_refl _)))).mono ?_); rintro e w5 ⟨uf, Sf, rfl, of, lf, b5⟩; have HC5 := Lib.hid (hBB.out.trans (Chg.of_below b5)); (have ko_5 := At.below (by first | exact ko_4 | exact At.below ko_4 (below_al (Below.refl _ _) _) | exact At.below (At.below ko_4 (below_al (Below.refl _ _) _)) (below_al (Below.refl _ _) _) | exact At.move ko_4 (fun _ _ => rfl) (Nat.le_refl _)) b5); (have oa_5 := At.below (by first | exact oa_4 | exact At.below oa_4 (below_al (Below.refl _ _) _) | exact At.below (At.below oa_4 (below_al (Below.refl _ _) _)) (below_al (Below.refl _ _) _) | exact At.move oa_4 (fun _ _ => rfl) (Nat.le_refl _)) b5); (have ob_5 := At.below (by first | exact ob | exact At.below ob (below_al (Below.refl _ _) _) | exact At.below (At.below ob (below_al (Below.refl _ _) _)) (below_al (Below.refl _ _) _) | exact At.move ob (fun _ _ => rfl) (Nat.le_refl _)) b5); obtain ⟨Af, cf, Bf, df, rfl⟩ := ownQ_form of.here; have cz0 := ko_5.here.cell 0 _ rfl; have fz0 := Lib.frozen_of_heap ko_5.here 0; have cz1 := ko_5.here.cell 1 _ rfl; have fz1 := Lib.frozen_of_heap ko_5.here 1; have cz2 := ko_5.here.cell 2 _ rfl; have fz2 := Lib.frozen_of_heap ko_5.here 2; have HBZ5 := Lib.hid hBB.out.size; clear hBB))
      have bb5 := BBF.out _ HC5.out
      replace kr := kr.chg HC5.out (fun i hi hm => by simp at hi hm; omega)
      replace ks := ks.chg HC5.out (fun i hi hm => by simp at hi hm; omega)
      replace ko := ko_5
      have oa := oa_5
      have ob := ob_5
      have HW := Lib.hid (newQb_at (r := w.heap.size + 1 + 1) (b := (lowQ (!(r.1.1 == s.1.1)) ((nval (r.1.2) * nval (s.2)).toNat) ((nval (r.2) * nval (s.1.2)).toNat)).2) of lf (by have := HBZ5.out; omega) (by omega) bb5)
      clear of ko kr ks oa ob z0 hko
      go_wp2
      refine bodyPost_ret (v := .tuple #[.agg #[.bool _, .slice Af _ cf, .slice Bf _ df], .bool _]) (by simp [results, Tryz.results115, go_sem, cz0, cz1, cz2]; exact ⟨⟨rfl, rfl, rfl⟩, rfl⟩) rfl ?_
      rw [HV.out]
      exact HW.out
    · have oks' : okQ s = false := by simpa using oks
      have HV := Lib.hid (show divQ r s = (zeroQ, false) by unfold divQ; rw [if_neg (fun h => oks h.2)])
      rw [oks']
      clear oks oks'
      have ko_c0 := ko.here.cell 0 _ rfl
      have ko_c1 := ko.here.cell 1 _ rfl
      have ko_c2 := ko.here.cell 2 _ rfl
      have cz0 := ko.here.cell 0 _ rfl
      have fz0 := Lib.frozen_of_heap ko.here 0
      have cz1 := ko.here.cell 1 _ rfl
      have fz1 := Lib.frozen_of_heap ko.here 1
      have cz2 := ko.here.cell 2 _ rfl
      have fz2 := Lib.frozen_of_heap ko.here 2
      go_wp2
      refine bodyPost_ret (v := .tuple #[.agg #[.bool false, .slice none 0 0, .slice none 0 0], .bool false]) (by simp [results, Tryz.results115, go_sem, cz0, cz1, cz2]) rfl ?_
      rw [HV.out]
      first | exact newQb_zero _ bb2 | exact newQb_zero _ (below_set3 bb2 (by omega))
  · have okr' : okQ r = false := by simpa using okr
    have HV := Lib.hid (show divQ r s = (zeroQ, false) by unfold divQ; rw [if_neg (fun h => okr h.1)])
    rw [okr']
    clear okr okr'
    have ko_c0 := ko.here.cell 0 _ rfl
    have ko_c1 := ko.here.cell 1 _ rfl
    have ko_c2 := ko.here.cell 2 _ rfl
    have cz0 := ko.here.cell 0 _ rfl
    have fz0 := Lib.frozen_of_heap ko.here 0
    have cz1 := ko.here.cell 1 _ rfl
    have fz1 := Lib.frozen_of_heap ko.here 1
    have cz2 := ko.here.cell 2 _ rfl
    have fz2 := Lib.frozen_of_heap ko.here 2
    go_wp2
    refine bodyPost_ret (v := .tuple #[.agg #[.bool false, .slice none 0 0, .slice none 0 0], .bool false]) (by simp [results, Tryz.results115, go_sem, cz0, cz1, cz2]) rfl ?_
    rw [HV.out]
    first | exact newQb_zero _ bb1 | exact newQb_zero _ (below_set3 bb1 (by omega))
end Go.Proofs.YtehkknphcflofaaGreatDoor

namespace Go.Proofs.YtehkknphcflofaaGreatDoor
open Go.RowKit

set_option maxHeartbeats 2000000 in
set_option maxRecDepth 100000 in
theorem specRatMake_any (va vb : Value) (a b : SI) (w : World) (hza : szS a ≤ 1048576) (hzb : szS b ≤ 1048576) (ha : OwnS va a w) (hb : OwnS vb b w) :
    Calls Tryz.prog 248 #[va, vb] w (PostQb (makeQ a b).1 (makeQ a b).2 w) := by
  have Ha := Lib.hid ha
  obtain ⟨Aa, ca, rfl⟩ := ownS_form ha
  have OSa := Lib.hid (show ∀ W, Below w.heap.size w W → OwnS (.agg #[.bool a.1, .slice Aa a.2.length ca]) a W from fun W hb => OwnS.below Ha.out hb)
  have OIa := Lib.hid (show ∀ W, Below w.heap.size w W → OwnI (.slice Aa a.2.length ca) a.2 W from fun W hb => ownS_open (OSa.out W hb))
  clear ha
  have Hb := Lib.hid hb
  obtain ⟨Ab, cb, rfl⟩ := ownS_form hb
  have OSb := Lib.hid (show ∀ W, Below w.heap.size w W → OwnS (.agg #[.bool b.1, .slice Ab b.2.length cb]) b W from fun W hb => OwnS.below Hb.out hb)
  have OIb := Lib.hid (show ∀ W, Below w.heap.size w W → OwnI (.slice Ab b.2.length cb) b.2 W from fun W hb => ownS_open (OSb.out W hb))
  clear hb
  have hla : a.2.length ≤ 1048576 := by unfold szS szI at hza; omega
  have hlb : b.2.length ≤ 1048576 := by unfold szS szI at hzb; omega
  clear hza hzb
  have bb0 : Below w.heap.size w (((w.alloc (.cells #[.bool a.1, .slice Aa a.2.length ca] 30)).alloc (.cells #[.bool b.1, .slice Ab b.2.length cb] 30)).alloc (.cells #[.bool false, .slice none 0 0, .slice none 0 0] 36)) := below_al (below_al (below_al (Below.refl _ _) _) _) _
  have ka := (box_new w #[.bool a.1, .slice Aa a.2.length ca] 30).below (below_al (below_al (Below.refl _ _) (.cells #[.bool b.1, .slice Ab b.2.length cb] 30)) (.cells #[.bool false, .slice none 0 0, .slice none 0 0] 36))
  have kb := (box_new (w.alloc (.cells #[.bool a.1, .slice Aa a.2.length ca] 30)) #[.bool b.1, .slice Ab b.2.length cb] 30).below (below_al (Below.refl _ _) (.cells #[.bool false, .slice none 0 0, .slice none 0 0] 36))
  rw [show (w.alloc (.cells #[.bool a.1, .slice Aa a.2.length ca] 30)).heap.size = w.heap.size + 1 by simp] at kb
  have ko := (box_new ((w.alloc (.cells #[.bool a.1, .slice Aa a.2.length ca] 30)).alloc (.cells #[.bool b.1, .slice Ab b.2.length cb] 30)) #[.bool false, .slice none 0 0, .slice none 0 0] 36)
  rw [show ((w.alloc (.cells #[.bool a.1, .slice Aa a.2.length ca] 30)).alloc (.cells #[.bool b.1, .slice Ab b.2.length cb] 30)).heap.size = w.heap.size + 1 + 1 by simp] at ko
  go_enter Tryz.func248, Tryz.ntmps248
  have ka_c0 := ka.here.cell 0 _ rfl
  have ka_c1 := ka.here.cell 1 _ rfl
  go_wp2_with fail
  clear ka_c0 ka_c1
  refine (specIntOk_any _ a _ hla (OwnS.rd (OSa.out _ bb0))).mono ?_
  rintro e w1 ⟨rfl, b1⟩
  have bb1 := Below.next bb0 b1
  replace ka := ka.below b1
  replace kb := kb.below b1
  replace ko := ko.below b1
  by_cases oka : okS a = true
  · rw [oka]
    have HOa := Lib.hid oka
    clear oka
    have kb_c0 := kb.here.cell 0 _ rfl
    have kb_c1 := kb.here.cell 1 _ rfl
    go_wp2_with fail
    clear kb_c0 kb_c1
    refine (specIntOk_any _ b _ hlb (OwnS.rd (OSb.out _ bb1))).mono ?_
    rintro e w2 ⟨rfl, b2⟩
    have bb2 := Below.next bb1 b2
    replace ka := ka.below b2
    replace kb := kb.below b2
    replace ko := ko.below b2
    by_cases okb : okS b = true
    · rw [okb]
      have HOb := Lib.hid okb
      clear okb
      have HKO := Lib.hid (ko.lt (w.heap.size + 1 + 1) (by simp))
      have Ea := Lib.hid (natOk_limbs (okS_parts HOa.out).1)
      have Eb := Lib.hid (natOk_limbs (okS_parts HOb.out).1)
      obtain ⟨Na, hNa⟩ : ∃ Na, (nval a.2).toNat = Na := ⟨_, rfl⟩
      have Ea := Lib.hid (show a.2 = limbs Na by rw [← hNa]; exact natOk_limbs (okS_parts HOa.out).1)
      have La := Lib.hid (show (limbs Na).length ≤ 50 by rw [← Ea.out]; exact (natOk_parts (okS_parts HOa.out).1).2.1)
      obtain ⟨Nb, hNb⟩ : ∃ Nb, (nval b.2).toNat = Nb := ⟨_, rfl⟩
      have Eb := Lib.hid (show b.2 = limbs Nb by rw [← hNb]; exact natOk_limbs (okS_parts HOb.out).1)
      have Lb := Lib.hid (show (limbs Nb).length ≤ 50 by rw [← Eb.out]; exact (natOk_parts (okS_parts HOb.out).1).2.1)
      have HV := Lib.hid (show makeQ a b = lowQ (!(a.1 == b.1)) Na Nb by unfold makeQ; rw [if_pos ⟨HOa.out, HOb.out⟩, hNa, hNb]; rfl)
      clear hNa hNb
      have ka_c0 := ka.here.cell 0 _ rfl
      have ka_c1 := ka.here.cell 1 _ rfl
      have kb_c0 := kb.here.cell 0 _ rfl
      have kb_c1 := kb.here.cell 1 _ rfl
      go_wp2_with fail
      clear ka_c0 ka_c1 kb_c0 kb_c1
      refine (lowX_any _ _ _ a.2 b.2 Na Nb _ La.out Lb.out Ea.out Eb.out (OIa.out _ bb2) (OIb.out _ bb2)).mono ?_
      rintro e w3 ⟨uf, Sf, rfl, of, lf, b3⟩
      obtain ⟨Af, cf, Bf, df, rfl⟩ := ownQ_form of.here
      have bb3 := Below.next bb2 b3
      replace ka := ka.below b3
      replace kb := kb.below b3
      replace ko := ko.below b3
      have HW := Lib.hid (newQb_at (r := w.heap.size + 1 + 1) (b := (lowQ (!(a.1 == b.1)) Na Nb).2) of lf (by have := HKO.out; omega) (by omega) bb3)
      have cz0 := ko.here.cell 0 _ rfl
      have fz0 := Lib.frozen_of_heap ko.here 0
      have cz1 := ko.here.cell 1 _ rfl
      have fz1 := Lib.frozen_of_heap ko.here 1
      have cz2 := ko.here.cell 2 _ rfl
      have fz2 := Lib.frozen_of_heap ko.here 2
      clear of ko
      go_wp2
      refine bodyPost_ret (v := .tuple #[.agg #[.bool _, .slice Af _ cf, .slice Bf _ df], .bool _]) (by simp [results, Tryz.results248, go_sem, cz0, cz1, cz2]; exact ⟨⟨rfl, rfl, rfl⟩, rfl⟩) rfl ?_
      rw [HV.out]
      exact HW.out
    · have okb' : okS b = false := by simpa using okb
      have HV := Lib.hid (show makeQ a b = (zeroQ, false) by unfold makeQ; rw [if_neg (fun h => okb h.2)])
      rw [okb']
      clear okb okb'
      have ko_c0 := ko.here.cell 0 _ rfl
      have ko_c1 := ko.here.cell 1 _ rfl
      have ko_c2 := ko.here.cell 2 _ rfl
      have cz0 := ko.here.cell 0 _ rfl
      have fz0 := Lib.frozen_of_heap ko.here 0
      have cz1 := ko.here.cell 1 _ rfl
      have fz1 := Lib.frozen_of_heap ko.here 1
      have cz2 := ko.here.cell 2 _ rfl
      have fz2 := Lib.frozen_of_heap ko.here 2
      go_wp2
      refine bodyPost_ret (v := .tuple #[.agg #[.bool false, .slice none 0 0, .slice none 0 0], .bool false]) (by simp [results, Tryz.results248, go_sem, cz0, cz1, cz2]) rfl ?_
      rw [HV.out]
      first | exact newQb_zero _ bb2 | exact newQb_zero _ (below_set3 bb2 (by omega))
  · have oka' : okS a = false := by simpa using oka
    have HV := Lib.hid (show makeQ a b = (zeroQ, false) by unfold makeQ; rw [if_neg (fun h => oka h.1)])
    rw [oka']
    clear oka oka'
    have ko_c0 := ko.here.cell 0 _ rfl
    have ko_c1 := ko.here.cell 1 _ rfl
    have ko_c2 := ko.here.cell 2 _ rfl
    have cz0 := ko.here.cell 0 _ rfl
    have fz0 := Lib.frozen_of_heap ko.here 0
    have cz1 := ko.here.cell 1 _ rfl
    have fz1 := Lib.frozen_of_heap ko.here 1
    have cz2 := ko.here.cell 2 _ rfl
    have fz2 := Lib.frozen_of_heap ko.here 2
    go_wp2
    refine bodyPost_ret (v := .tuple #[.agg #[.bool false, .slice none 0 0, .slice none 0 0], .bool false]) (by simp [results, Tryz.results248, go_sem, cz0, cz1, cz2]) rfl ?_
    rw [HV.out]
    first | exact newQb_zero _ bb1 | exact newQb_zero _ (below_set3 bb1 (by omega))
set_option maxHeartbeats 2000000 in
set_option maxRecDepth 100000 in
theorem specRatInt_any (va : Value) (a : SI) (w : World) (hza : szS a ≤ 1048576) (ha : OwnS va a w) :
    Calls Tryz.prog 190 #[va] w (PostQb (makeQ a (ofZ 1)).1 (makeQ a (ofZ 1)).2 w) := by
  have Ha := Lib.hid ha
  obtain ⟨Aa, ca, rfl⟩ := ownS_form ha
  have OSa := Lib.hid (show ∀ W, Below w.heap.size w W → OwnS (.agg #[.bool a.1, .slice Aa a.2.length ca]) a W from fun W hb => OwnS.below Ha.out hb)
  have OIa := Lib.hid (show ∀ W, Below w.heap.size w W → OwnI (.slice Aa a.2.length ca) a.2 W from fun W hb => ownS_open (OSa.out W hb))
  clear ha
  have bb0 : Below w.heap.size w ((w.alloc (.cells #[.bool a.1, .slice Aa a.2.length ca] 30)).alloc (.cells #[.bool false, .slice none 0 0, .slice none 0 0] 36)) := below_al (below_al (Below.refl _ _) _) _
  have ka := (box_new w #[.bool a.1, .slice Aa a.2.length ca] 30).below (below_al (Below.refl _ _) (.cells #[.bool false, .slice none 0 0, .slice none 0 0] 36))
  have ko := (box_new (w.alloc (.cells #[.bool a.1, .slice Aa a.2.length ca] 30)) #[.bool false, .slice none 0 0, .slice none 0 0] 36)
  rw [show (w.alloc (.cells #[.bool a.1, .slice Aa a.2.length ca] 30)).heap.size = w.heap.size + 1 by simp] at ko
  have HKO := Lib.hid (ko.lt (w.heap.size + 1) (by simp))
  obtain ⟨Q, hQ⟩ : ∃ Q, makeQ a (ofZ 1) = Q := ⟨_, rfl⟩
  have EQ := Lib.hid hQ
  rw [hQ]
  clear hQ
  obtain ⟨W0, hW0⟩ : ∃ W0, W0 = ((w.alloc (.cells #[.bool a.1, .slice Aa a.2.length ca] 30)).alloc (.cells #[.bool false, .slice none 0 0, .slice none 0 0] 36)) := ⟨_, rfl⟩
  rw [← hW0] at bb0 ka ko HKO
  have HW0 := Lib.hid hW0
  clear hW0
  have hz0 := HKO.out
  go_enter Tryz.func190, Tryz.ntmps190
  have ka_c0 := ka.here.cell 0 _ rfl
  have ka_c1 := ka.here.cell 1 _ rfl
  go_wp2_with fail
  rw [← HW0.out]
  have HC0 := Lib.hid (show Chg [w.heap.size + 1] W0 W0.drew from (Chg.refl _ _).drew1)
  have HCr := Lib.hid (show Chg [w.heap.size + 1] W0 W0 from Chg.refl _ _)
  have KL := Lib.hid (show ∀ W, Chg [w.heap.size + 1] W0 W → W.cell? ⟨w.heap.size, 0, none⟩ = some (.bool a.1) ∧ W.cell? ⟨w.heap.size, 1, none⟩ = some (.slice Aa a.2.length ca) ∧ Hid (Chg [w.heap.size + 1] W0 W) from fun W hc => ⟨(ka.chg hc (fun i hi hm => by simp at hi hm; omega)).here.cell 0 _ rfl, (ka.chg hc (fun i hi hm => by simp at hi hm; omega)).here.cell 1 _ rfl, Lib.hid hc⟩)
  have BBF := Lib.hid (show ∀ W, Chg [w.heap.size + 1] W0 W → Below w.heap.size w W from fun W hc => below_chg bb0 hc bb0.size (fun i hi => by simp at hi; omega))
  clear ka_c0 ka_c1
  go_region_held3 (fun W => W.cell? ⟨w.heap.size, 0, none⟩ = some (.bool a.1) ∧ W.cell? ⟨w.heap.size, 1, none⟩ = some (.slice Aa a.2.length ca) ∧ Hid (Chg [w.heap.size + 1] W0 W))
    ((refine KL.out _ ?_; (first | exact HC2.out | exact HC1.out | exact HCr.out | exact HC0.out | exact HC2.out.drew1 | exact HC1.out.drew1 | exact HCr.out.drew1 | exact HC0.out.drew1 | exact HC2.out.trans (Chg.of_below (below_al (Below.refl _ _) _)) | exact HC1.out.trans (Chg.of_below (below_al (Below.refl _ _) _)) | exact HCr.out.trans (Chg.of_below (below_al (Below.refl _ _) _)) | exact HC0.out.trans (Chg.of_below (below_al (Below.refl _ _) _)) | exact (Chg.setCell HC2.out (by simp) _) | exact (Chg.setCell (Chg.setCell HC2.out (by simp) _) (by simp) _) | exact (Chg.setCell (Chg.setCell (Chg.setCell HC2.out (by simp) _) (by simp) _) (by simp) _) | fail)))
    (first
      | (go_at_call 70; (have hBB := (‹_ ∧ _ ∧ Hid (Chg [w.heap.size + 1] W0 _)›).2.2); (with_reducible refine ((specIntOf_any 1 _ (by decide) (by decide)).mono fun _ _ h => NewS.newV h).mono ?_); rintro e w1 ⟨ui, Si, rfl, oi, li, b1⟩; have HC1 := Lib.hid (hBB.out.trans (Chg.of_below b1)); (have ko_1 := At.below (by first | exact ko | exact At.below ko (below_al (Below.refl _ _) _) | exact At.below (At.below ko (below_al (Below.refl _ _) _)) (below_al (Below.refl _ _) _) | exact At.move ko (fun _ _ => rfl) (Nat.le_refl _)) b1); obtain ⟨Ai, ci, rfl⟩ := ownS_form oi.here; have HBZ1 := Lib.hid hBB.out.size; clear hBB)
      | (go_at_call 248; (have hBB := (‹_ ∧ _ ∧ Hid (Chg [w.heap.size + 1] W0 _)›).2.2); (with_reducible refine ((specRatMake_any _ _ a (ofZ 1) _ hza one_szS (OSa.out _ (BBF.out _ hBB.out)) (At.here (by first | exact oi | exact At.below oi (below_al (Below.refl _ _) _) | exact At.below (At.below oi (below_al (Below.refl _ _) _)) (below_al (Below.refl _ _) _) | exact At.move oi (fun _ _ => rfl) (Nat.le_refl _)))).mono fun _ _ h => postQb_eq EQ.out h).mono ?_); rintro e w2 ⟨uf, Sf, rfl, of, lf, b2⟩; have HC2 := Lib.hid (hBB.out.trans (Chg.of_below b2)); (have ko_2 := At.below (by first | exact ko_1 | exact At.below ko_1 (below_al (Below.refl _ _) _) | exact At.below (At.below ko_1 (below_al (Below.refl _ _) _)) (below_al (Below.refl _ _) _) | exact At.move ko_1 (fun _ _ => rfl) (Nat.le_refl _)) b2); (have oi_2 := At.below (by first | exact oi | exact At.below oi (below_al (Below.refl _ _) _) | exact At.below (At.below oi (below_al (Below.refl _ _) _)) (below_al (Below.refl _ _) _) | exact At.move oi (fun _ _ => rfl) (Nat.le_refl _)) b2); obtain ⟨Af, cf, Bf, df, rfl⟩ := ownQ_form of.here; have cz0 := ko_2.here.cell 0 _ rfl; have fz0 := Lib.frozen_of_heap ko_2.here 0; have cz1 := ko_2.here.cell 1 _ rfl; have fz1 := Lib.frozen_of_heap ko_2.here 1; have cz2 := ko_2.here.cell 2 _ rfl; have fz2 := Lib.frozen_of_heap ko_2.here 2; have HBZ2 := Lib.hid hBB.out.size; clear hBB))
  have bb2 := BBF.out _ HC2.out
  replace ka := ka.chg HC2.out (fun i hi hm => by simp at hi hm; omega)
  replace ko := ko_2
  have oi := oi_2
  have HW := Lib.hid (newQb_at (r := w.heap.size + 1) (b := Q.2) of lf (by have := HBZ2.out; omega) (by omega) bb2)
  clear of ko ka oi
  go_wp2
  refine bodyPost_ret (v := .tuple #[.agg #[.bool _, .slice Af _ cf, .slice Bf _ df], .bool _]) (by simp [results, Tryz.results190, go_sem, cz0, cz1, cz2]; exact ⟨⟨rfl, rfl, rfl⟩, rfl⟩) rfl ?_
  exact HW.out
end Go.Proofs.YtehkknphcflofaaGreatDoor

namespace Go.Proofs.YtehkknphcflofaaGreatDoor
open Go.RowKit

def ratM (m : MI) : QI := if okM m = true then (makeQ m.2 (ofZ 1)).1 else zeroQ
set_option maxHeartbeats 2000000 in
set_option maxRecDepth 100000 in
theorem specMoneyRat_any (vm : Value) (m : MI) (w : World) (hz : szS m.2 ≤ 1048576) (hm : OwnM vm m w) : Calls Tryz.prog 129 #[vm] w (NewV (fun v => OwnQ v (ratM m)) w) := by
  have Hm := Lib.hid hm
  obtain ⟨Am, cm, rfl⟩ := ownM_form hm
  have OMm := Lib.hid (show ∀ W, Below w.heap.size w W → OwnM (.agg #[.string m.1, .bool m.2.1, .slice Am m.2.2.length cm]) m W from fun W hb => OwnM.below Hm.out hb)
  have OSm := Lib.hid (show ∀ W, Below w.heap.size w W → OwnS (.agg #[.bool m.2.1, .slice Am m.2.2.length cm]) m.2 W from fun W hb => OwnS.mk (ownM_open (OMm.out W hb)))
  clear hm
  have hl : m.2.2.length ≤ 1048576 := by unfold szS szI at hz; omega
  have bb0 : Below w.heap.size w ((w.alloc (.cells #[.string m.1, .bool m.2.1, .slice Am m.2.2.length cm] 32)).alloc (.cells #[.bool false, .slice none 0 0, .slice none 0 0] 36)) := below_al (below_al (Below.refl _ _) _) _
  have km := (box_new w #[.string m.1, .bool m.2.1, .slice Am m.2.2.length cm] 32).below (below_al (Below.refl _ _) (.cells #[.bool false, .slice none 0 0, .slice none 0 0] 36))
  have ko := box_new (w.alloc (.cells #[.string m.1, .bool m.2.1, .slice Am m.2.2.length cm] 32)) #[.bool false, .slice none 0 0, .slice none 0 0] 36
  rw [show (w.alloc (.cells #[.string m.1, .bool m.2.1, .slice Am m.2.2.length cm] 32)).heap.size = w.heap.size + 1 by simp] at ko
  have hko := ko.lt (w.heap.size + 1) (by simp)
  have HKO := Lib.hid hko
  go_enter Tryz.func129, Tryz.ntmps129
  have km_c0 := km.here.cell 0 _ rfl
  have km_c1 := km.here.cell 1 _ rfl
  have km_c2 := km.here.cell 2 _ rfl
  go_wp2_with fail
  clear km_c0 km_c1 km_c2 hko
  refine (specMoneyOk_any _ m _ hl (OMm.out _ bb0)).mono ?_
  rintro e w1 ⟨rfl, b1⟩
  have bb1 := Below.next bb0 b1
  replace km := km.below b1
  replace ko := ko.below b1
  by_cases hk : okM m = true
  · rw [hk]
    have HV := Lib.hid (show ratM m = (makeQ m.2 (ofZ 1)).1 by unfold ratM; rw [if_pos hk])
    clear hk
    have km_c0 := km.here.cell 0 _ rfl
    have km_c1 := km.here.cell 1 _ rfl
    have km_c2 := km.here.cell 2 _ rfl
    go_wp2_with fail
    clear km_c0 km_c1 km_c2
    refine (specRatInt_any _ m.2 _ hz (OSm.out _ bb1)).mono ?_
    generalize makeQ m.2 (ofZ 1) = Q at *
    rintro e w2 ⟨uf, Sf, rfl, of, lf, b2⟩
    obtain ⟨Af, cf, Bf, df, rfl⟩ := ownQ_form of.here
    have bb2 := Below.next bb1 b2
    have al := below_al (Below.refl w2.heap.size w2) (.cells #[.bool Q.1.1.1, .slice Af Q.1.1.2.length cf, .slice Bf Q.1.2.length df] 36)
    have kr := box_new w2 #[.bool Q.1.1.1, .slice Af Q.1.1.2.length cf, .slice Bf Q.1.2.length df] 36
    have z1 := b1.size
    have hz0 := HKO.out
    have HW := Lib.hid (newV_chg (φ := fun v => OwnQ v Q.1) (T := [w.heap.size + 1]) (of.below al) (fun i hi hm => by have := (lf i hi).1; simp at hm; omega) (fun i hi => by simp at hi; omega) (fun i hi => by have := (lf i hi).1; have := bb1.size; omega) (Below.next bb2 al))
    have ko2 := (ko.below b2).below al
    have cz0 := ko2.here.cell 0 _ rfl
    have cz1 := ko2.here.cell 1 _ rfl
    have cz2 := ko2.here.cell 2 _ rfl
    have fz0 := Lib.frozen_of_heap ko2.here 0
    have fz1 := Lib.frozen_of_heap ko2.here 1
    have fz2 := Lib.frozen_of_heap ko2.here 2
    have kr0 := kr.here.cell 0 _ rfl
    have kr1 := kr.here.cell 1 _ rfl
    have kr2 := kr.here.cell 2 _ rfl
    clear ko ko2 of al kr km bb2 b2 hz0
    go_wp2
    refine bodyPost_ret (v := .agg #[.bool Q.1.1.1, .slice Af Q.1.1.2.length cf, .slice Bf Q.1.2.length df]) (by simp [results, Tryz.results129, go_sem, cz0, cz1, cz2]) rfl ?_
    rw [HV.out]
    refine HW.out _ ?_
    repeat (first | exact Chg.refl _ _ | refine Chg.setCell ?_ (by simp) _)
  · have hk' : okM m = false := by simpa using hk
    rw [hk']
    have HV := Lib.hid (show ratM m = zeroQ by unfold ratM; rw [if_neg hk])
    clear hk hk'
    have cz0 := ko.here.cell 0 _ rfl
    have cz1 := ko.here.cell 1 _ rfl
    have cz2 := ko.here.cell 2 _ rfl
    have fz0 := Lib.frozen_of_heap ko.here 0
    have fz1 := Lib.frozen_of_heap ko.here 1
    have fz2 := Lib.frozen_of_heap ko.here 2
    have HW := Lib.hid (newV_chg (φ := fun v => OwnQ v zeroQ) (v := .agg #[.bool false, .slice none 0 0, .slice none 0 0]) (T := [w.heap.size + 1]) (S := []) ⟨⟨_, _, rfl, World.ownsRow_nil _ _ _ _, World.ownsRow_nil _ _ _ _, fun g hg => by cases hg⟩, fun _ hg => absurd hg List.not_mem_nil, fun w' _ => ⟨_, _, rfl, World.ownsRow_nil _ _ _ _, World.ownsRow_nil _ _ _ _, fun g hg => by cases hg⟩⟩ (fun i hi => absurd hi List.not_mem_nil) (fun i hi => by simp at hi; omega) (fun i hi => absurd hi List.not_mem_nil) bb1)
    clear ko km
    go_wp2
    refine bodyPost_ret (v := .agg #[.bool false, .slice none 0 0, .slice none 0 0]) (by simp [results, Tryz.results129, go_sem, cz0, cz1, cz2]) rfl ?_
    rw [HV.out]
    refine HW.out _ ?_
    repeat (first | exact Chg.refl _ _ | refine Chg.setCell ?_ (by simp) _)
end Go.Proofs.YtehkknphcflofaaGreatDoor

namespace Go.Proofs.YtehkknphcflofaaGreatDoor
open Go.RowKit

set_option maxHeartbeats 1000000 in
set_option maxRecDepth 100000 in
theorem specDecOk_any (vd : Value) (d : DI) (w : World) (hl : d.1.2.length ≤ 1048576) (hd : OwnD vd d w) :
    Calls Tryz.prog 236 #[vd] w (Postb (okD d) w) := by
  have Hd := Lib.hid hd
  obtain ⟨Ad, cd, rfl⟩ := ownD_form hd
  have ODd := Lib.hid (show ∀ W, Below w.heap.size w W → OwnD (.agg #[.bool d.1.1, .slice Ad d.1.2.length cd, .int .i64 d.2]) d W from fun W hb => OwnD.below Hd.out hb)
  have OId := Lib.hid (show ∀ W, Below w.heap.size w W → OwnI (.slice Ad d.1.2.length cd) d.1.2 W from fun W hb => ownD_open (ODd.out W hb))
  have OSd := Lib.hid (show ∀ W, Below w.heap.size w W → OwnS (.agg #[.bool d.1.1, .slice Ad d.1.2.length cd]) d.1 W from fun W hb => OwnS.mk (OId.out W hb))
  clear hd
  have bb0 : Below w.heap.size w (w.alloc (.cells #[.bool d.1.1, .slice Ad d.1.2.length cd, .int .i64 d.2] 52)) := below_al (Below.refl _ _) _
  have kd := (box_new w #[.bool d.1.1, .slice Ad d.1.2.length cd, .int .i64 d.2] 52)
  go_enter Tryz.func236, Tryz.ntmps236
  have kd_c0 := kd.here.cell 0 _ rfl
  have kd_c1 := kd.here.cell 1 _ rfl
  have kd_c2 := kd.here.cell 2 _ rfl
  go_wp2_with fail
  clear kd_c0 kd_c1 kd_c2
  refine (specIntOk_any _ d.1 _ hl (OwnS.rd (OSd.out _ bb0))).mono ?_
  rintro e w1 ⟨rfl, b1⟩
  have bb1 := Below.next bb0 b1
  replace kd := kd.below b1
  by_cases ok1 : okS d.1 = true
  · rw [ok1]
    have HO1 := Lib.hid ok1
    clear ok1
    by_cases hs : d.1.2.length ≤ 6
    · have HV0 := Lib.hid (show okD d = decide (0 ≤ d.2 ∧ d.2 ≤ 30) by unfold okD; rw [HO1.out, decide_eq_true hs]; rfl)
      have hs6 : (d.1.2.length : Int) ≤ 6 := by omega
      have hs7 : ¬ (6 : Int) < (d.1.2.length : Int) := by omega
      clear hs
      have kd_c0 := kd.here.cell 0 _ rfl
      have kd_c1 := kd.here.cell 1 _ rfl
      have kd_c2 := kd.here.cell 2 _ rfl
      go_wp2_with fail
      clear kd_c0 kd_c1 kd_c2
      refine (specIn_any d.2 0 30 _ _ rfl).mono ?_
      rintro e w_ ⟨rfl, rfl⟩
      have HV := Lib.hid (show okD d = inB d.2 0 30 from HV0.out)
      generalize inB d.2 0 30 = b at *
      clear kd
      go_wp2
      go_ret
      exact ⟨ret_bool HV.out.symm, bb1⟩
    · have HV := Lib.hid (show okD d = false by unfold okD; rw [decide_eq_false hs, Bool.false_and, Bool.and_false])
      have hs6 : ¬ (d.1.2.length : Int) ≤ 6 := by omega
      have hs7 : (6 : Int) < (d.1.2.length : Int) := by omega
      clear hs
      have kd_c0 := kd.here.cell 0 _ rfl
      have kd_c1 := kd.here.cell 1 _ rfl
      have kd_c2 := kd.here.cell 2 _ rfl
      go_wp2
      go_ret
      exact ⟨ret_bool HV.out.symm, bb1⟩
  · have ok1' : okS d.1 = false := by simpa using ok1
    have HV := Lib.hid (show okD d = false by unfold okD; rw [ok1']; rfl)
    rw [ok1']
    clear ok1 ok1'
    go_wp2
    go_ret
    exact ⟨ret_bool HV.out.symm, bb1⟩
set_option maxHeartbeats 1000000 in
set_option maxRecDepth 100000 in
theorem l07Ten_any (k : Int) (w : World) : Calls Tryz.prog 194 #[.int .i64 k] w (NewV (fun u => OwnS u (tenS k)) w) := by
  have bb0 : Below w.heap.size w (w.alloc (.cells #[.bool false, .slice none 0 0] 30)) := below_al (Below.refl _ _) _
  have ko := (box_new w #[.bool false, .slice none 0 0] 30)
  have HKO := Lib.hid (ko.lt w.heap.size (by simp))
  go_enter Tryz.func194, Tryz.ntmps194
  go_wp2_with fail
  refine (specNatTen_any k _).mono ?_
  rintro e w1 ⟨v, rfl, o0, b1⟩
  obtain ⟨Af, cf, rfl⟩ := own_len o0
  have bb1 := Below.next bb0 b1
  replace ko := ko.below b1
  have of := (own_at' o0).imp (fun _ h => (OwnS.mk h : OwnS (.agg #[.bool (tenS k).1, .slice Af (tenN k).length cf]) (tenS k) _))
  have lf := own_within o0
  clear o0
  have HR := Lib.hid (newV_chg (φ := fun u => OwnS u (tenS k)) (v := .agg #[.bool false, .slice Af (tenN k).length cf]) (T := [w.heap.size]) of (fun i hi hm => by have := lf i hi; have := HKO.out; simp at hm; omega) (fun i hi => by simp at hi; omega) (fun i hi => by have := lf i hi; have := HKO.out; omega) bb1)
  have cz0 := ko.here.cell 0 _ rfl
  have fz0 := Lib.frozen_of_heap ko.here 0
  have cz1 := ko.here.cell 1 _ rfl
  have fz1 := Lib.frozen_of_heap ko.here 1
  clear of ko
  go_wp2
  refine bodyPost_ret (v := .agg #[.bool false, .slice Af (tenN k).length cf]) (by simp [results, Tryz.results194, go_sem, cz0, cz1]) rfl ?_
  refine HR.out _ ?_
  repeat (first | exact Chg.refl _ _ | refine Chg.setCell ?_ (by simp) _)
end Go.Proofs.YtehkknphcflofaaGreatDoor

namespace Go.Proofs.YtehkknphcflofaaGreatDoor
open Go.RowKit

def unitC (n : ByteArray) : QI := if knownC n = true then (tenS (placesC n), [1]) else zeroQ
set_option maxHeartbeats 2000000 in
set_option maxRecDepth 100000 in
theorem specCurUnit_any (n : ByteArray) (w : World) : Calls Tryz.prog 116 #[.string n] w (NewV (fun v => OwnQ v (unitC n)) w) := by
  have ko := box_new w #[.bool false, .slice none 0 0, .slice none 0 0] 36
  have bb0 := below_al (Below.refl w.heap.size w) (.cells #[.bool false, .slice none 0 0, .slice none 0 0] 36)
  have HKO := Lib.hid (ko.lt w.heap.size (by simp))
  obtain ⟨W0, hW0⟩ : ∃ W0, W0 = w.alloc (.cells #[.bool false, .slice none 0 0, .slice none 0 0] 36) := ⟨_, rfl⟩
  rw [← hW0] at ko bb0 HKO
  have HW0 := Lib.hid hW0
  clear hW0
  go_enter Tryz.func116, Tryz.ntmps116
  go_wp2_with fail
  rw [← HW0.out]
  refine (specCurKnown_any n _).mono ?_
  rintro e w1 ⟨rfl, b1⟩
  have bb1 := Below.next bb0 b1
  replace ko := ko.below b1
  by_cases hk : knownC n = true
  · rw [hk]
    have HV := Lib.hid (show unitC n = (tenS (placesC n), [1]) by unfold unitC; rw [if_pos hk])
    clear hk
    go_wp2_with fail
    refine (specCurPlaces_any n _).mono ?_
    rintro e w2 ⟨rfl, b2⟩
    have bb2 := Below.next bb1 b2
    replace ko := ko.below b2
    generalize placesC n = k at *
    go_wp2_with fail
    refine (l07Ten_any k _).mono ?_
    rintro e w3 ⟨us, Ss, rfl, os, ls, b3⟩
    obtain ⟨As, cs, rfl⟩ := ownS_form os.here
    have bb3 := Below.next bb2 b3
    replace ko := ko.below b3
    have al := below_al (Below.refl w3.heap.size w3) (.cells #[.int .i64 1] 3)
    have ob := at_ints_mem os (fun w' h => ownS_open h)
    have z1 := b1.size
    have z2 := b2.size
    have hz := HKO.out
    have oq : At (partsB (.slice As (tenS k).2.length cs) (.slice (some ⟨w3.heap.size, 0, none⟩) 1 1)) (OwnQ (.agg #[.bool (tenS k).1, .slice As (tenS k).2.length cs, .slice (some ⟨w3.heap.size, 0, none⟩) 1 1]) (tenS k, [1])) (w3.alloc (.cells #[.int .i64 1] 3)) :=
      partsQ_at (x := (tenS k, [1])) (B := 0) (C := 0) (own_below (ownS_open os.here) al) ⟨rfl, .inr ⟨w3.heap.size, 1, #[.int .i64 1], rfl, Nat.zero_le _, heap_alloc_new w3 _, Nat.le_refl _, by decide, rfl, rfl⟩⟩
        (fun g hg e => by have h1 := (ls g (ob g hg)).2; have h2 := Option.some.inj (show some w3.heap.size = some g from e); omega)
    have hin : ∀ i ∈ partsB (.slice As (tenS k).2.length cs) (.slice (some ⟨w3.heap.size, 0, none⟩) 1 1), W0.heap.size ≤ i := fun i hi => by
      rcases List.mem_append.1 hi with hi | hi
      · have := (ls i (ob i (by simpa using hi))).1; omega
      · have h2 : i = w3.heap.size := by simpa [Value.ownBlock] using hi
        have := b3.size; omega
    have HW := Lib.hid (newV_chg (φ := fun v => OwnQ v (tenS k, [1])) (T := [w.heap.size]) oq (fun i hi hm => by have := hin i hi; simp at hm; omega) (fun i hi => by simp at hi; omega) (fun i hi => by have := hin i hi; have := bb0.size; omega) (Below.next bb3 al))
    have ko2 := ko.below al
    have cz0 := ko2.here.cell 0 _ rfl
    have cz1 := ko2.here.cell 1 _ rfl
    have cz2 := ko2.here.cell 2 _ rfl
    have fz0 := Lib.frozen_of_heap ko2.here 0
    have fz1 := Lib.frozen_of_heap ko2.here 1
    have fz2 := Lib.frozen_of_heap ko2.here 2
    clear ko ko2 os oq hin ob al bb3 b3
    go_wp2
    refine bodyPost_ret (v := .agg #[.bool (tenS k).1, .slice As (tenS k).2.length cs, .slice (some ⟨w3.heap.size, 0, none⟩) 1 1]) (by simp [results, Tryz.results116, go_sem, cz0, cz1, cz2]) rfl ?_
    rw [HV.out]
    refine HW.out _ ?_
    repeat (first | exact Chg.refl _ _ | refine Chg.setCell ?_ (by simp) _)
  · have hk' : knownC n = false := by simpa using hk
    rw [hk']
    have HV := Lib.hid (show unitC n = zeroQ by unfold unitC; rw [if_neg hk])
    clear hk hk'
    have cz0 := ko.here.cell 0 _ rfl
    have cz1 := ko.here.cell 1 _ rfl
    have cz2 := ko.here.cell 2 _ rfl
    have fz0 := Lib.frozen_of_heap ko.here 0
    have fz1 := Lib.frozen_of_heap ko.here 1
    have fz2 := Lib.frozen_of_heap ko.here 2
    have HW := Lib.hid (newV_chg (φ := fun v => OwnQ v zeroQ) (v := .agg #[.bool false, .slice none 0 0, .slice none 0 0]) (T := [w.heap.size]) (S := []) ⟨⟨_, _, rfl, World.ownsRow_nil _ _ _ _, World.ownsRow_nil _ _ _ _, fun g hg => by cases hg⟩, fun _ hg => absurd hg List.not_mem_nil, fun w' _ => ⟨_, _, rfl, World.ownsRow_nil _ _ _ _, World.ownsRow_nil _ _ _ _, fun g hg => by cases hg⟩⟩ (fun i hi => absurd hi List.not_mem_nil) (fun i hi => by simp at hi; omega) (fun i hi => absurd hi List.not_mem_nil) bb1)
    clear ko
    go_wp2
    refine bodyPost_ret (v := .agg #[.bool false, .slice none 0 0, .slice none 0 0]) (by simp [results, Tryz.results116, go_sem, cz0, cz1, cz2]) rfl ?_
    rw [HV.out]
    refine HW.out _ ?_
    repeat (first | exact Chg.refl _ _ | refine Chg.setCell ?_ (by simp) _)
end Go.Proofs.YtehkknphcflofaaGreatDoor

namespace Go.Proofs.YtehkknphcflofaaGreatDoor
open Go.RowKit

theorem mulQ_zl (x : QI) : mulQ zeroQ x = (zeroQ, false) := by unfold mulQ; rw [if_neg (fun h => by have := h.1; rw [show okQ zeroQ = false from rfl] at this; cases this)]
theorem mulQ_zr (x : QI) : mulQ x zeroQ = (zeroQ, false) := by unfold mulQ; rw [if_neg (fun h => by have := h.2; rw [show okQ zeroQ = false from rfl] at this; cases this)]
theorem divQ_zl (x : QI) : divQ zeroQ x = (zeroQ, false) := by unfold divQ; rw [if_neg (fun h => by have := h.1; rw [show okQ zeroQ = false from rfl] at this; cases this)]
theorem divQ_zr (x : QI) : divQ x zeroQ = (zeroQ, false) := by unfold divQ; rw [if_neg (fun h => by have := h.2; rw [show okQ zeroQ = false from rfl] at this; cases this)]
theorem lowQ_no {n : Bool} {a b : Nat} (h : (lowQ n a b).2 = false) : (lowQ n a b).1 = zeroQ := by
  unfold lowQ at h ⊢
  split
  · rename_i hc
    rw [if_pos hc] at h
    cases h
  · rfl
theorem mulQ_no {r s : QI} (h : (mulQ r s).2 = false) : (mulQ r s).1 = zeroQ := by
  unfold mulQ at h ⊢
  split
  · rename_i hc
    rw [if_pos hc] at h
    exact lowQ_no h
  · rfl
theorem divQ_no {r s : QI} (h : (divQ r s).2 = false) : (divQ r s).1 = zeroQ := by
  unfold divQ at h ⊢
  split
  · rename_i hc
    rw [if_pos hc] at h
    exact lowQ_no h
  · rfl
theorem rmB_zero (c : ByteArray) (m : Int) : rmB c zeroQ m = false := by
  have h : restB zeroQ m = false := by
    unfold restB roundR
    rw [if_neg (fun h => by have := h.1; rw [show okQ zeroQ = false from rfl] at this; cases this)]
    rfl
  unfold rmB
  rw [h]
  rfl
/-- how the point of b and of a lie to each other -/
def facU (a b : ByteArray) : QI := (divQ (unitC b) (unitC a)).1
/-- smallest units of b for one of a -/
def unitR (t : TI) (a b : ByteArray) : QI × Bool := if (rateT t a b).2 = true then mulQ (rateT t a b).1 (facU a b) else (zeroQ, false)
/-- an amount's exact value in smallest units -/
def exactR (t : TI) (m : MI) (c : ByteArray) : QI × Bool := if (unitR t m.1 c).2 = true ∧ okM m = true then mulQ (ratM m) (unitR t m.1 c).1 else (zeroQ, false)
/-- what an amount costs in another currency, before it is rounded -/
def costR (t : TI) (m : MI) (c : ByteArray) : QI × Bool := if (unitR t c m.1).2 = true ∧ okM m = true then divQ (ratM m) (unitR t c m.1).1 else (zeroQ, false)
def needR (t : TI) (m : MI) (c : ByteArray) : MI × Bool := (rmM c (costR t m c).1 3, rmB c (costR t m c).1 3)
theorem rateT_no {t : TI} {a b : ByteArray} (h : ¬ (rateT t a b).2 = true) : (rateT t a b).1 = zeroQ := by
  rw [find_rate] at h ⊢
  have h0 : (findT t a b).2 = 0 := by simpa using h
  show (findT t a b).1 = zeroQ
  unfold findT at h0 ⊢
  split at h0
  · rename_i hk
    rw [if_pos hk]
    split at h0
    · cases h0
    · rename_i hab
      rw [if_neg hab]
      split at h0
      · rename_i hl
        rw [if_pos hl]
        unfold pivT at h0 ⊢
        split at h0
        · rename_i hp
          rw [if_pos hp]
        · cases h0
      · rename_i hl
        exact absurd h0 hl
  · rename_i hk
    rw [if_neg hk]
theorem unit_impl (t : TI) (a b : ByteArray) : mulQ (rateT t a b).1 (facU a b) = unitR t a b := by
  unfold unitR
  by_cases h : (rateT t a b).2 = true
  · rw [if_pos h]
  · rw [if_neg h, rateT_no h, mulQ_zl]
theorem unitR_no {t : TI} {a b : ByteArray} (h : ¬ (unitR t a b).2 = true) : (unitR t a b).1 = zeroQ := by
  rw [← unit_impl] at h ⊢
  exact mulQ_no (by simpa using h)
theorem ratM_no {m : MI} (h : ¬ okM m = true) : ratM m = zeroQ := by unfold ratM; rw [if_neg h]
theorem exact_impl (t : TI) (m : MI) (c : ByteArray) : mulQ (ratM m) (unitR t m.1 c).1 = exactR t m c := by
  unfold exactR
  by_cases h1 : (unitR t m.1 c).2 = true
  · by_cases h2 : okM m = true
    · rw [if_pos ⟨h1, h2⟩]
    · rw [if_neg (fun h => h2 h.2), ratM_no h2, mulQ_zl]
  · rw [if_neg (fun h => h1 h.1), unitR_no h1, mulQ_zr]
theorem cost_impl (t : TI) (m : MI) (c : ByteArray) : divQ (ratM m) (unitR t c m.1).1 = costR t m c := by
  unfold costR
  by_cases h1 : (unitR t c m.1).2 = true
  · by_cases h2 : okM m = true
    · rw [if_pos ⟨h1, h2⟩]
    · rw [if_neg (fun h => h2 h.2), ratM_no h2, divQ_zl]
  · rw [if_neg (fun h => h1 h.1), unitR_no h1, divQ_zr]
theorem costR_no {t : TI} {m : MI} {c : ByteArray} (h : ¬ (costR t m c).2 = true) : (costR t m c).1 = zeroQ := by
  rw [← cost_impl] at h ⊢
  exact divQ_no (by simpa using h)
theorem mulQ_szC (r s : QI) : szQ (mulQ r s).1 ≤ 1048576 := by unfold mulQ; split; exact lowQ_sz _ _ _; decide
theorem divQ_szC (r s : QI) : szQ (divQ r s).1 ≤ 1048576 := by unfold divQ; split; exact lowQ_sz _ _ _; decide
theorem rateT_szC (t : TI) (a b : ByteArray) : szQ (rateT t a b).1 ≤ 1048576 := by rw [find_rate]; exact findT_sz t a b
theorem unitC_szC (n : ByteArray) : szQ (unitC n) ≤ 1048576 := by
  unfold unitC
  split
  · have h := tenN_len (placesC n)
    have e : (tenS (placesC n)).2.length = (tenN (placesC n)).length := rfl
    unfold szQ szS szI
    dsimp only
    rw [e, show ([1] : List Int).length = 1 from rfl]
    omega
  · decide
theorem ratM_szC (a : MI) : szQ (ratM a) ≤ 1048576 := by unfold ratM; split; (unfold makeQ; split; exact lowQ_sz _ _ _; decide); decide
theorem subQ_szC (r s : QI) : szQ (subQ r s).1 ≤ 1048576 := by
  unfold subQ
  split
  · exact (by unfold addQ; split; exact lowQ_sz _ _ _; decide : szQ (addQ r (negQ s).1).1 ≤ 1048576)
  · decide
theorem restQ_szC (r : QI) (m : Int) : szQ (restQ r m) ≤ 1048576 := by unfold restQ; split; exact subQ_szC _ _; decide
theorem rm_szC (c : ByteArray) (r : QI) (m : Int) : szM (rmM c r m) ≤ 1048576 := (rm_sz c r m (restQ_szC r m)).1
theorem rmM_zero (c : ByteArray) (k : Int) : rmM c zeroQ k = zeroM := by unfold rmM; rw [rmB_zero]; rfl
theorem rm_no {c : ByteArray} {Y : QI} {k : Int} {R : MI} (e1 : rmM c Y k = R) (e2 : rmB c Y k = false) : R = zeroM := by rw [← e1]; unfold rmM; rw [e2]; rfl
theorem unitR_sz (t : TI) (a b : ByteArray) : szQ (unitR t a b).1 ≤ 1048576 := by rw [← unit_impl]; exact mulQ_szC _ _
theorem exactR_sz (t : TI) (m : MI) (c : ByteArray) : szQ (exactR t m c).1 ≤ 1048576 := by rw [← exact_impl]; exact mulQ_szC _ _
theorem costR_sz (t : TI) (m : MI) (c : ByteArray) : szQ (costR t m c).1 ≤ 1048576 := by rw [← cost_impl]; exact divQ_szC _ _

end Go.Proofs.YtehkknphcflofaaGreatDoor

namespace Go.Proofs.YtehkknphcflofaaGreatDoor
open Go.RowKit

/-- the words in which the answers of chapter 12 are said -/
theorem postQb_isC {q : QI × Bool} {X : QI} {b : Bool} (e : q = (X, b)) {w w' : World} {n : Ending} (h : PostQb q.1 q.2 w n w') : PostQb X b w n w' := by rw [e] at h; exact h
theorem postMQb_isC {c : ByteArray} {Y : QI} {k : Int} {R : MI} {r : Bool} (e1 : rmM c Y k = R) (e2 : rmB c Y k = r) {w w' : World} {n : Ending} (h : PostMQb (rmM c Y k) (rmQ c Y k) (rmB c Y k) w n w') : PostMQb R (rmQ c Y k) r w n w' := by subst e1 e2; exact h
theorem newQb_chgC {R0 : QI} {R1 : Bool} {S T : List Nat} {v : Value} {w W : World} (o : At S (OwnQ v R0) W) (hd : ∀ i ∈ S, i ∉ T) (hT : ∀ i ∈ T, w.heap.size ≤ i) (l : ∀ i ∈ S, w.heap.size ≤ i) (hW : Below w.heap.size w W) :
    ∀ W', Chg T W W' → PostQb R0 R1 w (.returned (.tuple #[v, .bool R1])) W' :=
  fun _ hc => ⟨v, S, rfl, o.chg hc hd, fun i hi => ⟨l i hi, Nat.lt_of_lt_of_le (o.lt i hi) hc.size⟩, below_chg hW hc hW.size hT⟩
theorem newMb_chgC {R0 : MI} {R1 : Bool} {S T : List Nat} {v : Value} {w W : World} (o : At S (OwnM v R0) W) (hd : ∀ i ∈ S, i ∉ T) (hT : ∀ i ∈ T, w.heap.size ≤ i) (l : ∀ i ∈ S, w.heap.size ≤ i) (hW : Below w.heap.size w W) :
    ∀ W', Chg T W W' → PostMb R0 R1 w (.returned (.tuple #[v, .bool R1])) W' :=
  fun _ hc => ⟨v, S, rfl, o.chg hc hd, fun i hi => ⟨l i hi, Nat.lt_of_lt_of_le (o.lt i hi) hc.size⟩, below_chg hW hc hW.size hT⟩
theorem newQb_zeroC {T : List Nat} {w W : World} (hT : ∀ i ∈ T, w.heap.size ≤ i) (hW : Below w.heap.size w W) : ∀ W', Chg T W W' → PostQb zeroQ false w (.returned (.tuple #[.agg #[.bool false, .slice none 0 0, .slice none 0 0], .bool false])) W' :=
  fun _ hc => newQb_zero false (below_chg hW hc hW.size hT)
theorem newMb_zeroC {T : List Nat} {w W : World} (hT : ∀ i ∈ T, w.heap.size ≤ i) (hW : Below w.heap.size w W) : ∀ W', Chg T W W' → PostMb zeroM false w (.returned (.tuple #[.agg #[.string ⟨#[]⟩, .bool false, .slice none 0 0], .bool false])) W' :=
  fun _ hc => newMb_zero false (below_chg hW hc hW.size hT)
end Go.Proofs.YtehkknphcflofaaGreatDoor

namespace Go.Proofs.YtehkknphcflofaaGreatDoor
open Go.RowKit

set_option maxHeartbeats 2000000 in
set_option maxRecDepth 100000 in
theorem specRateOk_any (vr : Value) (r : EI) (w : World) (hl : r.2.2.1.2.length ≤ 1048576) (hr : OwnE vr r w) :
    Calls Tryz.prog 179 #[vr] w (Postb (okE r) w) := by
  have Hr := Lib.hid hr
  obtain ⟨Ar, cr, rfl⟩ := ownE_form hr
  have OEr := Lib.hid (show ∀ W, Below w.heap.size w W → OwnE (.agg #[.string r.1, .string r.2.1, .bool r.2.2.1.1, .slice Ar r.2.2.1.2.length cr, .int .i64 r.2.2.2]) r W from fun W hb => OwnE.below Hr.out hb)
  have OIr := Lib.hid (show ∀ W, Below w.heap.size w W → OwnI (.slice Ar r.2.2.1.2.length cr) r.2.2.1.2 W from fun W hb => ownE_open (OEr.out W hb))
  have ODr := Lib.hid (show ∀ W, Below w.heap.size w W → OwnD (.agg #[.bool r.2.2.1.1, .slice Ar r.2.2.1.2.length cr, .int .i64 r.2.2.2]) r.2.2 W from fun W hb => OwnD.mk (OIr.out W hb))
  have OSr := Lib.hid (show ∀ W, Below w.heap.size w W → OwnS (.agg #[.bool r.2.2.1.1, .slice Ar r.2.2.1.2.length cr]) r.2.2.1 W from fun W hb => OwnS.mk (OIr.out W hb))
  clear hr
  have bb0 : Below w.heap.size w (w.alloc (.cells #[.string r.1, .string r.2.1, .bool r.2.2.1.1, .slice Ar r.2.2.1.2.length cr, .int .i64 r.2.2.2] 54)) := below_al (Below.refl _ _) _
  have kr := (box_new w #[.string r.1, .string r.2.1, .bool r.2.2.1.1, .slice Ar r.2.2.1.2.length cr, .int .i64 r.2.2.2] 54)
  go_enter Tryz.func179, Tryz.ntmps179
  have kr_c0 := kr.here.cell 0 _ rfl
  have kr_c1 := kr.here.cell 1 _ rfl
  have kr_c2 := kr.here.cell 2 _ rfl
  have kr_c3 := kr.here.cell 3 _ rfl
  have kr_c4 := kr.here.cell 4 _ rfl
  go_wp2_with fail
  clear kr_c0 kr_c1 kr_c2 kr_c3 kr_c4
  refine (specCurKnown_any r.1 _).mono ?_
  rintro e w1 ⟨rfl, b1⟩
  have bb1 := Below.next bb0 b1
  replace kr := kr.below b1
  by_cases ok0 : knownC r.1 = true
  · rw [ok0]
    have HOok0 := Lib.hid ok0
    clear ok0
    have kr_c0 := kr.here.cell 0 _ rfl
    have kr_c1 := kr.here.cell 1 _ rfl
    have kr_c2 := kr.here.cell 2 _ rfl
    have kr_c3 := kr.here.cell 3 _ rfl
    have kr_c4 := kr.here.cell 4 _ rfl
    go_wp2_with fail
    clear kr_c0 kr_c1 kr_c2 kr_c3 kr_c4
    refine (specCurKnown_any r.2.1 _).mono ?_
    rintro e w2 ⟨rfl, b2⟩
    have bb2 := Below.next bb1 b2
    replace kr := kr.below b2
    by_cases ok1 : knownC r.2.1 = true
    · rw [ok1]
      have HOok1 := Lib.hid ok1
      clear ok1
      by_cases ne : r.1 = r.2.1
      · have HV := Lib.hid (show okE r = false by unfold okE; rw [HOok0.out, HOok1.out, decide_eq_false (fun h => h ne : ¬ ¬ r.1 = r.2.1)] <;> rfl)
        have kr_c0 := kr.here.cell 0 _ rfl
        have kr_c1 := kr.here.cell 1 _ rfl
        have kr_c2 := kr.here.cell 2 _ rfl
        have kr_c3 := kr.here.cell 3 _ rfl
        have kr_c4 := kr.here.cell 4 _ rfl
        rw [← ne] at kr_c1
        clear ne hl kr
        have hne1 : (r.1.toList == r.1.toList) = true := beq_self_eq_true _
        have hne2 : (r.1.toList != r.1.toList) = false := by rw [bne, hne1]; rfl
        go_wp2
        go_ret
        exact ⟨ret_bool HV.out.symm, bb2⟩
      · have hne1 := bytes_neC ne
        have hne2 : (r.1.toList != r.2.1.toList) = true := by rw [bne, hne1]; rfl
        have HNE := Lib.hid ne
        clear ne
        have kr_c0 := kr.here.cell 0 _ rfl
        have kr_c1 := kr.here.cell 1 _ rfl
        have kr_c2 := kr.here.cell 2 _ rfl
        have kr_c3 := kr.here.cell 3 _ rfl
        have kr_c4 := kr.here.cell 4 _ rfl
        go_wp2_with fail
        clear kr_c0 kr_c1 kr_c2 kr_c3 kr_c4
        refine (specDecOk_any _ r.2.2 _ hl (ODr.out _ bb2)).mono ?_
        rintro e w3 ⟨rfl, b3⟩
        have bb3 := Below.next bb2 b3
        replace kr := kr.below b3
        clear hne1 hne2
        by_cases ok2 : okD r.2.2 = true
        · rw [ok2]
          have HOok2 := Lib.hid ok2
          clear ok2
          have kr_c0 := kr.here.cell 0 _ rfl
          have kr_c1 := kr.here.cell 1 _ rfl
          have kr_c2 := kr.here.cell 2 _ rfl
          have kr_c3 := kr.here.cell 3 _ rfl
          have kr_c4 := kr.here.cell 4 _ rfl
          go_wp2_with fail
          clear kr_c0 kr_c1 kr_c2 kr_c3 kr_c4
          refine (specIntSign_any _ r.2.2.1 _ hl (OSr.out _ bb3)).mono ?_
          rintro e w4 ⟨rfl, b4⟩
          have bb4 := Below.next bb3 b4
          replace kr := kr.below b4
          have HZ : Hid (okE r = (decide (0 < cmpS r.2.2.1 zeroS) && decide (r.2.2.1.2.length ≤ 2))) := Lib.hid (by unfold okE; rw [HOok0.out, HOok1.out, HOok2.out, decide_eq_true HNE.out] <;> rfl)
          generalize cmpS r.2.2.1 zeroS = z at *
          by_cases ps : 0 < z
          · have HV := Lib.hid (show okE r = decide ((r.2.2.1.2.length : Int) ≤ 2) by rw [HZ.out, decide_eq_true ps, Bool.true_and, decide_eq_decide]; omega)
            have ps1 : decide (0 < z) = true := decide_eq_true ps
            have kr_c0 := kr.here.cell 0 _ rfl
            have kr_c1 := kr.here.cell 1 _ rfl
            have kr_c2 := kr.here.cell 2 _ rfl
            have kr_c3 := kr.here.cell 3 _ rfl
            have kr_c4 := kr.here.cell 4 _ rfl
            clear hl
            go_wp2
            go_ret
            exact ⟨ret_bool HV.out.symm, bb4⟩
          · have HV := Lib.hid (show okE r = false by rw [HZ.out, decide_eq_false ps, Bool.false_and])
            have ps1 : decide (0 < z) = false := decide_eq_false ps
            clear hl kr
            go_wp2
            go_ret
            exact ⟨ret_bool HV.out.symm, bb4⟩
        · have ok2' : okD r.2.2 = false := by simpa using ok2
          have HV := Lib.hid (show okE r = false by unfold okE; rw [HOok0.out, HOok1.out, decide_eq_true HNE.out, ok2'] <;> rfl)
          rw [ok2']
          clear ok2 ok2'
          go_wp2
          go_ret
          exact ⟨ret_bool HV.out.symm, bb3⟩
    · have ok1' : knownC r.2.1 = false := by simpa using ok1
      have HV := Lib.hid (show okE r = false by unfold okE; rw [HOok0.out, ok1'] <;> rfl)
      rw [ok1']
      clear ok1 ok1'
      go_wp2
      go_ret
      exact ⟨ret_bool HV.out.symm, bb2⟩
  · have ok0' : knownC r.1 = false := by simpa using ok0
    have HV := Lib.hid (show okE r = false by unfold okE; rw [ok0'] <;> rfl)
    rw [ok0']
    clear ok0 ok0'
    go_wp2
    go_ret
    exact ⟨ret_bool HV.out.symm, bb1⟩
end Go.Proofs.YtehkknphcflofaaGreatDoor

namespace Go.Proofs.YtehkknphcflofaaGreatDoor
open Go.RowKit

set_option maxHeartbeats 2000000 in
set_option maxRecDepth 100000 in
theorem l10At_any (v : Value) (l : List EI) (p q : ByteArray) (w : World) (hl : l.length ≤ 140737488355328) (h : OwnER w v l) :
    Calls Tryz.prog 180 #[v, .string p, .string q] w (Postn (posE l p q) w) := by
  obtain ⟨A, c, rfl, hc⟩ := h
  have HC := Lib.hid hc
  clear hc
  go_enter Tryz.func180, Tryz.ntmps180
  go_wp2
  go_loopw [11] (fun i wr => ∃ k : Nat, k ≤ l.length ∧ i = .int .i64 k ∧ Hid (k ≤ atE l p q) ∧ Below w.heap.size w wr) (fun i _ => l.length - (intOf i).toNat)
  case atStart => exact ⟨0, Nat.zero_le _, rfl, Lib.hid (Nat.zero_le _), Below.refl _ _⟩
  case round =>
    obtain ⟨k, hk, rfl, HK, hb⟩ := hrel
    by_cases hlt : k < l.length
    · obtain ⟨x, hxk⟩ : ∃ x, l[k]? = some x := ⟨_, List.getElem?_eq_getElem hlt⟩
      obtain ⟨a, u, rfl, ha, hc0, hc1, hc2, hc3, hc4, hr⟩ := HC.out k x hxk
      obtain ⟨A1, c1, rfl⟩ := own_len hr
      have k0 := (cell_keep5' hb ha k).trans hc0
      have k1 := (cell_keep5 hb ha k 1).trans hc1
      have k2 := (cell_keep5 hb ha k 2).trans hc2
      have k3 := (cell_keep5 hb ha k 3).trans hc3
      have k4 := (cell_keep5 hb ha k 4).trans hc4
      have hbx := below_al (Below.refl wr.heap.size wr) (.cells #[.string x.1, .string x.2.1, .bool x.2.2.1.1, .slice A1 x.2.2.1.2.length c1, .int .i64 x.2.2.2] 54)
      have kx := box_new wr #[.string x.1, .string x.2.1, .bool x.2.2.1.1, .slice A1 x.2.2.1.2.length c1, .int .i64 x.2.2.2] 54
      have cx0 := kx.here.cell 0 _ rfl
      have cx1 := kx.here.cell 1 _ rfl
      have HB := Lib.hid (Below.next hb hbx)
      clear kx hbx hb hc0 hc1 hc2 hc3 hc4 hr
      by_cases h1 : x.1 = p
      · by_cases h2 : x.2.1 = q
        · have HV := Lib.hid (posE_hit HK.out hxk ⟨h1, h2⟩)
          have e1 : (x.1.toList == p.toList) = true := by rw [h1]; exact beq_self_eq_true _
          have e2 : (x.2.1.toList == q.toList) = true := by rw [h2]; exact beq_self_eq_true _
          clear h1 h2 hxk
          go_wp2
          go_ret
          exact ⟨ret_int HV.out.symm, HB.out⟩
        · have HN := Lib.hid (atE_next HK.out hxk (fun e => h2 e.2))
          have e1 : (x.1.toList == p.toList) = true := by rw [h1]; exact beq_self_eq_true _
          have e2 := bytes_neC h2
          clear h1 h2 hxk
          go_wp2
          go_roundw
          case rel => exact ⟨k + 1, by omega, by go_num, HN, HB.out⟩
          case measure => simp [intOf]; omega
      · have HN := Lib.hid (atE_next HK.out hxk (fun e => h1 e.1))
        have e1 := bytes_neC h1
        clear h1 hxk
        go_wp2
        go_roundw
        case rel => exact ⟨k + 1, by omega, by go_num, HN, HB.out⟩
        case measure => simp [intOf]; omega
    · obtain rfl : k = l.length := by omega
      have HV := Lib.hid (posE_none HK.out)
      go_wp2
      go_ret
      exact ⟨ret_int HV.out.symm, hb⟩
/-- a table that reads so, its list's limbs of the call's own -/
def OwnTR (w : World) (v : Value) (t : TI) : Prop := ∃ u, v = .agg #[.string t.1, u] ∧ OwnER w u t.2
theorem OwnT.ownR {v : Value} {t : TI} {w : World} (h : OwnT v t w) : OwnTR w v t := by
  obtain ⟨u, rfl, o⟩ := h
  exact ⟨u, rfl, o.ownR⟩
theorem OwnTR.below {w w' : World} {v : Value} {t : TI} (h : OwnTR w v t) (hb : Below w.heap.size w w') : OwnTR w' v t := by
  obtain ⟨u, rfl, o⟩ := h
  exact ⟨u, rfl, o.below hb⟩
theorem ownTR_form {v : Value} {t : TI} {w : World} (h : OwnTR w v t) : ∃ A c, v = .agg #[.string t.1, .slice A t.2.length c] ∧ OwnER w (.slice A t.2.length c) t.2 := by
  obtain ⟨u, rfl, o⟩ := h
  obtain ⟨A, c, rfl, hc⟩ := o
  exact ⟨A, c, rfl, A, c, rfl, hc⟩
set_option maxHeartbeats 4000000 in
set_option maxRecDepth 100000 in
theorem specRatesOk_any (v : Value) (t : TI) (w : World) (hl : t.2.length ≤ 1099511627776) (hx : ∀ x ∈ t.2, x.2.2.1.2.length ≤ 1048576) (h : OwnTR w v t) :
    Calls Tryz.prog 104 #[v] w (Postb (okT t) w) := by
  obtain ⟨A, c, rfl, hr⟩ := ownTR_form h
  have HR := Lib.hid hr
  clear h hr
  have bb0 : Below w.heap.size w (w.alloc (.cells #[.string t.1, .slice A t.2.length c] 25)) := below_al (Below.refl _ _) _
  have kt := box_new w #[.string t.1, .slice A t.2.length c] 25
  go_enter Tryz.func104, Tryz.ntmps104
  have kt_c0 := kt.here.cell 0 _ rfl
  have kt_c1 := kt.here.cell 1 _ rfl
  go_wp2_with fail
  clear kt_c0 kt_c1
  refine (specCurKnown_any t.1 _).mono ?_
  rintro e w1 ⟨rfl, b1⟩
  have bb1 := Below.next bb0 b1
  replace kt := kt.below b1
  by_cases ok0 : knownC t.1 = true
  · rw [ok0]
    have HO0 := Lib.hid ok0
    clear ok0
    by_cases hn : t.2.length ≤ 12
    · have hn1 : ¬ (12 : Int) < (t.2.length : Int) := by omega
      have HN := Lib.hid hn
      have HREL := Lib.hid (show ∃ k : Nat, k ≤ t.2.length ∧ Value.int .i64 0 = .int .i64 k ∧ Hid ((List.range k).all (rowT t.2) = true) ∧ At [w.heap.size] (BoxAt w.heap.size #[.string t.1, .slice A t.2.length c] 25) w1 ∧ Below w.heap.size w w1 from ⟨0, Nat.zero_le _, rfl, Lib.hid rfl, kt, bb1⟩)
      have kt_c0 := kt.here.cell 0 _ rfl
      have kt_c1 := kt.here.cell 1 _ rfl
      clear kt bb0 bb1 b1 hn
      go_wp2
      clear kt_c0 kt_c1
      go_loopw [18] (fun i wr => ∃ k : Nat, k ≤ t.2.length ∧ i = .int .i64 k ∧ Hid ((List.range k).all (rowT t.2) = true) ∧ At [w.heap.size] (BoxAt w.heap.size #[.string t.1, .slice A t.2.length c] 25) wr ∧ Below w.heap.size w wr) (fun i _ => t.2.length - (intOf i).toNat)
      case atStart => exact HREL.out
      case round =>
        clear HREL
        obtain ⟨k, hk, rfl, HK, kt, hb⟩ := hrel
        by_cases hlt : k < t.2.length
        · obtain ⟨x, hxk⟩ : ∃ x, t.2[k]? = some x := ⟨_, List.getElem?_eq_getElem hlt⟩
          have hrb := HR.out.below hb
          obtain ⟨A', c', e', hc'⟩ := hrb
          obtain ⟨a, u, ea, ha, hc0, hc1, hc2, hc3, hc4, hr⟩ := hc' k x hxk
          have e0 : A = A' := by injection e' with e1 e2 e3
          subst e0
          subst ea
          obtain ⟨A1, c1, rfl⟩ := own_len hr
          have hxl := hx x (List.mem_of_getElem? hxk)
          have HRX := Lib.hid (rowT_at hxk)
          have hbx := below_al (Below.refl wr.heap.size wr) (.cells #[.string x.1, .string x.2.1, .bool x.2.2.1.1, .slice A1 x.2.2.1.2.length c1, .int .i64 x.2.2.2] 54)
          have kx := box_new wr #[.string x.1, .string x.2.1, .bool x.2.2.1.1, .slice A1 x.2.2.1.2.length c1, .int .i64 x.2.2.2] 54
          have OX := Lib.hid (show ∀ W, Below (wr.alloc (.cells #[.string x.1, .string x.2.1, .bool x.2.2.1.1, .slice A1 x.2.2.1.2.length c1, .int .i64 x.2.2.2] 54)).heap.size (wr.alloc (.cells #[.string x.1, .string x.2.1, .bool x.2.2.1.1, .slice A1 x.2.2.1.2.length c1, .int .i64 x.2.2.2] 54)) W → OwnE (.agg #[.string x.1, .string x.2.1, .bool x.2.2.1.1, .slice A1 x.2.2.1.2.length c1, .int .i64 x.2.2.2]) x W from fun W h => OwnE.mk (own_below (own_below hr hbx) h))
          have bb := Below.next hb hbx
          have HRB := Lib.hid (show ∀ W, Below w.heap.size w W → OwnER W (.slice (some a) t.2.length c) t.2 from fun W h => HR.out.below h)
          replace kt := kt.below hbx
          have cx0 := kx.here.cell 0 _ rfl
          have cx1 := kx.here.cell 1 _ rfl
          have cx2 := kx.here.cell 2 _ rfl
          have cx3 := kx.here.cell 3 _ rfl
          have cx4 := kx.here.cell 4 _ rfl
          clear hb hbx hr hc' e' ha
          have hlt' := hlt
          go_wp2_with fail
          clear cx0 cx1 cx2 cx3 cx4 hc0 hc1 hc2 hc3 hc4
          refine (specRateOk_any _ x _ hxl (OX.out _ (Below.refl _ _))).mono ?_
          rintro e w2 ⟨rfl, b2⟩
          have bb2 := Below.next bb b2
          replace kx := kx.below b2
          replace kt := kt.below b2
          by_cases okx : okE x = true
          · rw [okx]
            have HOX := Lib.hid okx
            have cx0 := kx.here.cell 0 _ rfl
            have cx1 := kx.here.cell 1 _ rfl
            have kt_c0 := kt.here.cell 0 _ rfl
            have kt_c1 := kt.here.cell 1 _ rfl
            have HB2 := Lib.hid bb2
            clear okx b2 bb bb2 kx
            go_wp2_with fail
            clear cx0 cx1 kt_c0 kt_c1
            refine (l10At_any _ t.2 x.1 x.2.1 _ (by omega) (HRB.out _ HB2.out)).mono ?_
            rintro e w3 ⟨rfl, b3⟩
            have bb3 := Lib.hid (Below.next HB2.out b3)
            have KT := Lib.hid (kt.below b3)
            clear kt b3
            by_cases hp : posE t.2 x.1 x.2.1 = k
            · have HNX := Lib.hid (rows_next HK.out (by rw [HRX.out, HOX.out, decide_eq_true hp]; rfl))
              rw [hp]
              clear hp
              go_wp2
              go_roundw
              case rel => exact ⟨k + 1, by omega, by go_num, HNX, KT.out, bb3.out⟩
              case measure => simp [intOf]; omega
            · have HV := Lib.hid (show okT t = false by rw [okT_rows, rows_bad hlt (by rw [HRX.out, decide_eq_false hp, Bool.and_false]; simp), Bool.and_false, Bool.and_false])
              have hne : (posE t.2 x.1 x.2.1 != (k : Int)) = true := by simpa using hp
              clear hp HRX
              generalize posE t.2 x.1 x.2.1 = z at *
              go_wp2
              go_ret
              exact ⟨ret_bool HV.out.symm, bb3.out⟩
          · have okx' : okE x = false := by simpa using okx
            have HV := Lib.hid (show okT t = false by rw [okT_rows, rows_bad hlt (by rw [HRX.out, okx', Bool.false_and]; simp), Bool.and_false, Bool.and_false])
            rw [okx']
            clear okx okx' kx kt b2 bb
            go_wp2
            go_ret
            exact ⟨ret_bool HV.out.symm, bb2⟩
        · obtain rfl : k = t.2.length := by omega
          have HV := Lib.hid (show okT t = true by rw [okT_rows, HO0.out, decide_eq_true HN.out, HK.out]; rfl)
          go_wp2
          go_ret
          exact ⟨ret_bool HV.out.symm, hb⟩
    · have hn1 : (12 : Int) < (t.2.length : Int) := by omega
      have HV := Lib.hid (show okT t = false by rw [okT_rows, decide_eq_false hn, Bool.false_and, Bool.and_false])
      have kt_c0 := kt.here.cell 0 _ rfl
      have kt_c1 := kt.here.cell 1 _ rfl
      clear kt bb0 b1 hn
      go_wp2
      go_ret
      exact ⟨ret_bool HV.out.symm, bb1⟩
  · have ok0' : knownC t.1 = false := by simpa using ok0
    have HV := Lib.hid (show okT t = false by rw [okT_rows, ok0', Bool.false_and])
    rw [ok0']
    clear ok0 ok0' kt
    go_wp2
    go_ret
    exact ⟨ret_bool HV.out.symm, bb1⟩
end Go.Proofs.YtehkknphcflofaaGreatDoor

namespace Go.Proofs.YtehkknphcflofaaGreatDoor
open Go.RowKit

theorem digB_true {d : Int} (h : digB d = true) : 0 ≤ d ∧ d ≤ 999999999 := of_decide_eq_true h
theorem digB_false {d : Int} (h : digB d = false) : ¬ (0 ≤ d ∧ d ≤ 999999999) := of_decide_eq_false h

set_option maxHeartbeats 400000 in
set_option maxRecDepth 100000 in
theorem implNatOk_same (v : Value) (xs : List Int) (lo hi : Nat) (w : World) (hl : xs.length ≤ 9223372036854775807) (hr : Row w lo hi v (intsV xs)) :
    Calls Tryz.prog 209 #[v] w fun e w' => e = .returned (.bool (natOkB xs)) ∧ w = w' := by
  obtain ⟨A, c, rfl, hA⟩ := hr
  have HA := Lib.hid hA
  rw [intsV_length]
  clear hA
  by_cases h50 : xs.length ≤ 50
  · go_enter Tryz.func209, Tryz.ntmps209
    go_wp2
    go_loop [10] (fun i => ∃ k : Nat, k ≤ xs.length ∧ i = .int .i64 k ∧ Hid ((xs.take k).all digB = true)) (fun i => xs.length - (intOf i).toNat)
    case atStart => exact ⟨0, Nat.zero_le _, rfl, Lib.hid rfl⟩
    case round =>
      obtain ⟨k, hk, rfl, HD⟩ := hrel
      by_cases hlt : k < xs.length
      · obtain ⟨a, rfl, _, _, hca⟩ := HA.out k _ (intsV_at xs k hlt)
        by_cases hd : digB xs[k] = true
        · have HS := Lib.hid (all_succ xs k hlt HD.out hd)
          have hd2 := digB_true hd
          have hd3 := hd2.1
          have hd4 := hd2.2
          clear hd2 hd
          go_wp2
          go_round
          case rel => exact ⟨k + 1, by omega, by go_num, HS⟩
          case measure => simp [intOf]; omega
        · have hd' : digB xs[k] = false := by simpa using hd
          have HN := Lib.hid (not_all xs k hlt hd')
          have hd2 := digB_false hd'
          by_cases hneg : xs[k] < 0
          · go_wp2
            go_ret
            exact ⟨ret_bool HN.out.symm, rfl⟩
          · have hbig : 1000000000 ≤ xs[k] := by omega
            go_wp2
            go_ret
            exact ⟨ret_bool HN.out.symm, rfl⟩
      · have HF := Lib.hid (all_upto xs k HD.out hlt)
        by_cases h0 : xs.length = 0
        · have hz : ((xs.length : Int) == 0) = true := by simp [h0]
          obtain rfl : xs = [] := List.eq_nil_of_length_eq_zero h0
          clear h0
          go_wp2
          go_ret
          exact ⟨rfl, rfl⟩
        · have hz : ((xs.length : Int) == 0) = false := by rw [beq_eq_false_iff_ne]; omega
          have hlt2 : xs.length - 1 < xs.length := by omega
          obtain ⟨a, rfl, _, _, hca⟩ := HA.out (xs.length - 1) _ (intsV_at xs (xs.length - 1) hlt2)
          have HL := Lib.hid (ok_last xs HF.out h50 hlt2)
          clear h0
          go_wp2
          go_ret
          exact ⟨ret_bool HL.out, rfl⟩
  · have HN := Lib.hid (ok_long xs h50)
    go_enter Tryz.func209, Tryz.ntmps209
    go_wp2
    go_ret
    exact ⟨ret_bool HN.out.symm, rfl⟩
set_option maxHeartbeats 400000 in
set_option maxRecDepth 100000 in
theorem implNatOf_any (n : Int) (w : World) (h1 : n ≤ 9223372036854775807) :
    Calls Tryz.prog 166 #[.int .i64 n] w (NewInts (limbs n.toNat) w) := by
  obtain ⟨i0, hi, hz0, hz1, hz2⟩ := info_parts intInfo
  go_enter Tryz.func166, Tryz.ntmps166
  go_wp2
  go_loopw [0, 3] (fun a v wr => ∃ (m : Int) (out : List Int) (f : Nat), m ≤ 9223372036854775807 ∧ out.length + f ≤ 3 ∧ m < 1000000000 ^ f ∧ a = .int .i64 m ∧ Hid (out ++ limbs m.toNat = limbs n.toNat) ∧ wr.ownsRow w.heap.size 3 1 v out.length (intsV out) ∧ Below w.heap.size w wr) (fun a _ _ => (intOf a).toNat)
  case atStart => exact ⟨n, [], 3, h1, by simp, by omega, rfl, Lib.hid rfl, World.ownsRow_nil _ _ _ _, Below.refl _ _⟩
  case round =>
    obtain ⟨m, out, f, hm, hol, hmf, rfl, HE, hown, hb1⟩ := hrel
    by_cases h0 : 0 < m
    · obtain ⟨g, rfl⟩ : ∃ g, f = g + 1 := by
        cases f with
        | zero => simp at hmf; omega
        | succ g => exact ⟨g, rfl⟩
      have hmg : m / 1000000000 < 1000000000 ^ g := by
        rw [Int.pow_succ] at hmf
        exact Int.ediv_lt_of_lt_mul (by omega) hmf
      have HS : Hid (out ++ [m % 1000000000] ++ limbs (m / 1000000000).toNat = limbs n.toNat) := Lib.hid (by
        have e := HE.out
        rw [limbs_pos m.toNat (by omega)] at e
        rw [List.append_assoc, ← e, show ((m.toNat % 1000000000 : Nat) : Int) = m % 1000000000 from by omega, show m.toNat / 1000000000 = (m / 1000000000).toNat from by omega]
        rfl)
      clear hmf
      go_wp2_with (at_builtin; refine wpList_append_own _ rfl (.tmp 8) (.tmp 11) 28 rfl w.heap.size 3 i0 (.int .i64 0) 1 8 Tryz.underlying28 hi hz0 hz1 hz2 rfl (by decide) _ _ _ rfl (own_alloc hown _) ⟨wr.heap.size, 0, none⟩ 1 1 [.int .i64 (m % 1000000000)] rfl rfl (one_new _ _ _) ?c2 ?c3 ?c4 ?c5 ?_)
      case c2 => first | (intro u hu; simp at hu; subst hu; rfl) | rfl
      case c3 => unfold maxLen; omega
      case c4 => omega
      case c5 => have := hb1.size; simp; omega
      intro v1 w1 hown1 hg1 _
      have hb2 := below_push hb1 (Nat.le_refl _) hown hg1
      go_wp2
      exact ⟨⟨m / 1000000000, out ++ [m % 1000000000], g, by omega, by simp; omega, hmg, rfl, HS, by simpa [intsV] using hown1, hb2⟩, by simp [intOf]; omega⟩
    · have HF : Hid (out = limbs n.toNat) := Lib.hid (by have e := HE.out; rwa [show m.toNat = 0 from by omega, limbs_none, List.append_nil] at e)
      go_wp2
      go_ret
      exact ⟨_, rfl, by rw [← HF.out]; exact hown, hb1⟩

/-- a callee that only computes, met inside a region that draws -/
theorem quiet_at {P : Program} {f : FuncId} {args : Array Value} {W : World} {X : Nat → World} {n : Nat} {v : Value} (hX : X n = W)
    (h : Calls P f args W fun e w' => e = .returned v ∧ W = w') : Calls P f args W fun e w'' => e = .returned v ∧ ∃ m, w'' = X m :=
  h.mono fun _ _ ⟨he, hm⟩ => ⟨he, n, hm.symm.trans hX.symm⟩

set_option maxHeartbeats 400000 in
set_option maxRecDepth 100000 in
theorem isNaN_any (x : Int) (w : World) : Calls Tryz.prog 261 #[.int .i64 x] w fun e w' => e = .returned (.bool false) ∧ w = w' := by
  go_enter Tryz.func261, Tryz.ntmps261
  go_wp2
  go_ret
  exact ⟨by simp, rfl⟩
set_option maxHeartbeats 400000 in
set_option maxRecDepth 100000 in
theorem compare_any (x y : Int) (w : World) : Calls Tryz.prog 214 #[.int .i64 x, .int .i64 y] w fun e w' => e = .returned (.int .i64 (cmpI x y)) ∧ w = w' := by
  go_enter Tryz.func214, Tryz.ntmps214
  go_wp2_with (go_at_call 261; refine (isNaN_any _ _).mono ?_; rintro e w' ⟨rfl, rfl⟩)
  all_goals (go_ret; refine ⟨?_, rfl⟩; unfold cmpI; (repeat' split) <;> first | rfl | (exfalso; omega))

set_option maxHeartbeats 1000000 in
set_option maxRecDepth 100000 in
theorem compareLimbs_any (va vb : Value) (a b : List Int) (la ha lb hb : Nat) (w : World) (hal : a.length ≤ 9223372036854775807) (_hbl : b.length ≤ 9223372036854775807) (oa : DigN a ∧ a.getLastD 1 ≠ 0) (ob : DigN b ∧ b.getLastD 1 ≠ 0)
    (hra : Row w la ha va (intsV a)) (hrb : Row w lb hb vb (intsV b)) :
    Calls Tryz.prog 154 #[va, vb] w fun e w' => e = .returned (.int .i64 (cmpI (nval a) (nval b))) ∧ ∃ q, w.drewN q = w' := by
  have OA := Lib.hid oa
  have OB := Lib.hid ob
  obtain ⟨A, c, rfl, hA⟩ := hra
  obtain ⟨B, d, rfl, hB⟩ := hrb
  rw [intsV_length]
  rw [intsV_length]
  have HA := Lib.hid hA
  have HB := Lib.hid hB
  clear hA hB oa ob
  by_cases hlen : a.length = b.length
  · have HL := Lib.hid hlen
    have hbe : ((a.length : Int) != (b.length : Int)) = false := by simp [hlen]
    clear hlen
    go_enter Tryz.func154, Tryz.ntmps154
    go_wp2
    go_loopw [5] (fun i wr => ∃ k q : Nat, k ≤ a.length ∧ i = .int .i64 ((k : Int) - 1) ∧ wr = w.drewN q ∧ Hid (a.drop k = b.drop k)) (fun i _ => (intOf i + 1).toNat)
    case atStart => exact ⟨a.length, 0, Nat.le_refl _, rfl, rfl, Lib.hid (by rw [List.drop_of_length_le (Nat.le_refl _), List.drop_of_length_le (by have := HL.out; omega)])⟩
    case round =>
      obtain ⟨k, q, hk, rfl, rfl, HT⟩ := hrel
      by_cases hz : 0 < k
      · obtain ⟨m, rfl⟩ : ∃ m, k = m + 1 := ⟨k - 1, by omega⟩
        have hlt : m < a.length := by omega
        have hlt2 : m < b.length := by have := HL.out; omega
        obtain ⟨p, rfl, _, _, hca⟩ := HA.out m _ (intsV_at a m hlt)
        obtain ⟨r, rfl, _, _, hcb⟩ := HB.out m _ (intsV_at b m hlt2)
        have hm1 : ((m + 1 : Nat) : Int) - 1 = (m : Int) := by omega
        rw [hm1]
        clear hm1 hz
        by_cases he : a[m] = b[m]
        · have hne : (a[m] != b[m]) = false := by simp [he]
          have HS := Lib.hid (drop_same a b m hlt hlt2 HT.out he)
          clear he
          go_wp2
          go_quiet (fail)
          go_wp2
          go_roundw
          case rel => exact ⟨m, _, by omega, rfl, rfl, HS⟩
          case measure => simp [intOf]
        · have hne : (a[m] != b[m]) = true := by rw [bne_iff_ne]; exact he
          have HV : Hid (cmpI a[m] b[m] = cmpI (nval a) (nval b)) := Lib.hid (by
            by_cases h1 : a[m] < b[m]
            · rw [cmp_lt h1, cmp_lt (nval_lt_down a b OA.out.1 OB.out.1 HL.out m (by rw [nval_drop a m hlt, nval_drop b m hlt2, HT.out]; omega))]
            · rw [cmp_gt (show b[m] < a[m] by omega), cmp_gt (nval_lt_down b a OB.out.1 OA.out.1 HL.out.symm m (by rw [nval_drop a m hlt, nval_drop b m hlt2, HT.out]; omega))])
          clear he
          go_wp2
          go_quiet (fail)
          go_wp2
          go_quiet ((go_at_call 214; exact quiet_at rfl (compare_any _ _ _)))
          go_wp2
          go_ret
          exact ⟨ret_int HV.out, drew_three _ _ _ _⟩
      · obtain rfl : k = 0 := by omega
        go_wp2
        go_ret
        exact ⟨ret_int (cmp_eq (by have := HT.out; rw [List.drop_zero, List.drop_zero] at this; rw [this])).symm, q, rfl⟩
  · have hbe : ((a.length : Int) != (b.length : Int)) = true := by simp; omega
    have HV : Hid (cmpI (a.length : Int) (b.length : Int) = cmpI (nval a) (nval b)) := Lib.hid (by
      by_cases hs : a.length < b.length
      · rw [cmp_lt (by omega), cmp_lt (nval_short a b OA.out.1 OB.out.1 hs OB.out.2)]
      · rw [cmp_gt (by omega), cmp_gt (nval_short b a OB.out.1 OA.out.1 (by omega) OA.out.2)])
    clear hlen
    go_enter Tryz.func154, Tryz.ntmps154
    go_wp2_with (go_at_call 214; refine (compare_any _ _ _).mono ?_; rintro e w' ⟨rfl, rfl⟩)
    go_ret
    exact ⟨ret_int HV.out, 0, rfl⟩

set_option maxHeartbeats 1000000 in
set_option maxRecDepth 100000 in
theorem implNatCmp_drew (va vb : Value) (a b : List Int) (la ha lb hb : Nat) (w : World) (hal : a.length ≤ 9223372036854775807) (hbl : b.length ≤ 9223372036854775807)
    (hra : Row w la ha va (intsV a)) (hrb : Row w lb hb vb (intsV b)) :
    Calls Tryz.prog 213 #[va, vb] w fun e w' => e = .returned (.int .i64 (cmpN a b)) ∧ ∃ q, w.drewN q = w' := by
  by_cases oa : natOkB a = true
  · by_cases ob : natOkB b = true
    · have HC := Lib.hid (show cmpN a b = cmpI (nval a) (nval b) by unfold cmpN; rw [if_pos ⟨oa, ob⟩])
      have OA := Lib.hid (ok_dig oa)
      have OB := Lib.hid (ok_dig ob)
      go_enter Tryz.func213, Tryz.ntmps213
      go_wp2_with fail
      refine (implNatOk_same va a la ha _ hal hra).mono ?_
      rintro e w' ⟨rfl, rfl⟩
      rw [oa]
      go_wp2_with fail
      refine (implNatOk_same vb b lb hb _ hbl hrb).mono ?_
      rintro e w' ⟨rfl, rfl⟩
      rw [ob]
      clear oa ob
      go_wp2_with fail
      refine (compareLimbs_any va vb a b la ha lb hb _ hal hbl OA.out OB.out hra hrb).mono ?_
      rintro e w' ⟨rfl, q, rfl⟩
      go_wp2
      go_ret
      exact ⟨ret_int HC.out.symm, q, rfl⟩
    · have ob' : natOkB b = false := by simpa using ob
      have HC := Lib.hid (show cmpN a b = 0 by unfold cmpN; rw [if_neg (fun h => ob h.2)])
      clear ob
      go_enter Tryz.func213, Tryz.ntmps213
      go_wp2_with fail
      refine (implNatOk_same va a la ha _ hal hra).mono ?_
      rintro e w' ⟨rfl, rfl⟩
      rw [oa]
      go_wp2_with fail
      refine (implNatOk_same vb b lb hb _ hbl hrb).mono ?_
      rintro e w' ⟨rfl, rfl⟩
      rw [ob']
      go_wp2
      go_ret
      exact ⟨ret_int HC.out.symm, 0, rfl⟩
  · have oa' : natOkB a = false := by simpa using oa
    have HC := Lib.hid (show cmpN a b = 0 by unfold cmpN; rw [if_neg (fun h => oa h.1)])
    clear oa
    go_enter Tryz.func213, Tryz.ntmps213
    go_wp2_with fail
    refine (implNatOk_same va a la ha _ hal hra).mono ?_
    rintro e w' ⟨rfl, rfl⟩
    rw [oa']
    go_wp2
    go_ret
    exact ⟨ret_int HC.out.symm, 0, rfl⟩
theorem implNatCmp_any (va vb : Value) (a b : List Int) (la ha lb hb : Nat) (w : World) (hal : a.length ≤ 1048576) (hbl : b.length ≤ 1048576) (_ : ha ≤ w.heap.size) (_ : hb ≤ w.heap.size)
    (hra : Row w la ha va (intsV a)) (hrb : Row w lb hb vb (intsV b)) :
    Calls Tryz.prog 213 #[va, vb] w fun e w' => e = .returned (.int .i64 (cmpN a b)) ∧ Below w.heap.size w w' := by
  refine (implNatCmp_drew va vb a b la ha lb hb w (by omega) (by omega) hra hrb).mono ?_
  rintro e w' ⟨rfl, q, rfl⟩
  exact ⟨rfl, below_drewN (Below.refl _ _) q⟩

end Go.Proofs.YtehkknphcflofaaGreatDoor
