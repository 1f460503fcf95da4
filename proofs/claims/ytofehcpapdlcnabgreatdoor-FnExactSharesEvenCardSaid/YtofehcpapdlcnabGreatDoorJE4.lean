/-
  JA4, SharePlain, ShareParts
-/
import Derived.Laws.EntriesVeiled
import Derived.Deep.RegionHeld3
import Derived.Shelf.Bits.Mul64
import Derived.Shelf.Small.Bits
import Derived.Test.YtofehcpapdlcnabGreatDoorProg
import Derived.Deep.Cut
import Derived.Deep.CutBlock
import Derived.Laws.Bits64b
import Derived.Lib.BitFns
import Derived.Test.YtofehcpapdlcnabGreatDoorJE3
namespace Go.Proofs.YtofehcpapdlcnabGreatDoor
open Go.RowKit

theorem ofZ_nat {n : Nat} (h : (n : Int) < bp 50) : ofZ (n : Int) = (false, limbs n) := by
  unfold ofZ
  rw [show ((n : Int)).natAbs = n by omega, if_pos (limbs_length_le _ 50 h), decide_eq_false (by omega)]
theorem bp50 : (1000000000 : Int) ≤ bp 50 := by have : bp 1 ≤ bp 50 := bp_mono (by omega); have e : bp 1 = 1000000000 := rfl; omega
/-- an integer as a fraction -/
theorem int_bd {x : SI} {m : Nat} (ok : okS x = true) (hm : m ≤ 18) (h0 : 0 < m) (h : ((valS x).natAbs : Int) < bp m) : (makeQ x (ofZ 1)).2 = true ∧ Bd (makeQ x (ofZ 1)).1 m ∧ ratV (makeQ x (ofZ 1)).1 = ((valS x : Int) : Rat) := by
  have hp := okS_parts ok
  have ha := valS_abs x hp.1
  have eo : ofZ 1 = (false, limbs 1) := ofZ_nat (n := 1) (by have := bp50; omega)
  have e1 : (ofZ 1).1 = false := by rw [eo]
  have e2 : (nval (ofZ 1).2).toNat = 1 := by rw [eo]; show (nval (limbs 1)).toNat = 1; rw [limbs_val]; rfl
  have e : makeQ x (ofZ 1) = lowQ x.1 (nval x.2).toNat 1 := by
    unfold makeQ
    rw [if_pos ⟨ok, ofZ_ok 1⟩, e1, e2]
    cases x.1 <;> rfl
  have hb1 : ((1 : Nat) : Int) < bp m := by
    have h1 : bp 1 ≤ bp m := bp_mono h0
    have : bp 1 = 1000000000 := rfl
    omega
  obtain ⟨h1, h2, h3⟩ := low_bd (n := x.1) (a := (nval x.2).toNat) (b := 1) (by omega) hm (by omega) hb1
  rw [e]
  refine ⟨h1, h2, h3.trans ?_⟩
  have hv : (if x.1 = true then -((nval x.2).toNat : Int) else ((nval x.2).toNat : Int)) = valS x := by
    have hn := nval_ok hp.1
    unfold valS
    rw [Int.toNat_of_nonneg hn]
  rw [hv]
  simp
  grind
end Go.Proofs.YtofehcpapdlcnabGreatDoor

namespace Go.Proofs.YtofehcpapdlcnabGreatDoor
open Go.RowKit

theorem negQ_is {r : QI} (h : okQ r = true) : negQ r = ((negS r.1, r.2), true) := by unfold negQ; rw [if_pos h]
/-! ### RoundTo -/
end Go.Proofs.YtofehcpapdlcnabGreatDoor

namespace Go.Proofs.YtofehcpapdlcnabGreatDoor
open Go.RowKit

/-- what a call answers: a new signed number and a bool; a new signed number, a new fraction and a bool -/
def PostSb (R0 : SI) (R1 : Bool) (w : World) (e : Ending) (w' : World) : Prop :=
  ∃ (v : Value) (S : List Nat), e = .returned (.tuple #[v, .bool R1]) ∧ At S (OwnS v R0) w' ∧ Within S w.heap.size w'.heap.size ∧ Below w.heap.size w w'
def PostSQb (R0 : SI) (R1 : QI) (R2 : Bool) (w : World) (e : Ending) (w' : World) : Prop :=
  ∃ (v u : Value) (S T : List Nat), e = .returned (.tuple #[v, u, .bool R2]) ∧ At S (OwnS v R0) w' ∧ At T (OwnQ u R1) w' ∧ (∀ g ∈ S, g ∉ T) ∧ Within S w.heap.size w'.heap.size ∧ Within T w.heap.size w'.heap.size ∧ Below w.heap.size w w'
end Go.Proofs.YtofehcpapdlcnabGreatDoor

namespace Go.Proofs.YtofehcpapdlcnabGreatDoor
open Go.RowKit

theorem modeB_in (m : Int) : inB m 0 6 = modeB m := rfl
set_option maxHeartbeats 400000 in
set_option maxRecDepth 100000 in
theorem l06Mode_any (m : Int) (w : World) : Calls Tryz.prog 76 #[.int .i64 m] w (Postb (modeB m) w) := by
  go_enter Tryz.func76, Tryz.ntmps76
  go_wp2_with fail
  refine (specIn_any m 0 6 (modeB m) _ (modeB_in m)).mono ?_
  rintro e w1 ⟨rfl, rfl⟩
  go_wp2
  go_ret
  exact ⟨rfl, Below.refl _ _⟩
/-- impl's table of the modes -/
def modeCells : Array Value := #[.string ⟨#[100, 111, 119, 110]⟩, .func (.func 168) #[] #[], .string ⟨#[117, 112]⟩, .func (.func 169) #[] #[], .string ⟨#[102, 108, 111, 111, 114]⟩, .func (.func 170) #[] #[], .string ⟨#[99, 101, 105, 108]⟩, .func (.func 171) #[] #[], .string ⟨#[104, 97, 108, 102, 100, 111, 119, 110]⟩, .func (.func 172) #[] #[], .string ⟨#[104, 97, 108, 102, 117, 112]⟩, .func (.func 174) #[] #[], .string ⟨#[104, 97, 108, 102, 101, 118, 101, 110]⟩, .func (.func 175) #[] #[]]
set_option maxHeartbeats 1000000 in
set_option maxRecDepth 100000 in
theorem roundings_any (w : World) : Calls Tryz.prog 162 #[] w fun e w' => ∃ b : Nat, e = .returned (.slice (some ⟨b, 0, none⟩) 7 7) ∧ At [b] (BoxAt b modeCells 149) w' ∧ w.heap.size ≤ b ∧ Below w.heap.size w w' := by
  go_enter Tryz.func162, Tryz.ntmps162
  go_wp2
  go_ret
  exact ⟨_, rfl, box_new _ _ _, Nat.le_refl _, below_al (Below.refl _ _) _⟩
theorem below_set2M {W0 W : World} {g : Nat} {a b : Value} (h : Below W0.heap.size W0 W) (hg : W0.heap.size ≤ g) : Below W0.heap.size W0 ((W.setCell ⟨g, 0, none⟩ a).setCell ⟨g, 1, none⟩ b) := (h.setCell (p := ⟨g, 0, none⟩) hg _).setCell (p := ⟨g, 1, none⟩) hg _
/-- the function that impl's table holds for a mode -/
def fnOf (m : Int) : FuncId := if m = 0 then 168 else if m = 1 then 169 else if m = 2 then 170 else if m = 3 then 171 else if m = 4 then 172 else if m = 5 then 174 else 175
def PostRM (s : ByteArray) (f : Value) (b : Bool) (w : World) (e : Ending) (w' : World) : Prop := e = .returned (.tuple #[.agg #[.string s, f], .bool b]) ∧ Below w.heap.size w w'
set_option maxHeartbeats 4000000 in
set_option maxRecDepth 100000 in
theorem roundingOf_mode (m : Int) (hm : modeB m = true) (w : World) : Calls Tryz.prog 151 #[.int .i64 m] w (PostRM (nameB m) (.func (.func (fnOf m)) #[] #[]) true w) := by
  have bb0 : Below w.heap.size w (w.alloc (.cells #[.string ⟨#[]⟩, .nilFunc] 149)) := below_al (Below.refl _ _) _
  have ko := box_new w #[.string ⟨#[]⟩, .nilFunc] 149
  rcases modeB_cases hm with rfl | rfl | rfl | rfl | rfl | rfl | rfl
  · clear hm
    go_enter Tryz.func151, Tryz.ntmps151
    go_wp2_with fail
    refine (roundings_any _).mono ?_
    rintro e w1 ⟨b, rfl, kb, hb, b1⟩
    have bb1 := Below.next bb0 b1
    replace ko := ko.below b1
    have cb0 : w1.cell? ⟨b, 0, none⟩ = some (.string ⟨#[100, 111, 119, 110]⟩) := kb.here.cell 0 _ rfl
    have cb1 : w1.cell? ⟨b, 1, none⟩ = some (.func (.func 168) #[] #[]) := kb.here.cell 1 _ rfl
    have cz0 := ko.here.cell 0 _ rfl
    have cz1 := ko.here.cell 1 _ rfl
    have fz0 := Lib.frozen_of_heap ko.here 0
    have fz1 := Lib.frozen_of_heap ko.here 1
    go_wp2
    refine bodyPost_ret (v := .tuple #[.agg #[.string ⟨#[100, 111, 119, 110]⟩, .func (.func 168) #[] #[]], .bool true]) (by simp [results, Tryz.results151, go_sem, cz0, cz1]) rfl ?_
    exact ⟨rfl, below_set2M bb1 (Nat.le_refl _)⟩
  · clear hm
    go_enter Tryz.func151, Tryz.ntmps151
    go_wp2_with fail
    refine (roundings_any _).mono ?_
    rintro e w1 ⟨b, rfl, kb, hb, b1⟩
    have bb1 := Below.next bb0 b1
    replace ko := ko.below b1
    have cb0 : w1.cell? ⟨b, 2, none⟩ = some (.string ⟨#[117, 112]⟩) := kb.here.cell 2 _ rfl
    have cb1 : w1.cell? ⟨b, 3, none⟩ = some (.func (.func 169) #[] #[]) := kb.here.cell 3 _ rfl
    have cz0 := ko.here.cell 0 _ rfl
    have cz1 := ko.here.cell 1 _ rfl
    have fz0 := Lib.frozen_of_heap ko.here 0
    have fz1 := Lib.frozen_of_heap ko.here 1
    go_wp2
    refine bodyPost_ret (v := .tuple #[.agg #[.string ⟨#[117, 112]⟩, .func (.func 169) #[] #[]], .bool true]) (by simp [results, Tryz.results151, go_sem, cz0, cz1]) rfl ?_
    exact ⟨rfl, below_set2M bb1 (Nat.le_refl _)⟩
  · clear hm
    go_enter Tryz.func151, Tryz.ntmps151
    go_wp2_with fail
    refine (roundings_any _).mono ?_
    rintro e w1 ⟨b, rfl, kb, hb, b1⟩
    have bb1 := Below.next bb0 b1
    replace ko := ko.below b1
    have cb0 : w1.cell? ⟨b, 4, none⟩ = some (.string ⟨#[102, 108, 111, 111, 114]⟩) := kb.here.cell 4 _ rfl
    have cb1 : w1.cell? ⟨b, 5, none⟩ = some (.func (.func 170) #[] #[]) := kb.here.cell 5 _ rfl
    have cz0 := ko.here.cell 0 _ rfl
    have cz1 := ko.here.cell 1 _ rfl
    have fz0 := Lib.frozen_of_heap ko.here 0
    have fz1 := Lib.frozen_of_heap ko.here 1
    go_wp2
    refine bodyPost_ret (v := .tuple #[.agg #[.string ⟨#[102, 108, 111, 111, 114]⟩, .func (.func 170) #[] #[]], .bool true]) (by simp [results, Tryz.results151, go_sem, cz0, cz1]) rfl ?_
    exact ⟨rfl, below_set2M bb1 (Nat.le_refl _)⟩
  · clear hm
    go_enter Tryz.func151, Tryz.ntmps151
    go_wp2_with fail
    refine (roundings_any _).mono ?_
    rintro e w1 ⟨b, rfl, kb, hb, b1⟩
    have bb1 := Below.next bb0 b1
    replace ko := ko.below b1
    have cb0 : w1.cell? ⟨b, 6, none⟩ = some (.string ⟨#[99, 101, 105, 108]⟩) := kb.here.cell 6 _ rfl
    have cb1 : w1.cell? ⟨b, 7, none⟩ = some (.func (.func 171) #[] #[]) := kb.here.cell 7 _ rfl
    have cz0 := ko.here.cell 0 _ rfl
    have cz1 := ko.here.cell 1 _ rfl
    have fz0 := Lib.frozen_of_heap ko.here 0
    have fz1 := Lib.frozen_of_heap ko.here 1
    go_wp2
    refine bodyPost_ret (v := .tuple #[.agg #[.string ⟨#[99, 101, 105, 108]⟩, .func (.func 171) #[] #[]], .bool true]) (by simp [results, Tryz.results151, go_sem, cz0, cz1]) rfl ?_
    exact ⟨rfl, below_set2M bb1 (Nat.le_refl _)⟩
  · clear hm
    go_enter Tryz.func151, Tryz.ntmps151
    go_wp2_with fail
    refine (roundings_any _).mono ?_
    rintro e w1 ⟨b, rfl, kb, hb, b1⟩
    have bb1 := Below.next bb0 b1
    replace ko := ko.below b1
    have cb0 : w1.cell? ⟨b, 8, none⟩ = some (.string ⟨#[104, 97, 108, 102, 100, 111, 119, 110]⟩) := kb.here.cell 8 _ rfl
    have cb1 : w1.cell? ⟨b, 9, none⟩ = some (.func (.func 172) #[] #[]) := kb.here.cell 9 _ rfl
    have cz0 := ko.here.cell 0 _ rfl
    have cz1 := ko.here.cell 1 _ rfl
    have fz0 := Lib.frozen_of_heap ko.here 0
    have fz1 := Lib.frozen_of_heap ko.here 1
    go_wp2
    refine bodyPost_ret (v := .tuple #[.agg #[.string ⟨#[104, 97, 108, 102, 100, 111, 119, 110]⟩, .func (.func 172) #[] #[]], .bool true]) (by simp [results, Tryz.results151, go_sem, cz0, cz1]) rfl ?_
    exact ⟨rfl, below_set2M bb1 (Nat.le_refl _)⟩
  · clear hm
    go_enter Tryz.func151, Tryz.ntmps151
    go_wp2_with fail
    refine (roundings_any _).mono ?_
    rintro e w1 ⟨b, rfl, kb, hb, b1⟩
    have bb1 := Below.next bb0 b1
    replace ko := ko.below b1
    have cb0 : w1.cell? ⟨b, 10, none⟩ = some (.string ⟨#[104, 97, 108, 102, 117, 112]⟩) := kb.here.cell 10 _ rfl
    have cb1 : w1.cell? ⟨b, 11, none⟩ = some (.func (.func 174) #[] #[]) := kb.here.cell 11 _ rfl
    have cz0 := ko.here.cell 0 _ rfl
    have cz1 := ko.here.cell 1 _ rfl
    have fz0 := Lib.frozen_of_heap ko.here 0
    have fz1 := Lib.frozen_of_heap ko.here 1
    go_wp2
    refine bodyPost_ret (v := .tuple #[.agg #[.string ⟨#[104, 97, 108, 102, 117, 112]⟩, .func (.func 174) #[] #[]], .bool true]) (by simp [results, Tryz.results151, go_sem, cz0, cz1]) rfl ?_
    exact ⟨rfl, below_set2M bb1 (Nat.le_refl _)⟩
  · clear hm
    go_enter Tryz.func151, Tryz.ntmps151
    go_wp2_with fail
    refine (roundings_any _).mono ?_
    rintro e w1 ⟨b, rfl, kb, hb, b1⟩
    have bb1 := Below.next bb0 b1
    replace ko := ko.below b1
    have cb0 : w1.cell? ⟨b, 12, none⟩ = some (.string ⟨#[104, 97, 108, 102, 101, 118, 101, 110]⟩) := kb.here.cell 12 _ rfl
    have cb1 : w1.cell? ⟨b, 13, none⟩ = some (.func (.func 175) #[] #[]) := kb.here.cell 13 _ rfl
    have cz0 := ko.here.cell 0 _ rfl
    have cz1 := ko.here.cell 1 _ rfl
    have fz0 := Lib.frozen_of_heap ko.here 0
    have fz1 := Lib.frozen_of_heap ko.here 1
    go_wp2
    refine bodyPost_ret (v := .tuple #[.agg #[.string ⟨#[104, 97, 108, 102, 101, 118, 101, 110]⟩, .func (.func 175) #[] #[]], .bool true]) (by simp [results, Tryz.results151, go_sem, cz0, cz1]) rfl ?_
    exact ⟨rfl, below_set2M bb1 (Nat.le_refl _)⟩
set_option maxHeartbeats 4000000 in
set_option maxRecDepth 100000 in
theorem roundingOf_none (m : Int) (hm : ¬ modeB m = true) (w : World) : Calls Tryz.prog 151 #[.int .i64 m] w (PostRM ⟨#[]⟩ .nilFunc false w) := by
  have bb0 : Below w.heap.size w (w.alloc (.cells #[.string ⟨#[]⟩, .nilFunc] 149)) := below_al (Below.refl _ _) _
  have ko := box_new w #[.string ⟨#[]⟩, .nilFunc] 149
  have h6 := (modeB_false hm).2
  clear hm
  by_cases h0 : m < 0
  · clear h6
    go_enter Tryz.func151, Tryz.ntmps151
    go_wp2_with fail
    refine (roundings_any _).mono ?_
    rintro e w1 ⟨b, rfl, kb, hb, b1⟩
    have bb1 := Below.next bb0 b1
    replace ko := ko.below b1
    have cz0 := ko.here.cell 0 _ rfl
    have cz1 := ko.here.cell 1 _ rfl
    have fz0 := Lib.frozen_of_heap ko.here 0
    have fz1 := Lib.frozen_of_heap ko.here 1
    go_wp2
    refine bodyPost_ret (v := .tuple #[.agg #[.string ⟨#[]⟩, .nilFunc], .bool false]) (by simp [results, Tryz.results151, go_sem, cz0, cz1]) rfl ?_
    exact ⟨rfl, below_set2M bb1 (Nat.le_refl _)⟩
  · have h7 : ((7 : Nat) : Int) ≤ m := by omega
    clear h6
    go_enter Tryz.func151, Tryz.ntmps151
    go_wp2_with fail
    refine (roundings_any _).mono ?_
    rintro e w1 ⟨b, rfl, kb, hb, b1⟩
    have bb1 := Below.next bb0 b1
    replace ko := ko.below b1
    have cz0 := ko.here.cell 0 _ rfl
    have cz1 := ko.here.cell 1 _ rfl
    have fz0 := Lib.frozen_of_heap ko.here 0
    have fz1 := Lib.frozen_of_heap ko.here 1
    go_wp2
    refine bodyPost_ret (v := .tuple #[.agg #[.string ⟨#[]⟩, .nilFunc], .bool false]) (by simp [results, Tryz.results151, go_sem, cz0, cz1]) rfl ?_
    exact ⟨rfl, below_set2M bb1 (Nat.le_refl _)⟩
end Go.Proofs.YtofehcpapdlcnabGreatDoor

namespace Go.Proofs.YtofehcpapdlcnabGreatDoor
open Go.RowKit

theorem OwnI.belowI {v : Value} {xs : List Int} {w w' : World} (h : OwnI v xs w) (hb : Below w.heap.size w w') : OwnI v xs w' := own_below h hb
theorem ownI_eq {v : Value} {xs ys : List Int} {w : World} (h : OwnI v xs w) (e : xs = ys) : OwnI v ys w := e ▸ h
theorem roundVS_eq {x y : SI} {w w' : World} {e : Ending} (hxy : x = y) (h : NewV (fun u => OwnS u x) w e w') : NewV (fun u => OwnS u y) w e w' := hxy ▸ h
theorem chg_set2 {r : Nat} {c0 c1 : Value} {W : World} : Chg [r] W ((W.setCell ⟨r, 0, none⟩ c0).setCell ⟨r, 1, none⟩ c1) := ((Chg.refl _ _).setCell (by simp) _).setCell (by simp) _
/-- a result that lies in its cells at block r: a new signed number, with a bool and without -/
theorem newSb_at {r B : Nat} {S : List Nat} {c0 c1 : Value} {x : SI} {b : Bool} {w W : World} (o : At S (OwnS (.agg #[c0, c1]) x) W) (l : Within S B W.heap.size) (hrB : r < B) (hr : w.heap.size ≤ r) (hW : Below w.heap.size w W) :
    PostSb x b w (.returned (.tuple #[.agg #[c0, c1], .bool b])) ((W.setCell ⟨r, 0, none⟩ c0).setCell ⟨r, 1, none⟩ c1) := by
  have hc : Chg [r] W ((W.setCell ⟨r, 0, none⟩ c0).setCell ⟨r, 1, none⟩ c1) := chg_set2
  have hz := hc.size
  exact ⟨_, S, rfl, o.chg hc (fun i hi hm => by have := l i hi; simp at hm; omega), fun i hi => by have := l i hi; omega, below_set2 hW hr⟩
theorem newS_at {r B : Nat} {S : List Nat} {c0 c1 : Value} {x : SI} {w W : World} (o : At S (OwnS (.agg #[c0, c1]) x) W) (l : Within S B W.heap.size) (hrB : r < B) (hr : w.heap.size ≤ r) (hW : Below w.heap.size w W) :
    NewV (fun v => OwnS v x) w (.returned (.agg #[c0, c1])) ((W.setCell ⟨r, 0, none⟩ c0).setCell ⟨r, 1, none⟩ c1) := by
  have hc : Chg [r] W ((W.setCell ⟨r, 0, none⟩ c0).setCell ⟨r, 1, none⟩ c1) := chg_set2
  have hz := hc.size
  exact ⟨_, S, rfl, o.chg hc (fun i hi hm => by have := l i hi; simp at hm; omega), fun i hi => by have := l i hi; omega, below_set2 hW hr⟩
theorem ownS_zero (w : World) : OwnS (.agg #[.bool false, .slice none 0 0]) zeroS w := ⟨_, rfl, World.ownsRow_nil _ _ _ _⟩
theorem newSb_zero {w W : World} (b : Bool) (hW : Below w.heap.size w W) : PostSb zeroS b w (.returned (.tuple #[.agg #[.bool false, .slice none 0 0], .bool b])) W :=
  ⟨_, [], rfl, ⟨ownS_zero _, fun _ hg => absurd hg List.not_mem_nil, fun w' _ => ownS_zero w'⟩, fun _ hg => absurd hg List.not_mem_nil, hW⟩
theorem quot_of {r : QI} (h : okQ r = true) : (nval r.1.2 / nval r.2).toNat = topN r / denQ r := by
  have p := parts_of h
  rw [p.n, p.d, limbs_val, limbs_val]
  exact div_toNat _ _
theorem rest_of {r : QI} (h : okQ r = true) : (nval r.1.2 % nval r.2).toNat = topN r % denQ r := by
  have p := parts_of h
  rw [p.n, p.d, limbs_val, limbs_val, ← Int.natCast_emod]
  exact Int.toNat_natCast _
/-- sizes of quotient and rest -/
theorem quot_len {r : QI} (h : okQ r = true) : (limbs (topN r / denQ r)).length ≤ 18 := limbs_length_le _ 18 (by
  have p := (parts_of h).nlt
  have := Nat.div_le_self (topN r) (denQ r)
  omega)
theorem rest_len {r : QI} (h : okQ r = true) : (limbs (topN r % denQ r)).length ≤ 18 := limbs_length_le _ 18 (by
  have p := (parts_of h).dlt
  have := Nat.mod_lt (topN r) (denQ_pos h)
  omega)
theorem even_limbs {k : Nat} (h : (limbs k).length ≤ 50) : evenB (limbs k) = decide (k % 2 = 0) := by
  unfold evenB
  rw [limbs_okL _ h, Bool.true_and]
  have e : (limbs k).headD 0 % 2 = ((k % 2 : Nat) : Int) := by
    by_cases h : k = 0
    · subst h; rw [limbs, dif_pos rfl]; rfl
    · rw [limbs, dif_neg h]
      show ((k % 1000000000 : Nat) : Int) % 2 = _
      omega
  rw [e, decide_eq_decide]
  omega
theorem round_plain {r : QI} {m : Int} (h : topN r % denQ r = 0 ∨ awayB r.1.1 (topN r / denQ r) (topN r % denQ r) (denQ r) m = false) : mkS r.1.1 (limbs (topN r / denQ r)) = roundS r m := by
  unfold roundS roundN
  rw [if_neg (fun e => by rcases h with h | h; exact e.1 h; rw [h] at e; exact absurd e.2 (by decide)), Nat.add_zero]
theorem round_more {r : QI} {m : Int} (h : topN r % denQ r ≠ 0) (ha : awayB r.1.1 (topN r / denQ r) (topN r % denQ r) (denQ r) m = true) : mkS r.1.1 (limbs (topN r / denQ r + 1)) = roundS r m := by
  unfold roundS roundN
  rw [if_pos ⟨h, ha⟩]
theorem one_more (Q : Nat) : trimL (addL (limbs Q) [1] 0) = limbs (Q + 1) := by
  have h := addL_val (limbs Q) [1] 0 (limbs_digN Q) (by rw [← one_limbs]; exact limbs_digN 1) (by omega) (by omega)
  rw [trim_limbs _ h.2.1, h.1, limbs_val]
  have : nval [1] = 1 := rfl
  rw [this, show ((Q : Int) + 1 + 0).toNat = Q + 1 by omega]
theorem twice_len {R : Nat} (h : (limbs R).length ≤ 18) : (addL (limbs R) (limbs R) 0).length ≤ 40 ∧ DigN (addL (limbs R) (limbs R) 0) ∧ (addL (limbs R) (limbs R) 0).getLastD 1 ≠ 0 ∧ nval (addL (limbs R) (limbs R) 0) = (R : Int) + R + 0 := by
  have hs := addL_val (limbs R) (limbs R) 0 (limbs_digN R) (limbs_digN R) (by omega) (by omega)
  rw [limbs_val] at hs
  exact ⟨by omega, hs.2.1, addL_last _ _ _ (limbs_digN R) (limbs_digN R) (by omega) (by omega) (limbs_lastN R) (limbs_lastN R), hs.1⟩
theorem awayB_4 (neg : Bool) (Q R D : Nat) : awayB neg Q R D 4 = decide (D < 2 * R) := rfl
theorem awayB_5 (neg : Bool) (Q R D : Nat) : awayB neg Q R D 5 = decide (D ≤ 2 * R) := rfl
theorem awayB_6 (neg : Bool) (Q R D : Nat) : awayB neg Q R D 6 = (decide (D < 2 * R) || (decide (2 * R = D) && decide (Q % 2 = 1))) := rfl
/-- the modes that look at the half, by how twice the rest compares with the denominator -/
theorem away_cmp (neg : Bool) (Q R D : Nat) {c : Int} (h : cmpI ((R : Int) + R + 0) D = c) : awayB neg Q R D 4 = decide (0 < c) ∧ awayB neg Q R D 5 = decide (0 ≤ c) ∧ awayB neg Q R D 6 = (decide (0 < c) || (decide (c = 0) && decide (Q % 2 = 1))) := by
  have t := twice_cmp R D
  rw [h] at t
  rw [awayB_4, awayB_5, awayB_6, decide_eq_decide.2 t.1, decide_eq_decide.2 t.2.1, decide_eq_decide.2 t.2.2]
  exact ⟨rfl, rfl, rfl⟩
theorem cmp_three (x y : Int) : cmpI x y = -1 ∨ cmpI x y = 0 ∨ cmpI x y = 1 := by unfold cmpI; split; exact .inl rfl; split; exact .inr (.inr rfl); exact .inr (.inl rfl)
end Go.Proofs.YtofehcpapdlcnabGreatDoor

namespace Go.Proofs.YtofehcpapdlcnabGreatDoor
open Go.RowKit

theorem round_lt18 {r : QI} (h : okQ r = true) (m : Int) : (roundN r.1.1 (topN r) (denQ r) m : Int) < bp 18 := by
  have p := parts_of h
  have hn := p.nlt
  have hd := denQ_pos h
  have c := roundN_cases r.1.1 (topN r) (denQ r) m
  have b1 : bp 1 = 1000000000 := rfl
  have b18 : bp 1 ≤ bp 18 := bp_mono (by omega)
  by_cases h1 : denQ r = 1
  · rw [h1] at c ⊢
    rw [Nat.mod_one, Nat.div_one] at c
    omega
  · have h2 : topN r / denQ r ≤ topN r / 2 := Nat.div_le_div_left (by omega) (by omega)
    have h3 := roundN_le r.1.1 (topN r) (denQ r) m
    omega
/-- the rounded number as a fraction, and the rest -/
theorem rest_parts {r : QI} (h : okQ r = true) (m : Int) : (makeQ (roundS r m) (ofZ 1)).2 = true ∧ (subQ r (makeQ (roundS r m) (ofZ 1)).1).2 = true := by
  have p := parts_of h
  have okx := roundS_ok r m
  have h18 := round_lt18 h m
  have hv := roundS_val p m
  have hab : ((valS (roundS r m)).natAbs : Int) < bp 18 := by
    have : (valS (roundS r m)).natAbs = roundN r.1.1 (topN r) (denQ r) m := by rw [hv]; split <;> omega
    omega
  obtain ⟨b1, b2, b3⟩ := int_bd okx (m := 18) (by omega) (by omega) hab
  refine ⟨b1, ?_⟩
  obtain ⟨e, e1, e2, e3, _, _⟩ := round_val h m
  generalize roundS r m = X at *
  generalize (makeQ X (ofZ 1)).1 = Y at *
  have py := b2.pos
  have pr : (0 : Int) < denQ r := by have := denQ_pos h; omega
  have hY : numQ Y = valS X * denQ Y := by
    have n1 := rat_ne py
    unfold ratV at b3
    have : (numQ Y : Rat) = ((valS X : Int) : Rat) * ((denQ Y : Int) : Rat) := by grind
    exact_mod_cast this
  obtain ⟨n1, n2, n3⟩ := neg_bd b2
  have en := negQ_is b2.ok
  have hN : numQ (negQ Y).1 = - numQ Y := by rw [en]; exact negS_val (okQ_parts b2.ok).1
  have hD : denQ (negQ Y).1 = denQ Y := by rw [en]; rfl
  have h1 : denQ Y = 1 := by
    have hg : Nat.gcd (topN Y) (denQ Y) = 1 := (okQ_parts b2.ok).2.2.2.2.2
    have ht : topN Y = (valS X).natAbs * denQ Y := by rw [abs_top b2.ok, hY, Int.natAbs_mul, Int.natAbs_natCast]
    rw [ht, Nat.gcd_mul_left_left] at hg
    exact hg
  have es : subQ r Y = lowQ (decide (numQ r * denQ (negQ Y).1 + numQ (negQ Y).1 * denQ r < 0)) (numQ r * denQ (negQ Y).1 + numQ (negQ Y).1 * denQ r).natAbs (denQ r * denQ (negQ Y).1) := by
    unfold subQ
    rw [if_pos n1]
    unfold addQ
    rw [if_pos ⟨h, n2.ok⟩]
  rw [es, hN, hD, hY, h1]
  have hnum : (numQ r * ((1 : Nat) : Int) + -(valS X * ((1 : Nat) : Int)) * denQ r).natAbs < denQ r := by
    have : numQ r * ((1 : Nat) : Int) + -(valS X * ((1 : Nat) : Int)) * denQ r = -e := by
      have : -(valS X * ((1 : Nat) : Int)) * (denQ r : Int) = -(valS X * (denQ r : Int)) := by rw [Int.natCast_one, Int.mul_one, Int.neg_mul]
      rw [this, e1]
      omega
    rw [this]
    omega
  exact (low_is _ _ _ (by omega) (by have := p.dlt; omega) (by rw [Nat.mul_one]; exact p.dlt)).1
theorem rest_all {r : QI} {m : Int} (h : okQ r = true) (hm : modeB m = true) : roundR r m = (roundS r m, true) ∧ restB r m = true ∧ restS r m = roundS r m ∧ restQ r m = (subQ r (makeQ (roundS r m) (ofZ 1)).1).1 := by
  have e : roundR r m = (roundS r m, true) := by unfold roundR; rw [if_pos ⟨h, hm⟩]
  have b := rest_parts h m
  have eb : restB r m = true := by unfold restB; rw [e]; simp only; rw [b.1, b.2]; rfl
  refine ⟨e, eb, ?_, ?_⟩
  · unfold restS; rw [if_pos eb, e]
  · unfold restQ; rw [if_pos eb, e]
theorem rest_none {r : QI} {m : Int} (h : ¬ (okQ r = true ∧ modeB m = true)) : roundR r m = (zeroS, false) ∧ restB r m = false ∧ restS r m = zeroS ∧ restQ r m = zeroQ := by
  have e : roundR r m = (zeroS, false) := by unfold roundR; rw [if_neg h]
  have eb : restB r m = false := by unfold restB; rw [e]; rfl
  refine ⟨e, eb, ?_, ?_⟩
  · unfold restS; rw [if_neg (by rw [eb]; decide)]
  · unfold restQ; rw [if_neg (by rw [eb]; decide)]
theorem makeQ_szQ (x y : SI) : szQ (makeQ x y).1 ≤ 1048576 := by unfold makeQ; split; exact lowQ_sz _ _ _; decide
theorem subQ_szQ (x y : QI) : szQ (subQ x y).1 ≤ 1048576 := by unfold subQ; split; (unfold addQ; split; exact lowQ_sz _ _ _; decide); decide
theorem postSb_is {q : SI × Bool} {X : SI} {b : Bool} (e : q = (X, b)) {w w' : World} {n : Ending} (h : PostSb q.1 q.2 w n w') : PostSb X b w n w' := by rw [e] at h; exact h
theorem postQb_is {q : QI × Bool} {X : QI} {b : Bool} (e : q = (X, b)) {w w' : World} {n : Ending} (h : PostQb q.1 q.2 w n w') : PostQb X b w n w' := by rw [e] at h; exact h
theorem newSQb_zero {w W : World} (hW : Below w.heap.size w W) : PostSQb zeroS zeroQ false w (.returned (.tuple #[.agg #[.bool false, .slice none 0 0], .agg #[.bool false, .slice none 0 0, .slice none 0 0], .bool false])) W :=
  ⟨_, _, [], [], rfl, ⟨ownS_zero _, fun _ hg => absurd hg List.not_mem_nil, fun w' _ => ownS_zero w'⟩, ⟨ownQ_zero _, fun _ hg => absurd hg List.not_mem_nil, fun w' _ => ownQ_zero w'⟩, fun _ hg => absurd hg List.not_mem_nil, fun _ hg => absurd hg List.not_mem_nil, fun _ hg => absurd hg List.not_mem_nil, hW⟩
/-- a signed number in block r and a fraction in block p, in whatever order they were stored -/
theorem newSQb_at {r p B C : Nat} {S T : List Nat} {c0 c1 d0 d1 d2 : Value} {x : SI} {y : QI} {b : Bool} {w W : World} (o : At S (OwnS (.agg #[c0, c1]) x) W) (q : At T (OwnQ (.agg #[d0, d1, d2]) y) W)
    (l : Within S B W.heap.size) (k : Within T C W.heap.size) (hap : ∀ g ∈ S, g ∉ T) (hB : p < B) (hC : p < C) (hrp : r < p) (hr : w.heap.size ≤ r) (hp : w.heap.size ≤ p) (hW : Below w.heap.size w W) :
    ∀ W', Chg [r, p] W W' → PostSQb x y b w (.returned (.tuple #[.agg #[c0, c1], .agg #[d0, d1, d2], .bool b])) W' := by
  intro W' hc
  have hz := hc.size
  refine ⟨_, _, S, T, rfl, o.chg hc (fun i hi hm => ?_), q.chg hc (fun i hi hm => ?_), hap, fun i hi => ?_, fun i hi => ?_, below_chg hW hc hW.size (fun i hi => ?_)⟩
  · have := l i hi; simp at hm; omega
  · have := k i hi; simp at hm; omega
  · have := l i hi; omega
  · have := k i hi; omega
  · simp at hi; omega
end Go.Proofs.YtofehcpapdlcnabGreatDoor

namespace Go.Proofs.YtofehcpapdlcnabGreatDoor
open Go.RowKit

theorem ownS_open {u c : Value} {x : SI} {w : World} (h : OwnS (.agg #[c, u]) x w) : OwnI u x.2 w := by
  obtain ⟨u', e, hu⟩ := h
  injection e with e
  simp at e
  obtain ⟨_, e2⟩ := e
  subst e2
  exact hu
theorem OwnS.below {w W : World} {v : Value} {x : SI} (h : OwnS v x w) (hb : Below w.heap.size w W) : OwnS v x W := by
  obtain ⟨u, rfl, o⟩ := h
  exact ⟨u, rfl, own_below o hb⟩
theorem one_szS : szS (ofZ 1) ≤ 1048576 := by have := ofZ_len 1; unfold szS szI; omega
theorem postQb_eq {q Q : QI × Bool} (e : q = Q) {w w' : World} {n : Ending} (h : PostQb q.1 q.2 w n w') : PostQb Q.1 Q.2 w n w' := by rw [← e]; exact h
theorem postn_eq {z z' : Int} (e : z = z') {w w' : World} {n : Ending} (h : Postn z w n w') : Postn z' w n w' := by rw [← e]; exact h
theorem newQ_ret {r : Nat} {u d c0 c1 c2 : Value} {x : QI} {w W : World} {B C : Nat} (hb : BoxAt r #[c0, c1, c2] 63 W) (o : W.ownsRow B 3 1 u x.1.2.length (intsV x.1.2)) (p : W.ownsRow C 3 1 d x.2.length (intsV x.2))
    (hap : ∀ g, u.ownBlock = some g → d.ownBlock ≠ some g) (hB : w.heap.size ≤ B) (hC : w.heap.size ≤ C) (hr : w.heap.size ≤ r) (hW : Below w.heap.size w W) :
    NewV (fun v => OwnQ v x) w (.returned (.agg #[.bool x.1.1, u, d])) (((W.setCell ⟨r, 0, none⟩ (.bool x.1.1)).setCell ⟨r, 1, none⟩ u).setCell ⟨r, 2, none⟩ d) := by
  obtain ⟨v, S, e, k1, k2, k3⟩ := newQb_ret (b := true) hb o p hap hB hC hr hW
  refine ⟨v, S, ?_, k1, k2, k3⟩
  injection e with e
  injection e with e
  simp at e
  rw [e]
theorem OwnQ.below {w W : World} {v : Value} {x : QI} (h : OwnQ v x w) (hb : Below w.heap.size w W) : OwnQ v x W := by
  obtain ⟨u, d, rfl, o, p, hap⟩ := h
  exact ⟨u, d, rfl, own_below o hb, own_below p hb, hap⟩
end Go.Proofs.YtofehcpapdlcnabGreatDoor

namespace Go.Proofs.YtofehcpapdlcnabGreatDoor
open Go.RowKit

theorem cmpS_zero {b : SI} (h : okS b = true) : (cmpS b zeroS = 0) ↔ nval b.2 = 0 := by
  have n := nval_ok (okS_parts h).1
  unfold cmpS
  rw [if_pos ⟨h, zeroS_ok⟩, zeroS_val]
  have e : valS b = 0 ↔ nval b.2 = 0 := by
    unfold valS
    split <;> omega
  rw [← e]
  unfold cmpI
  split
  · omega
  · split <;> omega
theorem makeQ_none {a b : SI} (h : ¬ (okS a = true ∧ cmpS b zeroS ≠ 0)) : makeQ a b = (zeroQ, false) := by
  unfold makeQ
  split
  · rename_i hk
    have hz : nval b.2 = 0 := (cmpS_zero hk.2).1 (Classical.byContradiction fun e => h ⟨hk.1, e⟩)
    unfold lowQ
    rw [if_neg (fun k => k.1 (by rw [hz]; rfl))]
  · rfl
theorem cmpS_ok {b : SI} (h : cmpS b zeroS ≠ 0) : okS b = true := by
  unfold cmpS at h
  rcases Classical.em (okS b = true ∧ okS zeroS = true) with k | k
  · exact k.1
  · rw [if_neg k] at h
    exact absurd rfl h
/-- the parts that RatMake divides out -/
theorem makeQ_parts {a b : SI} (ha : okS a = true) (hb : cmpS b zeroS ≠ 0) : ∃ X Y : Nat,
    gcdN a.2 b.2 = limbs (Nat.gcd (nval a.2).toNat (nval b.2).toNat) ∧ (divN a.2 (gcdN a.2 b.2)).1 = limbs X ∧ (divN b.2 (gcdN a.2 b.2)).1 = limbs Y ∧ (limbs X).length ≤ 50 ∧ (limbs Y).length ≤ 50 ∧ 0 < (limbs Y).length ∧
    makeQ a b = if (limbs X).length ≤ 18 ∧ (limbs Y).length ≤ 18 then ((mkS (!(a.1 == b.1)) (limbs X), limbs Y), true) else (zeroQ, false) := by
  have hkb := cmpS_ok hb
  have pa := okS_parts ha
  have pb := okS_parts hkb
  have na := nval_ok pa.1
  have nb := nval_ok pb.1
  have hz : nval b.2 ≠ 0 := fun e => hb ((cmpS_zero hkb).2 e)
  have hg := gcdN_small a.2 b.2
  have eg : gcdN a.2 b.2 = limbs (Nat.gcd (nval a.2).toNat (nval b.2).toNat) := by unfold gcdN; rw [if_pos ⟨pa.1, pb.1⟩]
  have g0 := Nat.gcd_pos_of_pos_right (nval a.2).toNat (show 0 < (nval b.2).toNat by omega)
  have okg : natOkB (gcdN a.2 b.2) = true := by rw [eg] at hg ⊢; exact limbs_okL _ hg
  have lg : 0 < (gcdN a.2 b.2).length := by
    rw [eg]
    rcases Nat.eq_zero_or_pos (limbs (Nat.gcd (nval a.2).toNat (nval b.2).toNat)).length with h | h
    · have := (limbs_zero_iff _).1 h
      omega
    · exact h
  have dv : ∀ c : List Int, natOkB c = true → (divN c (gcdN a.2 b.2)).1 = limbs ((nval c).toNat / Nat.gcd (nval a.2).toNat (nval b.2).toNat) ∧ (limbs ((nval c).toNat / Nat.gcd (nval a.2).toNat (nval b.2).toNat)).length ≤ 50 := by
    intro c hc
    have nc := nval_ok hc
    unfold divN
    rw [if_pos ⟨hc, okg, lg⟩, eg, limbs_val]
    have e : (nval c / ((Nat.gcd (nval a.2).toNat (nval b.2).toNat : Nat) : Int)).toNat = (nval c).toNat / Nat.gcd (nval a.2).toNat (nval b.2).toNat := by
      rw [← div_toNat]
      congr 2
      omega
    simp only
    rw [e]
    refine ⟨rfl, ?_⟩
    have hm := limbs_mono (m := (((nval c).toNat / Nat.gcd (nval a.2).toNat (nval b.2).toNat : Nat) : Int)) (n := nval c) (by omega) (by have := Nat.div_le_self (nval c).toNat (Nat.gcd (nval a.2).toNat (nval b.2).toNat); omega)
    rw [Int.toNat_natCast, ← natOk_limbs hc] at hm
    have := (natOk_parts hc).2.1
    omega
  have hy : 0 < (limbs ((nval b.2).toNat / Nat.gcd (nval a.2).toNat (nval b.2).toNat)).length := by
    have h1 := Nat.div_pos (Nat.le_of_dvd (show 0 < (nval b.2).toNat by omega) (Nat.gcd_dvd_right (nval a.2).toNat (nval b.2).toNat)) g0
    rcases Nat.eq_zero_or_pos (limbs ((nval b.2).toNat / Nat.gcd (nval a.2).toNat (nval b.2).toNat)).length with h | h
    · have := (limbs_zero_iff _).1 h
      omega
    · exact h
  refine ⟨(nval a.2).toNat / Nat.gcd (nval a.2).toNat (nval b.2).toNat, (nval b.2).toNat / Nat.gcd (nval a.2).toNat (nval b.2).toNat, eg, (dv _ pa.1).1, (dv _ pb.1).1, (dv _ pa.1).2, (dv _ pb.1).2, hy, ?_⟩
  unfold makeQ
  rw [if_pos ⟨ha, hkb⟩]
  unfold lowQ
  have h0 : (nval b.2).toNat ≠ 0 := by omega
  have e : (a.1 != b.1) = !(a.1 == b.1) := rfl
  simp only [h0, ne_eq, not_false_eq_true, true_and, e]

theorem mulS_cross {x : SI} {d : List Int} {n : Nat} (hx : okS x = true) (hd : natOkB d = true) (hn : n = (nval d).toNat) : mulS x (false, d) = ofZ (valS x * n) ∧ okS (false, d) = true := by
  have h0 := nval_ok hd
  have hk : okS (false, d) = true := by unfold okS; rw [hd]; rfl
  refine ⟨?_, hk⟩
  unfold mulS
  rw [if_pos ⟨hx, hk⟩]
  have : valS (false, d) = n := by unfold valS; simp; omega
  rw [this]
theorem cross_abs {q : QI} {n : Nat} (h : Parts q) (hn : (n : Int) < bp 18) : ((numQ q * n).natAbs : Int) < bp 36 := by
  rw [h.top]
  have := prod_lt h.nlt hn
  split
  · rw [Int.neg_mul, Int.natAbs_neg, ← Int.natCast_mul]; omega
  · rw [← Int.natCast_mul]; omega
theorem ofZ_short {z : Int} {k : Nat} (h : (z.natAbs : Int) < bp k) (hk : k ≤ 50) : okS (ofZ z) = true ∧ valS (ofZ z) = z ∧ ofZ z = (decide (z < 0), limbs z.natAbs) := by
  have hl := limbs_length_le z.natAbs k h
  refine ⟨ofZ_ok z, ofZ_val (by omega), ?_⟩
  unfold ofZ
  rw [if_pos (by omega)]
/-- what RatMake makes of integers -/
theorem makeQ_ofZ {z : Int} {k m : Nat} {n : Bool} {d : List Int} (h : (z.natAbs : Int) < bp k) (hk : k ≤ 50) (hd : d = limbs m) (_ : (limbs m).length ≤ 50) (hn : okS (n, d) = true) : makeQ (ofZ z) (n, d) = lowQ (decide (z < 0) != n) z.natAbs m := by
  obtain ⟨h1, _, h3⟩ := ofZ_short h hk
  unfold makeQ
  rw [if_pos ⟨h1, hn⟩, h3]
  simp only
  rw [limbs_val, hd, limbs_val, Int.toNat_natCast, Int.toNat_natCast]
theorem nil_ok {d : List Int} (hd : natOkB d = true) : okS (false, d) = true := by unfold okS; rw [hd]; rfl
theorem numQ_val (q : QI) : valS q.1 = numQ q := rfl
def leftS (r s : QI) : SI := mulS r.1 (false, s.2)
def denS (r s : QI) : SI := (false, mulN r.2 s.2)
def topS (r s : QI) : SI := mulS r.1 s.1
theorem leftS_eq {r s : QI} (hr : Parts r) (hs : Parts s) : leftS r s = ofZ (numQ r * denQ s) ∧ okS (leftS r s) = true ∧ valS (leftS r s) = numQ r * denQ s := by
  have h := (mulS_cross hr.okn hs.okd (show denQ s = _ from rfl)).1
  rw [numQ_val] at h
  have hz := ofZ_short (cross_abs hr hs.dlt) (by decide)
  unfold leftS
  rw [h]
  exact ⟨rfl, hz.1, hz.2.1⟩
theorem denS_eq {r s : QI} (hr : Parts r) (hs : Parts s) : denS r s = (false, limbs (denQ r * denQ s)) ∧ okS (denS r s) = true ∧ (limbs (denQ r * denQ s)).length ≤ 50 := by
  have hl := Nat.le_trans (prod_len hr.dlt hs.dlt) (show 36 ≤ 50 by decide)
  have e : mulN r.2 s.2 = limbs (denQ r * denQ s) := by
    unfold mulN natRes capL
    rw [if_pos ⟨hr.okd, hs.okd⟩, mul_toNat hr.okd hs.okd]
    show (if 50 < (limbs (denQ r * denQ s)).length then [] else limbs (denQ r * denQ s)) = _
    rw [if_neg (by omega)]
  unfold denS
  rw [e]
  exact ⟨rfl, nil_ok (limbs_okL _ hl), hl⟩
theorem topS_eq {r s : QI} (hr : Parts r) (hs : Parts s) : topS r s = ofZ (numQ r * numQ s) ∧ ((numQ r * numQ s).natAbs : Int) < bp 36 ∧ (numQ r * numQ s).natAbs = topN r * topN s := by
  have e : (numQ r * numQ s).natAbs = topN r * topN s := by
    rw [Int.natAbs_mul, hr.top, hs.top]
    congr 1 <;> split <;> omega
  unfold topS mulS
  rw [if_pos ⟨hr.okn, hs.okn⟩]
  exact ⟨rfl, by rw [e]; exact prod_lt hr.nlt hs.nlt, e⟩
theorem sum_abs {x y : Int} (hx : (x.natAbs : Int) < bp 36) (hy : (y.natAbs : Int) < bp 36) : ((x + y).natAbs : Int) < bp 37 ∧ ((x - y).natAbs : Int) < bp 37 := by
  have := bp37
  omega
theorem numQ_neg {s : QI} (oks : okQ s = true) : (negQ s).2 = true ∧ okQ (negQ s).1 = true ∧ numQ (negQ s).1 = -(numQ s) ∧ denQ (negQ s).1 = denQ s := by
  have h := parts_of oks
  have e : negQ s = ((negS s.1, s.2), true) := by unfold negQ; rw [if_pos oks]
  rw [e]
  have hv := negS_val h.okn
  have hp := okQ_parts oks
  have habs : nval (negS s.1).2 = nval s.1.2 ∧ (negS s.1).2.length = s.1.2.length := by
    have e2 : (negS s.1).2 = limbs (valS s.1).natAbs := by
      unfold negS
      rw [if_pos h.okn]
      have := ofZ_short (z := -(valS s.1)) (k := 18) (by rw [Int.natAbs_neg, valS_abs _ (okS_parts h.okn).1]; exact h.nlt) (by decide)
      rw [this.2.2, Int.natAbs_neg]
    have e3 : s.1.2 = limbs (valS s.1).natAbs := by
      rw [valS_abs _ (okS_parts h.okn).1]
      exact natOk_limbs (okS_parts h.okn).1
    rw [e2, ← e3]
    exact ⟨rfl, rfl⟩
  refine ⟨rfl, ?_, hv, rfl⟩
  unfold okQ
  rw [negS_ok, h.okd]
  simp only [Bool.true_and, decide_eq_true_eq]
  rw [habs.1, habs.2]
  exact ⟨hp.2.2.1, hp.2.2.2.1, hp.2.2.2.2.1, hp.2.2.2.2.2⟩
theorem subQ_make {r s : QI} (hr : Parts r) (hs : Parts s) (okr : okQ r = true) (oks : okQ s = true) : makeQ (subS (leftS r s) (leftS s r)) (denS r s) = subQ r s := by
  have l := leftS_eq hr hs
  have m := leftS_eq hs hr
  have d := denS_eq hr hs
  have e : subS (leftS r s) (leftS s r) = ofZ (numQ r * denQ s - numQ s * denQ r) := by
    unfold subS
    rw [if_pos ⟨l.2.1, m.2.1⟩, l.2.2, m.2.2]
  have n := numQ_neg oks
  rw [e, d.1, makeQ_ofZ (sum_abs (cross_abs hr hs.dlt) (cross_abs hs hr.dlt)).2 (by decide) rfl d.2.2 (by rw [← d.1]; exact d.2.1)]
  unfold subQ addQ
  rw [if_pos n.1, if_pos ⟨okr, n.2.1⟩, n.2.2.1, n.2.2.2, Int.neg_mul, ← Int.sub_eq_add_neg]
  simp
theorem lowQ_sign {n m : Bool} {a b : Nat} (h : a ≠ 0 → n = m) : lowQ n a b = lowQ m a b := by
  by_cases ha : a = 0
  · subst ha
    unfold lowQ
    have e : ∀ k : Bool, mkS k (limbs (0 / Nat.gcd 0 b)) = zeroS := fun k => by
      rw [Nat.zero_div, mkS_limbs]
      cases k <;> exact ofZ_zero
    rw [e, e]
  · rw [h ha]
theorem mulQ_make {r s : QI} (hr : Parts r) (hs : Parts s) (okr : okQ r = true) (oks : okQ s = true) : makeQ (topS r s) (denS r s) = mulQ r s := by
  have t := topS_eq hr hs
  have d := denS_eq hr hs
  rw [t.1, d.1, makeQ_ofZ t.2.1 (by decide) rfl d.2.2 (by rw [← d.1]; exact d.2.1), t.2.2]
  unfold mulQ
  rw [if_pos ⟨okr, oks⟩]
  refine lowQ_sign fun h => ?_
  have hr0 : topN r ≠ 0 := fun e => h (by rw [e, Nat.zero_mul])
  have hs0 : topN s ≠ 0 := fun e => h (by rw [e, Nat.mul_zero])
  rw [hr.top, hs.top]
  have p : 0 < (topN r : Int) * (topN s : Int) := Int.mul_pos (by omega) (by omega)
  have e : decide ((if r.1.1 = true then -(topN r : Int) else topN r) * (if s.1.1 = true then -(topN s : Int) else topN s) < 0) = (r.1.1 != s.1.1) := by
    cases r.1.1 <;> cases s.1.1 <;> simp [Int.neg_mul, Int.mul_neg] <;> omega
  rw [e]
  cases (r.1.1 != s.1.1) <;> rfl
theorem cmpQ_make {r s : QI} (hr : Parts r) (hs : Parts s) (okr : okQ r = true) (oks : okQ s = true) : cmpS (leftS r s) (leftS s r) = cmpQ r s := by
  have l := leftS_eq hr hs
  have m := leftS_eq hs hr
  unfold cmpS cmpQ
  rw [if_pos ⟨l.2.1, m.2.1⟩, if_pos ⟨okr, oks⟩, l.2.2, m.2.2]
end Go.Proofs.YtofehcpapdlcnabGreatDoor

namespace Go.Proofs
open Go.Shelf
def Tryz.lays134_ren : Go.Shelf.Ren := ⟨fun | 134 => 183 | 129 => 184 | n => n, fun | 53 => 134 | 3 => 3 | 4 => 4 | 46 => 116 | 5 => 5 | 9 => 9 | n => n, fun | n => n⟩
theorem Tryz.lays134 : Go.Proofs.Lays.n134 Tryz.prog Tryz.lays134_ren := {
  mixed := by kernel_rfl
  f129 := Tryz.func184.trans (congrArg some (by kernel_rfl))
  f134 := Tryz.func183.trans (congrArg some (by kernel_rfl))
  t3 := Tryz.underlying3
  a3 := Tryz.isAgg3
  z3 := Tryz.sizeOf3
  v3 := Tryz.zeroValue3
  t4 := Tryz.underlying4
  a4 := Tryz.isAgg4
  z4 := Tryz.sizeOf4
  v4 := Tryz.zeroValue4
  t5 := Tryz.underlying5
  a5 := Tryz.isAgg5
  z5 := Tryz.sizeOf5
  v5 := Tryz.zeroValue5
  t9 := Tryz.underlying9
  a9 := Tryz.isAgg9
  z9 := Tryz.sizeOf9
  v9 := Tryz.zeroValue9
  t46 := Tryz.underlying116
  a46 := Tryz.isAgg116
  z46 := Tryz.sizeOf116
  v46 := Tryz.zeroValue116
  t53 := Tryz.underlying134
  a53 := Tryz.isAgg134
  z53 := Tryz.sizeOf134
  v53 := Tryz.zeroValue134 }
theorem Tryz.bits_LeadingZeros64 (x : Int) (w : World) (h0 : 0 ≤ x) (h1 : x ≤ 18446744073709551615) :
    Calls Tryz.prog 183 #[.int .u64 x] w fun e w' => e = .returned (.int .i64 (64 - (Lib.bitLen x.toNat : Int))) ∧ w' = w := Any.bits_LeadingZeros64 Tryz.lays134 x w h0 h1
def Tryz.lays264_ren : Go.Shelf.Ren := ⟨fun | 264 => 137 | n => n, fun | 53 => 134 | 46 => 116 | n => n, fun | n => n⟩
theorem Tryz.lays264 : Go.Proofs.Lays.n264 Tryz.prog Tryz.lays264_ren := {
  mixed := by kernel_rfl
  f264 := Tryz.func137.trans (congrArg some (by kernel_rfl))
  t46 := Tryz.underlying116
  a46 := Tryz.isAgg116
  z46 := Tryz.sizeOf116
  v46 := Tryz.zeroValue116
  t53 := Tryz.underlying134
  a53 := Tryz.isAgg134
  z53 := Tryz.sizeOf134
  v53 := Tryz.zeroValue134 }
open Go.RowKit Go.Lib in
theorem Tryz.bits_Mul64 (x y : Nat) (hx : x < 18446744073709551616) (hy : y < 18446744073709551616) (w : World) :
    Calls Tryz.prog 137 #[.int .u64 x, .int .u64 y] w fun e w' => e = .returned (.tuple #[.int .u64 ((x * y / 18446744073709551616 : Nat) : Int), .int .u64 ((x * y % 18446744073709551616 : Nat) : Int)]) ∧ w' = w := Any.bits_Mul64 Tryz.lays264 x y hx hy w
end Go.Proofs

namespace Go.Proofs.YtofehcpapdlcnabGreatDoor
open Go.RowKit

/-! ### how many bits -/
theorem lenAux_lt : ∀ (f x : Nat), x < 2 ^ f → x < 2 ^ Lib.bitLenAux f x
  | 0, x, h => h
  | f + 1, x, h => by
    unfold Lib.bitLenAux
    by_cases h0 : x = 0
    · rw [if_pos h0, h0]; decide
    · rw [if_neg h0, Nat.add_comm, Nat.pow_succ]
      have := lenAux_lt f (x / 2) (by rw [Nat.pow_succ] at h; omega)
      omega
theorem lenAux_ge : ∀ (f x : Nat), 0 < x → 2 ^ Lib.bitLenAux f x ≤ 2 * x
  | 0, x, h => by show 1 ≤ _; omega
  | f + 1, x, h => by
    unfold Lib.bitLenAux
    rw [if_neg (by omega), Nat.add_comm, Nat.pow_succ]
    by_cases h1 : x / 2 = 0
    · have e : Lib.bitLenAux f (x / 2) = 0 := by
        cases f with
        | zero => rfl
        | succ f => unfold Lib.bitLenAux; rw [if_pos h1]
      rw [e]
      omega
    · have := lenAux_ge f (x / 2) (by omega)
      omega
theorem lenAux_le : ∀ (f x : Nat), Lib.bitLenAux f x ≤ f
  | 0, _ => Nat.le_refl _
  | f + 1, x => by
    unfold Lib.bitLenAux
    split
    · omega
    · have := lenAux_le f (x / 2)
      omega
/-- shifted so far that the highest bit is set -/
theorem shifted {y : Nat} (h0 : 0 < y) (h : y < 18446744073709551616) : Lib.bitLen y ≤ 64 ∧ 64 - Lib.bitLen y < 64 ∧ 9223372036854775808 ≤ y * 2 ^ (64 - Lib.bitLen y) ∧ y * 2 ^ (64 - Lib.bitLen y) < 18446744073709551616 := by
  have h1 := lenAux_lt 64 y h
  have h2 := lenAux_ge 64 y h0
  have h3 := lenAux_le 64 y
  change y < 2 ^ Lib.bitLen y at h1
  change 2 ^ Lib.bitLen y ≤ 2 * y at h2
  change Lib.bitLen y ≤ 64 at h3
  have h4 : Lib.bitLen y ≠ 0 := by
    intro e
    rw [e] at h1
    omega
  have e : 2 ^ Lib.bitLen y * 2 ^ (64 - Lib.bitLen y) = 18446744073709551616 := by
    rw [← Nat.pow_add, show Lib.bitLen y + (64 - Lib.bitLen y) = 64 by omega]
  have hp : 0 < 2 ^ (64 - Lib.bitLen y) := Nat.pow_pos (by omega)
  refine ⟨h3, by omega, ?_, ?_⟩
  · have := Nat.mul_le_mul_right (2 ^ (64 - Lib.bitLen y)) h2
    rw [e, Nat.mul_assoc] at this
    omega
  · have := (Nat.mul_lt_mul_right hp).2 h1
    rw [e] at this
    exact this

/-! ### one digit -/
/-- the guess q with its rest r, for the digit of (u, n) over (A, B) -/
def DigQ (A B u n q r : Nat) : Prop := q * A + r = u ∧ (u * 4294967296 + n) / (A * 4294967296 + B) ≤ q ∧ q ≤ 4294967297
theorem digQ_mul (A B u q r : Nat) (h : q * A + r = u) : q * (A * 4294967296 + B) + r * 4294967296 = u * 4294967296 + q * B := by
  rw [← h, Nat.mul_add, Nat.add_mul, ← Nat.mul_assoc]
  omega
theorem DigQ.start {A B u n : Nat} (hA : 2147483648 ≤ A) (hB : B < 4294967296) (hn : n < 4294967296) (hu : u < A * 4294967296 + B) : DigQ A B u n (u / A) (u % A) := by
  refine ⟨by rw [Nat.mul_comm]; exact Nat.div_add_mod u A, ?_, ?_⟩
  · apply Nat.le_of_lt_succ
    rw [Nat.div_lt_iff_lt_mul (by omega)]
    have h1 := Nat.div_add_mod u A
    have h2 := Nat.mod_lt u (show 0 < A by omega)
    have h3 : (u / A).succ * (A * 4294967296 + B) = A * (u / A) * 4294967296 + A * 4294967296 + (u / A).succ * B := by
      rw [Nat.mul_add, Nat.succ_mul, ← Nat.mul_assoc, Nat.mul_comm (u / A) A]
    rw [h3]
    omega
  · apply Nat.le_of_lt_succ
    rw [Nat.div_lt_iff_lt_mul (by omega)]
    omega
theorem lt_shift {z r u x n : Nat} (e : z + r = u + x) (h : r + n < x) : u + n < z := by omega
/-- too great a guess -/
theorem DigQ.down {A B u n q r : Nat} (h : DigQ A B u n q r) (hu : u < A * 4294967296 + B) (hn : n < 4294967296) (ht : 4294967296 ≤ q ∨ r * 4294967296 + n < q * B) : 0 < q ∧ DigQ A B u n (q - 1) (r + A) := by
  obtain ⟨h1, h2, h3⟩ := h
  have hq : 0 < q := by
    rcases Nat.eq_zero_or_pos q with h0 | h0
    · subst h0
      rcases ht with ht | ht
      · omega
      · rw [Nat.zero_mul] at ht; omega
    · exact h0
  have e := digQ_mul A B u q r h1
  have hlt : (u * 4294967296 + n) / (A * 4294967296 + B) < q := by
    rw [Nat.div_lt_iff_lt_mul (by omega)]
    rcases ht with ht | ht
    · have h5 := Nat.mul_le_mul_right (A * 4294967296 + B) ht
      generalize q * (A * 4294967296 + B) = z at *
      omega
    · exact lt_shift e ht
  refine ⟨hq, ?_, by omega, by omega⟩
  obtain ⟨p, rfl⟩ : ∃ p, q = p + 1 := ⟨q - 1, by omega⟩
  rw [Nat.add_sub_cancel]
  rw [Nat.succ_mul] at h1
  omega
/-- no longer too great -/
theorem DigQ.done {A B u n q r : Nat} (h : DigQ A B u n q r) (hA : 2147483648 ≤ A) (ht : q * B ≤ r * 4294967296 + n) : q = (u * 4294967296 + n) / (A * 4294967296 + B) := by
  obtain ⟨h1, h2, _⟩ := h
  apply Nat.le_antisymm _ h2
  rw [Nat.le_div_iff_mul_le (by omega)]
  have e := digQ_mul A B u q r h1
  omega
theorem DigQ.past {B n q r : Nat} (hB : B < 4294967296) (hq : q ≤ 4294967296) (hr : 4294967296 ≤ r) : q * B ≤ r * 4294967296 + n := by
  have h1 : q * B ≤ 4294967296 * 4294967295 := Nat.mul_le_mul hq (by omega)
  omega
theorem DigQ.rest {A B u n q r : Nat} (h : DigQ A B u n q r) : r = u - q * A := by have := h.1; omega

/-- two digits, one behind the other -/
theorem two_digits (U m1 m0 Y : Nat) (hY : 0 < Y) :
    ((U * 4294967296 + m1) * 4294967296 + m0) / Y = (U * 4294967296 + m1) / Y * 4294967296 + ((U * 4294967296 + m1) % Y * 4294967296 + m0) / Y := by
  have e := Nat.div_add_mod (U * 4294967296 + m1) Y
  have e2 : (U * 4294967296 + m1) * 4294967296 + m0 = (U * 4294967296 + m1) % Y * 4294967296 + m0 + Y * ((U * 4294967296 + m1) / Y * 4294967296) := by
    have : Y * ((U * 4294967296 + m1) / Y * 4294967296) = Y * ((U * 4294967296 + m1) / Y) * 4294967296 := (Nat.mul_assoc _ _ _).symm
    rw [this]
    generalize Y * ((U * 4294967296 + m1) / Y) = z at *
    omega
  rw [e2, Nat.add_mul_div_left _ _ hY, Nat.add_comm]
theorem digit_lt {U n Y : Nat} (hU : U < Y) (hn : n < 4294967296) : (U * 4294967296 + n) / Y < 4294967296 := by
  rw [Nat.div_lt_iff_lt_mul (by omega)]
  have : 4294967296 * (U + 1) ≤ 4294967296 * Y := Nat.mul_le_mul_left _ hU
  omega
/-- the shifted dividend, in three parts -/
theorem shift_parts {hi lo s Y : Nat} (hs : s < 64) (hl : lo < 18446744073709551616) (y : Nat) (hY : Y = y * 2 ^ s) (hh : hi < y) :
    (hi * 18446744073709551616 + lo) / y = ((hi * 2 ^ s + lo / 2 ^ (64 - s)) * 18446744073709551616 + lo * 2 ^ s % 18446744073709551616) / Y ∧ lo / 2 ^ (64 - s) < 2 ^ s ∧ hi * 2 ^ s + lo / 2 ^ (64 - s) < Y := by
  have hp : 0 < 2 ^ s := Nat.pow_pos (by omega)
  have hp2 : 0 < 2 ^ (64 - s) := Nat.pow_pos (by omega)
  have e64 : 2 ^ s * 2 ^ (64 - s) = 18446744073709551616 := by rw [← Nat.pow_add, show s + (64 - s) = 64 by omega]
  have hlt : lo / 2 ^ (64 - s) < 2 ^ s := by rw [Nat.div_lt_iff_lt_mul hp2, e64]; exact hl
  refine ⟨?_, hlt, ?_⟩
  · have e : (hi * 2 ^ s + lo / 2 ^ (64 - s)) * 18446744073709551616 + lo * 2 ^ s % 18446744073709551616 = (hi * 18446744073709551616 + lo) * 2 ^ s := by
      have e1 : lo * 2 ^ s / 18446744073709551616 = lo / 2 ^ (64 - s) := by
        rw [← e64, Nat.mul_comm (2 ^ s) (2 ^ (64 - s)), Nat.mul_div_mul_right _ _ hp]
      have e2 := Nat.div_add_mod (lo * 2 ^ s) 18446744073709551616
      rw [e1] at e2
      have e3 : (hi * 18446744073709551616 + lo) * 2 ^ s = hi * 2 ^ s * 18446744073709551616 + lo * 2 ^ s := by rw [Nat.add_mul, Nat.mul_right_comm]
      rw [e3]
      omega
    rw [e, hY, Nat.mul_div_mul_right _ _ hp]
  · rw [hY]
    have : (hi + 1) * 2 ^ s ≤ y * 2 ^ s := Nat.mul_le_mul_right _ hh
    rw [Nat.add_mul] at this
    omega
theorem or_add {a b s : Nat} (h : b < 2 ^ s) (ha : a * 2 ^ s < 18446744073709551616) (hb : b < 18446744073709551616) : bits .or .u64 ((a * 2 ^ s : Nat) : Int) (b : Int) = ((a * 2 ^ s + b : Nat) : Int) := by
  rw [bits_or_u64_nat _ _ ha hb]
  congr 1
  rw [Nat.mul_comm, ← Nat.two_pow_add_eq_or_of_lt h]
theorem and_low {a : Nat} (h : a < 18446744073709551616) : bits .and .u64 (a : Int) 4294967295 = ((a % 4294967296 : Nat) : Int) := by
  have h1 := bits_and_u64_nat a 4294967295 h (by omega)
  rw [show a &&& 4294967295 = a % 4294967296 from Nat.and_two_pow_sub_one_eq_mod a 32] at h1
  exact h1
theorem wrapU (a : Nat) : IntKind.u64.wrap (a : Int) = ((a % 18446744073709551616 : Nat) : Int) := by rw [IntKind.wrap_u64]; omega
theorem wrapL (a : Nat) (h : a < 18446744073709551616) : IntKind.u64.wrap (a : Int) = (a : Int) := by rw [IntKind.wrap_u64]; omega
theorem wrapD {a b c : Nat} (hc : c ≤ a) (h : a - c < 18446744073709551616) (hb : b = a - c) : IntKind.u64.wrap (IntKind.u64.wrap (a : Int) - IntKind.u64.wrap (c : Int)) = (b : Int) := by
  rw [IntKind.wrap_u64, IntKind.wrap_u64, IntKind.wrap_u64]
  omega
theorem wrapT {U m z v : Nat} (h : z + v = U * 4294967296 + m) (hv : v < 18446744073709551616) :
    IntKind.u64.wrap (IntKind.u64.wrap (IntKind.u64.wrap ((U : Int) * 4294967296) + (m : Int)) - IntKind.u64.wrap (z : Int)) = (v : Int) := by
  rw [IntKind.wrap_u64, IntKind.wrap_u64, IntKind.wrap_u64, IntKind.wrap_u64]
  omega

/-- the quotient, and whatever rest -/
def QuoPost (q : Nat) (w : World) (e : Ending) (w' : World) : Prop := (∃ r, e = .returned (.tuple #[.int .u64 q, .int .u64 r])) ∧ ∃ n, w.drewN n = w'
set_option maxHeartbeats 400000 in
set_option maxRecDepth 100000 in
theorem div64_small (lo y : Nat) (h0 : 0 < y) (hl : lo < 18446744073709551616) (hy : y < 18446744073709551616) (w : World) :
    Calls Tryz.prog 182 #[.int .u64 0, .int .u64 lo, .int .u64 y] w (QuoPost (lo / y) w) := by
  have hq := Nat.div_le_self lo y
  have e1 : IntKind.u64.wrap ((lo : Int) / (y : Int)) = ((lo / y : Nat) : Int) := by
    rw [← Int.natCast_ediv, wrapL _ (by omega)]
  have hy0 : ¬ ((y : Int) = 0) := by omega
  have hy1 : ¬ (y = 0) := by omega
  go_enter Tryz.func182, Tryz.ntmps182
  go_wp2
  go_quiet (fail)
  go_wp2
  go_ret2
  exact ⟨⟨_, rfl⟩, _, rfl⟩

/-- what stands in the guess's two slots -/
def DigS (A B u n : Nat) (q r : Value) : Prop := ∃ qn rn : Nat, q = .int .u64 qn ∧ r = .int .u64 rn ∧ rn < 4294967296 ∧ Hid (DigQ A B u n qn rn)
set_option maxHeartbeats 2000000 in
set_option maxRecDepth 100000 in
theorem div64_big (hi lo y : Nat) (hh : hi < y) (h0 : 0 < hi) (hl : lo < 18446744073709551616) (hy : y < 18446744073709551616) (w : World) :
    Calls Tryz.prog 182 #[.int .u64 hi, .int .u64 lo, .int .u64 y] w (QuoPost ((hi * 18446744073709551616 + lo) / y) w) := by
  obtain ⟨hb1, hs, hY0, hY1⟩ := shifted (y := y) (by omega) hy
  have hsn : (64 : Int) - (Lib.bitLen y : Int) = ((64 - Lib.bitLen y : Nat) : Int) := by omega
  have HSN := Lib.hid hsn
  clear hsn
  generalize 64 - Lib.bitLen y = s at *
  obtain ⟨hp1, hp2, hp3⟩ := shift_parts hs hl y rfl hh
  have hor : bits .or .u64 ((hi * 2 ^ s : Nat) : Int) ((lo / 2 ^ (64 - s) : Nat) : Int) = ((hi * 2 ^ s + lo / 2 ^ (64 - s) : Nat) : Int) := or_add hp2 (by have := Nat.zero_le (lo / 2 ^ (64 - s)); have := Nat.le_add_right (hi * 2 ^ s) (lo / 2 ^ (64 - s)); exact Nat.lt_of_le_of_lt this (Nat.lt_trans hp3 hY1)) (by have := Nat.div_le_self lo (2 ^ (64 - s)); omega)
  have e1 : IntKind.u64.wrap ((y : Int) * 2 ^ s) = ((y * 2 ^ s : Nat) : Int) := by
    rw [show (y : Int) * 2 ^ s = ((y * 2 ^ s : Nat) : Int) by push_cast; rfl, wrapL _ hY1]
  have e3 : IntKind.u64.wrap ((hi : Int) * 2 ^ s) = ((hi * 2 ^ s : Nat) : Int) := by
    rw [show (hi : Int) * 2 ^ s = ((hi * 2 ^ s : Nat) : Int) by push_cast; rfl, wrapL _ (Nat.lt_of_le_of_lt (Nat.le_add_right (hi * 2 ^ s) (lo / 2 ^ (64 - s))) (Nat.lt_trans hp3 hY1))]
  have e4 : (lo : Int) / 2 ^ (64 - s) = ((lo / 2 ^ (64 - s) : Nat) : Int) := by push_cast; rfl
  have e5 : IntKind.u64.wrap ((lo : Int) * 2 ^ s) = ((lo * 2 ^ s % 18446744073709551616 : Nat) : Int) := by
    rw [show (lo : Int) * 2 ^ s = ((lo * 2 ^ s : Nat) : Int) by push_cast; rfl, wrapU]
  have hm : lo * 2 ^ s % 18446744073709551616 < 18446744073709551616 := Nat.mod_lt _ (by omega)
  rw [← e4] at hor
  have HP := Lib.hid hp1
  clear hp1 hp2 e4
  generalize hi * 2 ^ s + lo / 2 ^ (64 - s) = U at *
  generalize lo * 2 ^ s % 18446744073709551616 = M at *
  generalize y * 2 ^ s = Y at *
  generalize hi * 2 ^ s = H at *
  -- the halves
  have a1 := and_low hY1
  have a2 := and_low hm
  obtain ⟨A, hA⟩ : ∃ A, A = Y / 4294967296 := ⟨_, rfl⟩
  obtain ⟨B, hB⟩ : ∃ B, B = Y % 4294967296 := ⟨_, rfl⟩
  obtain ⟨m1, hm1⟩ : ∃ A, A = M / 4294967296 := ⟨_, rfl⟩
  obtain ⟨m0, hm0⟩ : ∃ A, A = M % 4294967296 := ⟨_, rfl⟩
  have hAB : Y = A * 4294967296 + B := by omega
  have hMM : M = m1 * 4294967296 + m0 := by omega
  have hA0 : 2147483648 ≤ A := by omega
  have hA1 : A < 4294967296 := by omega
  have hB1 : B < 4294967296 := by omega
  have hm11 : m1 < 4294967296 := by omega
  have hm01 : m0 < 4294967296 := by omega
  have a3 : (Y : Int) / 4294967296 = (A : Int) := by omega
  have a4 : (M : Int) / 4294967296 = (m1 : Int) := by omega
  rw [← hB] at a1
  rw [← hm0] at a2
  have HY := Lib.hid hAB
  have HM := Lib.hid hMM
  clear hA hB hm1 hm0 hAB hMM hY0
  have hU64 : U < 18446744073709551616 := by omega
  have hq1 : U / A < 18446744073709551616 := Nat.lt_of_le_of_lt (Nat.div_le_self _ _) hU64
  have hq2 : U % A < 4294967296 := by have := Nat.mod_lt U (show 0 < A by omega); omega
  have e6 : IntKind.u64.wrap ((U : Int) / (A : Int)) = ((U / A : Nat) : Int) := by
    rw [← Int.natCast_ediv, wrapL _ hq1]
  have e7 : IntKind.u64.wrap ((U : Int) - IntKind.u64.wrap (((U / A : Nat) : Int) * (A : Int))) = ((U % A : Nat) : Int) := by
    have h1 := Nat.div_add_mod U A
    rw [show ((U / A : Nat) : Int) * (A : Int) = ((A * (U / A) : Nat) : Int) by push_cast; rw [Int.mul_comm], ← wrapL U hU64]
    exact wrapD (by omega) (by omega) (by omega)
  have HD1 : Hid (DigQ A B U m1 (U / A) (U % A)) := Lib.hid (DigQ.start hA0 hB1 hm11 (by rw [← HY.out]; exact hp3))
  have HUY := Lib.hid hp3
  clear hp3 hq1
  generalize U / A = q1 at *
  generalize U % A = r1 at *
  have hd1 := digit_lt HUY.out hm11
  have HT := Lib.hid (show (hi * 18446744073709551616 + lo) / y = (U * 4294967296 + m1) / Y * 4294967296 + ((U * 4294967296 + m1) % Y * 4294967296 + m0) / Y by
    rw [HP.out, HM.out, show U * 18446744073709551616 + (m1 * 4294967296 + m0) = (U * 4294967296 + m1) * 4294967296 + m0 by omega]
    exact two_digits U m1 m0 Y (by omega))
  have hvY := Nat.mod_lt (U * 4294967296 + m1) (show 0 < Y by omega)
  have f1 : IntKind.u64.wrap (IntKind.u64.wrap (IntKind.u64.wrap ((U : Int) * 4294967296) + (m1 : Int)) - IntKind.u64.wrap ((((U * 4294967296 + m1) / Y : Nat) : Int) * (Y : Int))) = (((U * 4294967296 + m1) % Y : Nat) : Int) := by
    have h1 := Nat.div_add_mod (U * 4294967296 + m1) Y
    rw [show (((U * 4294967296 + m1) / Y : Nat) : Int) * (Y : Int) = ((Y * ((U * 4294967296 + m1) / Y) : Nat) : Int) by rw [Int.mul_comm, ← Int.natCast_mul]]
    exact wrapT h1 (by omega)
  have hvD : (U * 4294967296 + m1) / Y = (U * 4294967296 + m1) / (A * 4294967296 + B) := by rw [← HY.out]
  obtain ⟨D1, hD1⟩ : ∃ D1, D1 = (U * 4294967296 + m1) / Y := ⟨_, rfl⟩
  obtain ⟨V, hV⟩ : ∃ V, V = (U * 4294967296 + m1) % Y := ⟨_, rfl⟩
  rw [← hD1] at hd1 HT f1 hvD
  rw [← hV] at HT hvY f1
  have HV1 := Lib.hid hvD
  clear hvD hD1 hV
  have hA2 : ¬ ((A : Int) = 0) := by omega
  go_enter Tryz.func182, Tryz.ntmps182
  go_wp2_with fail
  refine (Tryz.bits_LeadingZeros64 (y : Int) _ (by omega) (by omega)).mono ?_
  rintro e w1 ⟨rfl, rfl⟩
  rw [Int.toNat_natCast, HSN.out]
  go_upto_block 0 with fail
  go_cut [15] from 67 to 85 (fun q wx => q = .int .u64 (D1 : Int) ∧ wx = w1)
  case first =>
    go_wp2_with fail
    go_loop [15, 16] (DigS A B U m1) (fun q _ => (intOf q).toNat)
    case atStart => exact ⟨q1, r1, rfl, rfl, hq2, HD1⟩
    case round =>
      clear e1 e3 hor a1 a2 a3 a4 e5 e6 e7 hY1 hh h0 hl hs hb1 hm hU64 hq2 f1 hvY hd1
      obtain ⟨q, r, rfl, rfl, hr, HD⟩ := hrel
      have hqm : (q : Int) ≤ 4294967297 := by have := HD.out.2.2; omega
      have hr' : (r : Int) < 4294967296 := by omega
      clear hr
      by_cases hbig : 4294967296 ≤ q
      · have HN := Lib.hid (HD.out.down (by rw [← HY.out]; exact HUY.out) hm11 (.inl hbig))
        have hbig' : (4294967296 : Int) ≤ (q : Int) := by omega
        clear hbig
        have hq0 : (1 : Int) ≤ (q : Int) := by have := HN.out.1; omega
        by_cases hr2 : 4294967296 ≤ r + A
        · have HF : Hid (Value.int IntKind.u64 ((q : Int) - 1) = Value.int IntKind.u64 (D1 : Int)) := Lib.hid (by
            have h1 := HN.out.2.done hA0 (DigQ.past hB1 (by omega) hr2)
            rw [← HV1.out] at h1
            rw [← h1]
            congr 1
            omega)
          obtain ⟨R2, hR2⟩ : ∃ R2 : Nat, (r : Int) + (A : Int) = (R2 : Int) := ⟨r + A, by omega⟩
          have hr3 : (4294967296 : Int) ≤ (R2 : Int) := by omega
          clear hr2
          go_wp2_with fail
          go_meet
          exact ⟨HF.out, rfl⟩
        · have HM2 : Hid (DigS A B U m1 (.int .u64 ((q : Int) - 1)) (.int .u64 ((r + A : Nat) : Int))) := Lib.hid ⟨q - 1, r + A, by congr 1; omega, rfl, by omega, Lib.hid HN.out.2⟩
          obtain ⟨R2, hR2⟩ : ∃ R2 : Nat, (r : Int) + (A : Int) = (R2 : Int) := ⟨r + A, by omega⟩
          have hr3 : decide ((4294967296 : Int) ≤ (R2 : Int)) = false := decide_eq_false (by omega)
          clear hr2
          go_wp2_with fail
          go_round
          case rel => rw [show (r + A : Nat) = R2 by omega] at HM2; exact HM2.out
          case measure => simp [intOf]; omega
      · have hP : q * B ≤ 4294967295 * 4294967295 := Nat.mul_le_mul (by omega) (by omega)
        have e8 : IntKind.u64.wrap ((q : Int) * (B : Int)) = ((q * B : Nat) : Int) := by rw [← Int.natCast_mul, wrapL _ (by omega)]
        have hbig' : (q : Int) < 4294967296 := by omega
        by_cases hgt : r * 4294967296 + m1 < q * B
        · have HN := Lib.hid (HD.out.down (by rw [← HY.out]; exact HUY.out) hm11 (.inr hgt))
          have hgt' : 4294967296 * (r : Int) + (m1 : Int) < ((q * B : Nat) : Int) := by omega
          clear hgt hbig hP
          generalize q * B = P at *
          have hq0 : (1 : Int) ≤ (q : Int) := by have := HN.out.1; omega
          by_cases hr2 : 4294967296 ≤ r + A
          · have HF : Hid (Value.int IntKind.u64 ((q : Int) - 1) = Value.int IntKind.u64 (D1 : Int)) := Lib.hid (by
              have h1 := HN.out.2.done hA0 (DigQ.past hB1 (by omega) hr2)
              rw [← HV1.out] at h1
              rw [← h1]
              congr 1
              omega)
            obtain ⟨R2, hR2⟩ : ∃ R2 : Nat, (r : Int) + (A : Int) = (R2 : Int) := ⟨r + A, by omega⟩
            have hr3 : (4294967296 : Int) ≤ (R2 : Int) := by omega
            clear hr2
            go_wp2_with fail
            go_meet
            exact ⟨HF.out, rfl⟩
          · have HM2 : Hid (DigS A B U m1 (.int .u64 ((q : Int) - 1)) (.int .u64 ((r + A : Nat) : Int))) := Lib.hid ⟨q - 1, r + A, by congr 1; omega, rfl, by omega, Lib.hid HN.out.2⟩
            obtain ⟨R2, hR2⟩ : ∃ R2 : Nat, (r : Int) + (A : Int) = (R2 : Int) := ⟨r + A, by omega⟩
            have hr3 : decide ((4294967296 : Int) ≤ (R2 : Int)) = false := decide_eq_false (by omega)
            clear hr2
            go_wp2_with fail
            go_round
            case rel => rw [show (r + A : Nat) = R2 by omega] at HM2; exact HM2.out
            case measure => simp [intOf]; omega
        · have HF : Hid (q = D1) := Lib.hid (by rw [HV1.out]; exact HD.out.done hA0 (by omega))
          obtain ⟨T, hT⟩ : ∃ T : Nat, 4294967296 * (r : Int) + (m1 : Int) = (T : Int) := ⟨r * 4294967296 + m1, by omega⟩
          have hgt' : decide (T < q * B) = false := decide_eq_false (by omega)
          have hbig2 : decide ((4294967296 : Int) ≤ (q : Int)) = false := decide_eq_false (by omega)
          clear hgt hbig hP hbig'
          generalize q * B = P at *
          go_wp2_with fail
          go_meet
          exact ⟨by rw [← HF.out], rfl⟩
  case rest =>
    obtain ⟨hq, hw⟩ := hcut
    subst hq
    subst hw
    have HVY := Lib.hid hvY
    obtain ⟨D0, hD0⟩ : ∃ D0, D0 = (V * 4294967296 + m0) / Y := ⟨_, rfl⟩
    have hd0 := digit_lt HVY.out hm01
    have hvE : (V * 4294967296 + m0) / Y = (V * 4294967296 + m0) / (A * 4294967296 + B) := by rw [← HY.out]
    rw [← hD0] at hd0 HT hvE
    have HV0 := Lib.hid hvE
    clear hvE hD0
    have hV64 : V < 18446744073709551616 := by omega
    clear e6 e7 hq2 hU64
    have hq1 : V / A < 18446744073709551616 := Nat.lt_of_le_of_lt (Nat.div_le_self _ _) hV64
    have hq3 : V % A < 4294967296 := by have := Nat.mod_lt V (show 0 < A by omega); omega
    have e6 : IntKind.u64.wrap ((V : Int) / (A : Int)) = ((V / A : Nat) : Int) := by
      rw [← Int.natCast_ediv, wrapL _ hq1]
    have e7 : IntKind.u64.wrap ((V : Int) - IntKind.u64.wrap (((V / A : Nat) : Int) * (A : Int))) = ((V % A : Nat) : Int) := by
      have h1 := Nat.div_add_mod V A
      rw [show ((V / A : Nat) : Int) * (A : Int) = ((A * (V / A) : Nat) : Int) by push_cast; rw [Int.mul_comm], ← wrapL V hV64]
      exact wrapD (by omega) (by omega) (by omega)
    have HD2 : Hid (DigQ A B V m0 (V / A) (V % A)) := Lib.hid (DigQ.start hA0 hB1 hm01 (by rw [← HY.out]; exact hvY))
    clear hvY hq1
    generalize V / A = q2 at *
    generalize V % A = r2 at *
    have HTI := Lib.hid (show (((hi * 18446744073709551616 + lo) / y : Nat) : Int) = (D1 : Int) * 4294967296 + (D0 : Int) by rw [HT.out, Int.natCast_add, Int.natCast_mul]; rfl)
    go_upto_block 2 with fail
    go_cut [18] from 102 to 120 (fun q wx => q = .int .u64 (D0 : Int) ∧ wx = wc)
    case first =>
      go_wp2_with fail
      go_loop [18, 16] (DigS A B V m0) (fun q _ => (intOf q).toNat)
      case atStart => exact ⟨q2, r2, rfl, rfl, hq3, HD2⟩
      case round =>
        clear e6 e7 hY1 hh h0 hl hm hq3 hd1 hd0
        obtain ⟨q, r, rfl, rfl, hr, HD⟩ := hrel
        have hqm : (q : Int) ≤ 4294967297 := by have := HD.out.2.2; omega
        have hr' : (r : Int) < 4294967296 := by omega
        clear hr
        by_cases hbig : 4294967296 ≤ q
        · have HN := Lib.hid (HD.out.down (by rw [← HY.out]; exact HVY.out) hm01 (.inl hbig))
          have hbig' : (4294967296 : Int) ≤ (q : Int) := by omega
          clear hbig
          have hq0 : (1 : Int) ≤ (q : Int) := by have := HN.out.1; omega
          by_cases hr2 : 4294967296 ≤ r + A
          · have HF : Hid (Value.int IntKind.u64 ((q : Int) - 1) = Value.int IntKind.u64 (D0 : Int)) := Lib.hid (by
              have h1 := HN.out.2.done hA0 (DigQ.past hB1 (by omega) hr2)
              rw [← HV0.out] at h1
              rw [← h1]
              congr 1
              omega)
            obtain ⟨R2, hR2⟩ : ∃ R2 : Nat, (r : Int) + (A : Int) = (R2 : Int) := ⟨r + A, by omega⟩
            have hr3 : (4294967296 : Int) ≤ (R2 : Int) := by omega
            clear hr2
            go_wp2_with fail
            go_meet
            exact ⟨HF.out, rfl⟩
          · have HM2 : Hid (DigS A B V m0 (.int .u64 ((q : Int) - 1)) (.int .u64 ((r + A : Nat) : Int))) := Lib.hid ⟨q - 1, r + A, by congr 1; omega, rfl, by omega, Lib.hid HN.out.2⟩
            obtain ⟨R2, hR2⟩ : ∃ R2 : Nat, (r : Int) + (A : Int) = (R2 : Int) := ⟨r + A, by omega⟩
            have hr3 : decide ((4294967296 : Int) ≤ (R2 : Int)) = false := decide_eq_false (by omega)
            clear hr2
            go_wp2_with fail
            go_round
            case rel => rw [show (r + A : Nat) = R2 by omega] at HM2; exact HM2.out
            case measure => simp [intOf]; omega
        · have hP : q * B ≤ 4294967295 * 4294967295 := Nat.mul_le_mul (by omega) (by omega)
          have e8 : IntKind.u64.wrap ((q : Int) * (B : Int)) = ((q * B : Nat) : Int) := by rw [← Int.natCast_mul, wrapL _ (by omega)]
          have hbig' : (q : Int) < 4294967296 := by omega
          by_cases hgt : r * 4294967296 + m0 < q * B
          · have HN := Lib.hid (HD.out.down (by rw [← HY.out]; exact HVY.out) hm01 (.inr hgt))
            have hgt' : 4294967296 * (r : Int) + (m0 : Int) < ((q * B : Nat) : Int) := by omega
            clear hgt hbig hP
            generalize q * B = P at *
            have hq0 : (1 : Int) ≤ (q : Int) := by have := HN.out.1; omega
            by_cases hr2 : 4294967296 ≤ r + A
            · have HF : Hid (Value.int IntKind.u64 ((q : Int) - 1) = Value.int IntKind.u64 (D0 : Int)) := Lib.hid (by
                have h1 := HN.out.2.done hA0 (DigQ.past hB1 (by omega) hr2)
                rw [← HV0.out] at h1
                rw [← h1]
                congr 1
                omega)
              obtain ⟨R2, hR2⟩ : ∃ R2 : Nat, (r : Int) + (A : Int) = (R2 : Int) := ⟨r + A, by omega⟩
              have hr3 : (4294967296 : Int) ≤ (R2 : Int) := by omega
              clear hr2
              go_wp2_with fail
              go_meet
              exact ⟨HF.out, rfl⟩
            · have HM2 : Hid (DigS A B V m0 (.int .u64 ((q : Int) - 1)) (.int .u64 ((r + A : Nat) : Int))) := Lib.hid ⟨q - 1, r + A, by congr 1; omega, rfl, by omega, Lib.hid HN.out.2⟩
              obtain ⟨R2, hR2⟩ : ∃ R2 : Nat, (r : Int) + (A : Int) = (R2 : Int) := ⟨r + A, by omega⟩
              have hr3 : decide ((4294967296 : Int) ≤ (R2 : Int)) = false := decide_eq_false (by omega)
              clear hr2
              go_wp2_with fail
              go_round
              case rel => rw [show (r + A : Nat) = R2 by omega] at HM2; exact HM2.out
              case measure => simp [intOf]; omega
          · have HF : Hid (q = D0) := Lib.hid (by rw [HV0.out]; exact HD.out.done hA0 (by omega))
            obtain ⟨T, hT⟩ : ∃ T : Nat, 4294967296 * (r : Int) + (m0 : Int) = (T : Int) := ⟨r * 4294967296 + m0, by omega⟩
            have hgt' : decide (T < q * B) = false := decide_eq_false (by omega)
            have hbig2 : decide ((4294967296 : Int) ≤ (q : Int)) = false := decide_eq_false (by omega)
            clear hgt hbig hP hbig'
            generalize q * B = P at *
            go_wp2_with fail
            go_meet
            exact ⟨by rw [← HF.out], rfl⟩
    case rest =>
      obtain ⟨hq, hw⟩ := hcut
      subst hq
      subst hw
      go_wp2_with fail
      go_ret2
      unfold QuoPost
      rw [HTI.out]
      exact ⟨⟨_, rfl⟩, 0, rfl⟩
theorem div64_any (hi lo y : Nat) (hh : hi < y) (hl : lo < 18446744073709551616) (hy : y < 18446744073709551616) (w : World) :
    Calls Tryz.prog 182 #[.int .u64 hi, .int .u64 lo, .int .u64 y] w (QuoPost ((hi * 18446744073709551616 + lo) / y) w) := by
  rcases Nat.eq_zero_or_pos hi with h0 | h0
  · subst h0
    rw [Nat.zero_mul, Nat.zero_add]
    exact div64_small lo y hh hl hy w
  · exact div64_big hi lo y hh h0 hl hy w

end Go.Proofs.YtofehcpapdlcnabGreatDoor

namespace Go.Proofs.YtofehcpapdlcnabGreatDoor
open Go.RowKit

theorem digB_true {d : Int} (h : digB d = true) : 0 ≤ d ∧ d ≤ 999999999 := of_decide_eq_true h
theorem digB_false {d : Int} (h : digB d = false) : ¬ (0 ≤ d ∧ d ≤ 999999999) := of_decide_eq_false h

set_option maxHeartbeats 400000 in
set_option maxRecDepth 100000 in
theorem implNatOk_same (v : Value) (xs : List Int) (lo hi : Nat) (w : World) (hl : xs.length ≤ 9223372036854775807) (hr : Row w lo hi v (intsV xs)) :
    Calls Tryz.prog 126 #[v] w fun e w' => e = .returned (.bool (natOkB xs)) ∧ w = w' := by
  obtain ⟨A, c, rfl, hA⟩ := hr
  have HA := Lib.hid hA
  rw [intsV_length]
  clear hA
  by_cases h50 : xs.length ≤ 50
  · go_enter Tryz.func126, Tryz.ntmps126
    go_wp2
    go_loop [10] (fun i => ∃ k : Nat, k ≤ xs.length ∧ i = .int .i64 k ∧ Hid ((xs.take k).all digB = true)) (fun i => xs.length - (intOf i).toNat)
    case atStart => exact ⟨0, Nat.zero_le _, rfl, Lib.hid rfl⟩
    case round =>
      obtain ⟨k, hk, rfl, HD⟩ := hrel
      by_cases hlt : k < xs.length
      · obtain ⟨a, rfl, _, _, hca⟩ := HA.out k _ (intsV_at xs k hlt)
        by_cases hd : digB xs[k] = true
        · have HS := Lib.hid (all_succ xs k hlt HD.out hd)
          have hd2 := digB_true hd
          have hd3 := hd2.1
          have hd4 := hd2.2
          clear hd2 hd
          go_wp2
          go_round
          case rel => exact ⟨k + 1, by omega, by go_num, HS⟩
          case measure => simp [intOf]; omega
        · have hd' : digB xs[k] = false := by simpa using hd
          have HN := Lib.hid (not_all xs k hlt hd')
          have hd2 := digB_false hd'
          by_cases hneg : xs[k] < 0
          · go_wp2
            go_ret
            exact ⟨ret_bool HN.out.symm, rfl⟩
          · have hbig : 1000000000 ≤ xs[k] := by omega
            go_wp2
            go_ret
            exact ⟨ret_bool HN.out.symm, rfl⟩
      · have HF := Lib.hid (all_upto xs k HD.out hlt)
        by_cases h0 : xs.length = 0
        · have hz : ((xs.length : Int) == 0) = true := by simp [h0]
          obtain rfl : xs = [] := List.eq_nil_of_length_eq_zero h0
          clear h0
          go_wp2
          go_ret
          exact ⟨rfl, rfl⟩
        · have hz : ((xs.length : Int) == 0) = false := by rw [beq_eq_false_iff_ne]; omega
          have hlt2 : xs.length - 1 < xs.length := by omega
          obtain ⟨a, rfl, _, _, hca⟩ := HA.out (xs.length - 1) _ (intsV_at xs (xs.length - 1) hlt2)
          have HL := Lib.hid (ok_last xs HF.out h50 hlt2)
          clear h0
          go_wp2
          go_ret
          exact ⟨ret_bool HL.out, rfl⟩
  · have HN := Lib.hid (ok_long xs h50)
    go_enter Tryz.func126, Tryz.ntmps126
    go_wp2
    go_ret
    exact ⟨ret_bool HN.out.symm, rfl⟩
set_option maxHeartbeats 400000 in
set_option maxRecDepth 100000 in
theorem implNatOf_any (n : Int) (w : World) (h1 : n ≤ 9223372036854775807) :
    Calls Tryz.prog 128 #[.int .i64 n] w (NewInts (limbs n.toNat) w) := by
  obtain ⟨i0, hi, hz0, hz1, hz2⟩ := info_parts intInfo
  go_enter Tryz.func128, Tryz.ntmps128
  go_wp2
  go_loopw [0, 3] (fun a v wr => ∃ (m : Int) (out : List Int) (f : Nat), m ≤ 9223372036854775807 ∧ out.length + f ≤ 3 ∧ m < 1000000000 ^ f ∧ a = .int .i64 m ∧ Hid (out ++ limbs m.toNat = limbs n.toNat) ∧ wr.ownsRow w.heap.size 3 1 v out.length (intsV out) ∧ Below w.heap.size w wr) (fun a _ _ => (intOf a).toNat)
  case atStart => exact ⟨n, [], 3, h1, by simp, by omega, rfl, Lib.hid rfl, World.ownsRow_nil _ _ _ _, Below.refl _ _⟩
  case round =>
    obtain ⟨m, out, f, hm, hol, hmf, rfl, HE, hown, hb1⟩ := hrel
    by_cases h0 : 0 < m
    · obtain ⟨g, rfl⟩ : ∃ g, f = g + 1 := by
        cases f with
        | zero => simp at hmf; omega
        | succ g => exact ⟨g, rfl⟩
      have hmg : m / 1000000000 < 1000000000 ^ g := by
        rw [Int.pow_succ] at hmf
        exact Int.ediv_lt_of_lt_mul (by omega) hmf
      have HS : Hid (out ++ [m % 1000000000] ++ limbs (m / 1000000000).toNat = limbs n.toNat) := Lib.hid (by
        have e := HE.out
        rw [limbs_pos m.toNat (by omega)] at e
        rw [List.append_assoc, ← e, show ((m.toNat % 1000000000 : Nat) : Int) = m % 1000000000 from by omega, show m.toNat / 1000000000 = (m / 1000000000).toNat from by omega]
        rfl)
      clear hmf
      go_wp2_with (at_builtin; refine wpList_append_own _ rfl (.tmp 8) (.tmp 11) 22 rfl w.heap.size 3 i0 (.int .i64 0) 1 8 Tryz.underlying22 hi hz0 hz1 hz2 rfl (by decide) _ _ _ rfl (own_alloc hown _) ⟨wr.heap.size, 0, none⟩ 1 1 [.int .i64 (m % 1000000000)] rfl rfl (one_new _ _ _) ?c2 ?c3 ?c4 ?c5 ?_)
      case c2 => first | (intro u hu; simp at hu; subst hu; rfl) | rfl
      case c3 => unfold maxLen; omega
      case c4 => omega
      case c5 => have := hb1.size; simp; omega
      intro v1 w1 hown1 hg1 _
      have hb2 := below_push hb1 (Nat.le_refl _) hown hg1
      go_wp2
      exact ⟨⟨m / 1000000000, out ++ [m % 1000000000], g, by omega, by simp; omega, hmg, rfl, HS, by simpa [intsV] using hown1, hb2⟩, by simp [intOf]; omega⟩
    · have HF : Hid (out = limbs n.toNat) := Lib.hid (by have e := HE.out; rwa [show m.toNat = 0 from by omega, limbs_none, List.append_nil] at e)
      go_wp2
      go_ret
      exact ⟨_, rfl, by rw [← HF.out]; exact hown, hb1⟩

/-- a callee that only computes, met inside a region that draws -/
theorem quiet_at {P : Program} {f : FuncId} {args : Array Value} {W : World} {X : Nat → World} {n : Nat} {v : Value} (hX : X n = W)
    (h : Calls P f args W fun e w' => e = .returned v ∧ W = w') : Calls P f args W fun e w'' => e = .returned v ∧ ∃ m, w'' = X m :=
  h.mono fun _ _ ⟨he, hm⟩ => ⟨he, n, hm.symm.trans hX.symm⟩

set_option maxHeartbeats 400000 in
set_option maxRecDepth 100000 in
theorem isNaN_any (x : Int) (w : World) : Calls Tryz.prog 157 #[.int .i64 x] w fun e w' => e = .returned (.bool false) ∧ w = w' := by
  go_enter Tryz.func157, Tryz.ntmps157
  go_wp2
  go_ret
  exact ⟨by simp, rfl⟩
set_option maxHeartbeats 400000 in
set_option maxRecDepth 100000 in
theorem compare_any (x y : Int) (w : World) : Calls Tryz.prog 130 #[.int .i64 x, .int .i64 y] w fun e w' => e = .returned (.int .i64 (cmpI x y)) ∧ w = w' := by
  go_enter Tryz.func130, Tryz.ntmps130
  go_wp2_with (go_at_call 157; refine (isNaN_any _ _).mono ?_; rintro e w' ⟨rfl, rfl⟩)
  all_goals (go_ret; refine ⟨?_, rfl⟩; unfold cmpI; (repeat' split) <;> first | rfl | (exfalso; omega))

set_option maxHeartbeats 1000000 in
set_option maxRecDepth 100000 in
theorem compareLimbs_any (va vb : Value) (a b : List Int) (la ha lb hb : Nat) (w : World) (hal : a.length ≤ 9223372036854775807) (_hbl : b.length ≤ 9223372036854775807) (oa : DigN a ∧ a.getLastD 1 ≠ 0) (ob : DigN b ∧ b.getLastD 1 ≠ 0)
    (hra : Row w la ha va (intsV a)) (hrb : Row w lb hb vb (intsV b)) :
    Calls Tryz.prog 99 #[va, vb] w fun e w' => e = .returned (.int .i64 (cmpI (nval a) (nval b))) ∧ ∃ q, w.drewN q = w' := by
  have OA := Lib.hid oa
  have OB := Lib.hid ob
  obtain ⟨A, c, rfl, hA⟩ := hra
  obtain ⟨B, d, rfl, hB⟩ := hrb
  rw [intsV_length]
  rw [intsV_length]
  have HA := Lib.hid hA
  have HB := Lib.hid hB
  clear hA hB oa ob
  by_cases hlen : a.length = b.length
  · have HL := Lib.hid hlen
    have hbe : ((a.length : Int) != (b.length : Int)) = false := by simp [hlen]
    clear hlen
    go_enter Tryz.func99, Tryz.ntmps99
    go_wp2
    go_loopw [5] (fun i wr => ∃ k q : Nat, k ≤ a.length ∧ i = .int .i64 ((k : Int) - 1) ∧ wr = w.drewN q ∧ Hid (a.drop k = b.drop k)) (fun i _ => (intOf i + 1).toNat)
    case atStart => exact ⟨a.length, 0, Nat.le_refl _, rfl, rfl, Lib.hid (by rw [List.drop_of_length_le (Nat.le_refl _), List.drop_of_length_le (by have := HL.out; omega)])⟩
    case round =>
      obtain ⟨k, q, hk, rfl, rfl, HT⟩ := hrel
      by_cases hz : 0 < k
      · obtain ⟨m, rfl⟩ : ∃ m, k = m + 1 := ⟨k - 1, by omega⟩
        have hlt : m < a.length := by omega
        have hlt2 : m < b.length := by have := HL.out; omega
        obtain ⟨p, rfl, _, _, hca⟩ := HA.out m _ (intsV_at a m hlt)
        obtain ⟨r, rfl, _, _, hcb⟩ := HB.out m _ (intsV_at b m hlt2)
        have hm1 : ((m + 1 : Nat) : Int) - 1 = (m : Int) := by omega
        rw [hm1]
        clear hm1 hz
        by_cases he : a[m] = b[m]
        · have hne : (a[m] != b[m]) = false := by simp [he]
          have HS := Lib.hid (drop_same a b m hlt hlt2 HT.out he)
          clear he
          go_wp2
          go_quiet (fail)
          go_wp2
          go_roundw
          case rel => exact ⟨m, _, by omega, rfl, rfl, HS⟩
          case measure => simp [intOf]
        · have hne : (a[m] != b[m]) = true := by rw [bne_iff_ne]; exact he
          have HV : Hid (cmpI a[m] b[m] = cmpI (nval a) (nval b)) := Lib.hid (by
            by_cases h1 : a[m] < b[m]
            · rw [cmp_lt h1, cmp_lt (nval_lt_down a b OA.out.1 OB.out.1 HL.out m (by rw [nval_drop a m hlt, nval_drop b m hlt2, HT.out]; omega))]
            · rw [cmp_gt (show b[m] < a[m] by omega), cmp_gt (nval_lt_down b a OB.out.1 OA.out.1 HL.out.symm m (by rw [nval_drop a m hlt, nval_drop b m hlt2, HT.out]; omega))])
          clear he
          go_wp2
          go_quiet (fail)
          go_wp2
          go_quiet ((go_at_call 130; exact quiet_at rfl (compare_any _ _ _)))
          go_wp2
          go_ret
          exact ⟨ret_int HV.out, drew_three _ _ _ _⟩
      · obtain rfl : k = 0 := by omega
        go_wp2
        go_ret
        exact ⟨ret_int (cmp_eq (by have := HT.out; rw [List.drop_zero, List.drop_zero] at this; rw [this])).symm, q, rfl⟩
  · have hbe : ((a.length : Int) != (b.length : Int)) = true := by simp; omega
    have HV : Hid (cmpI (a.length : Int) (b.length : Int) = cmpI (nval a) (nval b)) := Lib.hid (by
      by_cases hs : a.length < b.length
      · rw [cmp_lt (by omega), cmp_lt (nval_short a b OA.out.1 OB.out.1 hs OB.out.2)]
      · rw [cmp_gt (by omega), cmp_gt (nval_short b a OB.out.1 OA.out.1 (by omega) OA.out.2)])
    clear hlen
    go_enter Tryz.func99, Tryz.ntmps99
    go_wp2_with (go_at_call 130; refine (compare_any _ _ _).mono ?_; rintro e w' ⟨rfl, rfl⟩)
    go_ret
    exact ⟨ret_int HV.out, 0, rfl⟩

set_option maxHeartbeats 1000000 in
set_option maxRecDepth 100000 in
theorem implNatCmp_drew (va vb : Value) (a b : List Int) (la ha lb hb : Nat) (w : World) (hal : a.length ≤ 9223372036854775807) (hbl : b.length ≤ 9223372036854775807)
    (hra : Row w la ha va (intsV a)) (hrb : Row w lb hb vb (intsV b)) :
    Calls Tryz.prog 127 #[va, vb] w fun e w' => e = .returned (.int .i64 (cmpN a b)) ∧ ∃ q, w.drewN q = w' := by
  by_cases oa : natOkB a = true
  · by_cases ob : natOkB b = true
    · have HC := Lib.hid (show cmpN a b = cmpI (nval a) (nval b) by unfold cmpN; rw [if_pos ⟨oa, ob⟩])
      have OA := Lib.hid (ok_dig oa)
      have OB := Lib.hid (ok_dig ob)
      go_enter Tryz.func127, Tryz.ntmps127
      go_wp2_with fail
      refine (implNatOk_same va a la ha _ hal hra).mono ?_
      rintro e w' ⟨rfl, rfl⟩
      rw [oa]
      go_wp2_with fail
      refine (implNatOk_same vb b lb hb _ hbl hrb).mono ?_
      rintro e w' ⟨rfl, rfl⟩
      rw [ob]
      clear oa ob
      go_wp2_with fail
      refine (compareLimbs_any va vb a b la ha lb hb _ hal hbl OA.out OB.out hra hrb).mono ?_
      rintro e w' ⟨rfl, q, rfl⟩
      go_wp2
      go_ret
      exact ⟨ret_int HC.out.symm, q, rfl⟩
    · have ob' : natOkB b = false := by simpa using ob
      have HC := Lib.hid (show cmpN a b = 0 by unfold cmpN; rw [if_neg (fun h => ob h.2)])
      clear ob
      go_enter Tryz.func127, Tryz.ntmps127
      go_wp2_with fail
      refine (implNatOk_same va a la ha _ hal hra).mono ?_
      rintro e w' ⟨rfl, rfl⟩
      rw [oa]
      go_wp2_with fail
      refine (implNatOk_same vb b lb hb _ hbl hrb).mono ?_
      rintro e w' ⟨rfl, rfl⟩
      rw [ob']
      go_wp2
      go_ret
      exact ⟨ret_int HC.out.symm, 0, rfl⟩
  · have oa' : natOkB a = false := by simpa using oa
    have HC := Lib.hid (show cmpN a b = 0 by unfold cmpN; rw [if_neg (fun h => oa h.1)])
    clear oa
    go_enter Tryz.func127, Tryz.ntmps127
    go_wp2_with fail
    refine (implNatOk_same va a la ha _ hal hra).mono ?_
    rintro e w' ⟨rfl, rfl⟩
    rw [oa']
    go_wp2
    go_ret
    exact ⟨ret_int HC.out.symm, 0, rfl⟩
theorem implNatCmp_any (va vb : Value) (a b : List Int) (la ha lb hb : Nat) (w : World) (hal : a.length ≤ 1048576) (hbl : b.length ≤ 1048576) (_ : ha ≤ w.heap.size) (_ : hb ≤ w.heap.size)
    (hra : Row w la ha va (intsV a)) (hrb : Row w lb hb vb (intsV b)) :
    Calls Tryz.prog 127 #[va, vb] w fun e w' => e = .returned (.int .i64 (cmpN a b)) ∧ Below w.heap.size w w' := by
  refine (implNatCmp_drew va vb a b la ha lb hb w (by omega) (by omega) hra hrb).mono ?_
  rintro e w' ⟨rfl, q, rfl⟩
  exact ⟨rfl, below_drewN (Below.refl _ _) q⟩

theorem max_limbs : limbs (9223372036854775807 : Int).toNat = [854775807, 223372036, 9] := by
  rw [show (9223372036854775807 : Int).toNat = 9223372036854775807 from rfl, limbs_pos _ (by decide), limbs_pos _ (by decide), limbs_pos _ (by decide), limbs, dif_pos (by decide)]
  rfl

set_option maxHeartbeats 1000000 in
set_option maxRecDepth 100000 in
theorem implNatInt_any (v : Value) (a : List Int) (lo hi : Nat) (w : World) (hal : a.length ≤ 1048576) (hhi : hi ≤ w.heap.size) (hr : Row w lo hi v (intsV a)) :
    Calls Tryz.prog 93 #[v] w (TwoPost (natIntN a) w) := by
  by_cases ok : natOkB a = true
  · have pa := natOk_parts ok
    have PA := Lib.hid pa
    have h50 := pa.2.1
    clear pa
    have OK := Lib.hid ok
    have okm : natOkB [854775807, 223372036, 9] = true := rfl
    by_cases hbig : 9223372036854775807 < nval a
    · have HR := Lib.hid (show natIntN a = (0, false) by unfold natIntN; rw [if_neg (fun h => by have := h.2; omega)])
      have HC : Hid (cmpN a [854775807, 223372036, 9] = 1) := Lib.hid (by unfold cmpN; rw [if_pos ⟨OK.out, okm⟩]; exact cmp_gt (by rw [max_nat]; exact hbig))
      clear hbig okm
      go_enter Tryz.func93, Tryz.ntmps93
      go_wp2_with fail
      refine (implNatOk_same v a lo hi _ (by omega) hr).mono ?_
      rintro e w' ⟨rfl, rfl⟩
      rw [ok]
      go_wp2_with fail
      refine (implNatOf_any 9223372036854775807 _ (by omega)).mono ?_
      rintro e w1 ⟨v1, rfl, o1, b1⟩
      rw [max_limbs] at o1
      go_wp2_with fail
      refine (implNatCmp_drew v v1 a [854775807, 223372036, 9] lo hi _ _ _ (by omega) (by simp) (hr.below b1 hhi) (Row.of_own o1)).mono ?_
      rintro e w' ⟨rfl, q, rfl⟩
      rw [HC.out]
      go_wp2
      go_ret2
      exact ⟨by rw [HR.out]; rfl, below_drewN b1 q⟩
    · have HR := Lib.hid (show natIntN a = (nval a, true) by unfold natIntN; rw [if_pos ⟨ok, by omega⟩])
      have hcd : ¬ 0 < cmpN a [854775807, 223372036, 9] := by
        unfold cmpN
        rw [if_pos ⟨ok, okm⟩]
        unfold cmpI
        rw [max_nat, if_neg (show ¬ 9223372036854775807 < nval a from hbig)]
        split <;> omega
      have hnv : nval a ≤ 9223372036854775807 := by omega
      clear hbig okm
      go_enter Tryz.func93, Tryz.ntmps93
      go_wp2_with fail
      refine (implNatOk_same v a lo hi _ (by omega) hr).mono ?_
      rintro e w' ⟨rfl, rfl⟩
      rw [ok]
      go_wp2_with fail
      refine (implNatOf_any 9223372036854775807 _ (by omega)).mono ?_
      rintro e w1 ⟨v1, rfl, o1, b1⟩
      rw [max_limbs] at o1
      go_wp2_with fail
      refine (implNatCmp_drew v v1 a [854775807, 223372036, 9] lo hi _ _ _ (by omega) (by simp) (hr.below b1 hhi) (Row.of_own o1)).mono ?_
      rintro e w' ⟨rfl, q, rfl⟩
      obtain ⟨A, c, rfl, hA⟩ := hr
      have HA := Lib.hid hA
      rw [intsV_length]
      clear hA ok
      have hbl : Below w.heap.size w (w1.drewN q) := below_drewN b1 q
      go_wp2
      go_loop [4, 5] (fun n i => ∃ (k : Nat) (m : Int), k ≤ a.length ∧ i = .int .i64 ((k : Int) - 1) ∧ n = .int .i64 m ∧ Hid (m = nval (a.drop k))) (fun _ i => (intOf i + 1).toNat)
      case atStart => exact ⟨a.length, 0, Nat.le_refl _, rfl, rfl, Lib.hid (by rw [List.drop_of_length_le (Nat.le_refl _)]; rfl)⟩
      case round =>
        obtain ⟨k, m, hk, rfl, rfl, HM⟩ := hrel
        have hm0 : 0 ≤ m := by rw [HM.out]; exact nval_nonneg _ (PA.out.1.drop k)
        by_cases hz : 0 < k
        · obtain ⟨j, rfl⟩ : ∃ j, k = j + 1 := ⟨k - 1, by omega⟩
          have hlt : j < a.length := by omega
          obtain ⟨p, rfl, _, hpb, hca⟩ := HA.out j _ (intsV_at a j hlt)
          have hca' : (w1.drewN q).cell? (p.add j) = some (.int .i64 a[j]) := (hbl.cell (by rw [block_add]; omega)).trans hca
          have hda := PA.out.1.at_ j hlt
          have HD := Lib.hid (nval_drop a j hlt)
          have hle : m * 1000000000 + a[j] ≤ 9223372036854775807 := by
            have h1 := nval_drop_le a PA.out.1 j
            have h2 := HD.out
            have h3 := HM.out
            omega
          have hm1 : ((j + 1 : Nat) : Int) - 1 = (j : Int) := by omega
          rw [hm1]
          clear hm1 hz hca
          go_wp2
          go_round
          case rel => exact ⟨j, m * 1000000000 + a[j], by omega, rfl, rfl, Lib.hid (by rw [HD.out, ← HM.out]; omega)⟩
          case measure => simp [intOf]
        · obtain rfl : k = 0 := by omega
          go_wp2
          go_ret2
          exact ⟨by rw [HR.out, HM.out]; rfl, hbl⟩
  · have ok' : natOkB a = false := by simpa using ok
    have HR := Lib.hid (show natIntN a = (0, false) by unfold natIntN; rw [if_neg (fun h => ok h.1)])
    clear ok
    go_enter Tryz.func93, Tryz.ntmps93
    go_wp2_with fail
    refine (implNatOk_same v a lo hi _ (by omega) hr).mono ?_
    rintro e w' ⟨rfl, rfl⟩
    rw [ok']
    go_wp2
    go_ret2
    exact ⟨by rw [HR.out]; rfl, Below.refl _ _⟩
end Go.Proofs.YtofehcpapdlcnabGreatDoor

namespace Go.Proofs.YtofehcpapdlcnabGreatDoor
open Go.RowKit

/-- what FairShare answers -/
def fairR (x : SI) (w : List Int) (i : Int) : QI × Bool :=
  if okW w = true ∧ (0 ≤ i ∧ i < w.length) ∧ okS x = true then lowQ x.1 ((nval x.2).toNat * (natW w)[i.toNat]!) (natW w).sum else (zeroQ, false)
theorem lowQ_scale (n : Bool) {g : Nat} (a b : Nat) (hg : 0 < g) : lowQ n (g * a) (g * b) = lowQ n a b := by
  unfold lowQ
  rw [Nat.gcd_mul_left, Nat.mul_div_mul_left _ _ hg, Nat.mul_div_mul_left _ _ hg]
  by_cases hb : b = 0
  · subst hb; rfl
  · have : g * b ≠ 0 := by rw [Nat.mul_ne_zero_iff]; omega
    simp [hb, this]
theorem lowQ_none (n : Bool) {T : Nat} (h : 0 < T) : lowQ n 0 T = (oneQ, true) := by
  have e := lowQ_scale n 0 1 h
  rw [Nat.mul_zero, Nat.mul_one] at e
  have h0 : limbs 0 = [] := (natOk_limbs (xs := []) rfl).symm
  have h1 : limbs 1 = [1] := (natOk_limbs (xs := [1]) rfl).symm
  rw [e]
  unfold lowQ
  rw [Nat.gcd_one_right, Nat.zero_div, Nat.div_one, h0, h1, if_pos ⟨by decide, by decide, by decide⟩]
  cases n <;> rfl
theorem bp18_ge : (1000000000000000000 : Int) ≤ bp 18 := by have : bp 2 ≤ bp 18 := bp_mono (by omega); have e : bp 2 = 1000000000000000000 := rfl; omega
/-- the parts of a fraction in lowest terms -/
theorem lowQ_parts {n : Bool} {a b : Nat} (h : (lowQ n a b).2 = true) : b ≠ 0 ∧ okQ (lowQ n a b).1 = true ∧ (lowQ n a b).1.1.1 = (n && decide (a ≠ 0)) ∧ topN (lowQ n a b).1 = a / Nat.gcd a b ∧ denQ (lowQ n a b).1 = b / Nat.gcd a b := by
  have ok := lowQ_ok n a b h
  unfold lowQ at h ok ⊢
  split
  · rename_i hc
    rw [if_pos hc] at ok
    obtain ⟨hb, h1, h2⟩ := hc
    have hg : 0 < Nat.gcd a b := Nat.gcd_pos_of_pos_right _ (by omega)
    refine ⟨hb, ok, ?_, ?_, ?_⟩
    · dsimp only
      rw [limbs_18 h1]
      have e : (0 < (limbs (a / Nat.gcd a b)).length) ↔ a ≠ 0 := by
        have := limbs_zero_iff (a / Nat.gcd a b)
        have h3 : a / Nat.gcd a b = 0 ↔ a = 0 := by
          rw [Nat.div_eq_zero_iff]
          constructor
          · intro hh
            rcases hh with hh | hh
            · omega
            · by_cases ha : a = 0
              · exact ha
              · have := Nat.gcd_le_left (m := a) b (by omega)
                omega
          · intro hh; subst hh; exact .inr (by omega)
        omega
      dsimp only
      rw [decide_eq_decide.2 e]
    · unfold topN
      dsimp only
      rw [limbs_18 h1]
      dsimp only
      rw [limbs_val, Int.toNat_natCast]
    · unfold denQ
      dsimp only
      rw [limbs_val, Int.toNat_natCast]
  · rename_i hc
    rw [if_neg hc] at h
    cases h
theorem limbs_monoN {m n : Nat} (h : m ≤ n) : (limbs m).length ≤ (limbs n).length := by
  have := limbs_mono (m := (m : Int)) (n := (n : Int)) (by omega) (by omega)
  rw [Int.toNat_natCast, Int.toNat_natCast] at this
  exact this
/-- a part of more limbs than there may be stays so, times a whole number -/
theorem lowQ_grown {n : Bool} {a T k : Nat} (hT : 0 < T) (hT2 : T ≤ 30000000000) (hk : 0 < k) (h : (lowQ n a T).2 = false) : lowQ n (a * k) T = (zeroQ, false) := by
  have hl : ∀ g, (limbs (T / g)).length ≤ 18 := fun g => limbs_length_le _ 18 (by have := bp18_ge; have := Nat.div_le_self T g; omega)
  have h1 : ¬ (limbs (a / Nat.gcd a T)).length ≤ 18 := by
    intro hc
    unfold lowQ at h
    rw [if_pos ⟨by omega, hc, hl _⟩] at h
    cases h
  have hg : 0 < Nat.gcd a T := Nat.gcd_pos_of_pos_right _ hT
  have hg2 : 0 < Nat.gcd (a * k) T := Nat.gcd_pos_of_pos_right _ hT
  have hd : Nat.gcd (a * k) T ∣ Nat.gcd a T * k := by
    have h3 : Nat.gcd (a * k) T ∣ a * k := Nat.gcd_dvd_left _ _
    have h4 : Nat.gcd (a * k) T ∣ T * k := Nat.dvd_trans (Nat.gcd_dvd_right _ _) (Nat.dvd_mul_right _ _)
    have h5 := Nat.dvd_gcd h3 h4
    rwa [Nat.gcd_mul_right] at h5
  have hle : a / Nat.gcd a T ≤ a * k / Nat.gcd (a * k) T := by
    have e : a / Nat.gcd a T = a * k / (Nat.gcd a T * k) := (Nat.mul_div_mul_right _ _ hk).symm
    rw [e]
    exact Nat.div_le_div_left (Nat.le_of_dvd (Nat.mul_pos hg hk) hd) hg2
  have h2 := limbs_monoN hle
  unfold lowQ
  rw [if_neg (fun hc => h1 (Nat.le_trans h2 hc.2.1))]
/-- impl divides by the whole before it multiplies -/
theorem fair_mul {x : SI} {T k : Nat} (okx : okS x = true) (hT : 0 < T) (hT2 : T ≤ 30000000000) (hk : 0 < k) (hk2 : k ≤ 1000000000) : mulQ (makeQ x (ofZ (T : Int))).1 (makeQ (ofZ (k : Int)) (ofZ 1)).1 = lowQ x.1 ((nval x.2).toNat * k) T := by
  have b50 : (30000000000 : Int) < bp 50 := by have : bp 18 ≤ bp 50 := bp_mono (by omega); have := bp18_ge; omega
  have eT : ofZ (T : Int) = (false, limbs T) := by
    unfold ofZ
    rw [show ((T : Int)).natAbs = T by omega, if_pos (limbs_length_le _ 50 (by omega)), decide_eq_false (by omega)]
  have e1 : makeQ x (ofZ (T : Int)) = lowQ x.1 (nval x.2).toNat T := by
    unfold makeQ
    rw [if_pos ⟨okx, ofZ_ok _⟩, eT]
    dsimp only
    rw [limbs_val, Int.toNat_natCast, Bool.bne_false]
  have e2 : makeQ (ofZ (k : Int)) (ofZ 1) = lowQ false k 1 := by
    have ek : ofZ (k : Int) = (false, limbs k) := by
      unfold ofZ
      rw [show ((k : Int)).natAbs = k by omega, if_pos (limbs_length_le _ 50 (by omega)), decide_eq_false (by omega)]
    have eo : ofZ 1 = (false, limbs 1) := by
      unfold ofZ
      rw [show ((1 : Int)).natAbs = 1 by omega, if_pos (limbs_length_le _ 50 (by have := bp50; omega)), decide_eq_false (by omega)]
    unfold makeQ
    rw [if_pos ⟨ofZ_ok _, ofZ_ok _⟩, ek, eo]
    dsimp only
    rw [limbs_val, limbs_val, Int.toNat_natCast, Int.toNat_natCast]
    rfl
  have l2 := low_is false k 1 (by omega) (by have := bp18_ge; omega) (by have := bp18_ge; omega)
  have p2 := lowQ_parts l2.1
  rw [Nat.gcd_one_right, Nat.div_one, Nat.div_one] at p2
  rw [e1, e2]
  generalize (nval x.2).toNat = X
  cases hr : (lowQ x.1 X T).2 with
  | false =>
    have hz : (lowQ x.1 X T).1 = zeroQ := by
      unfold lowQ at hr ⊢
      split
      · rename_i hc
        rw [if_pos hc] at hr
        cases hr
      · rfl
    rw [hz, lowQ_grown hT hT2 hk hr]
    unfold mulQ
    rw [if_neg (fun h => by have := h.1; rw [show okQ zeroQ = false from rfl] at this; cases this)]
  | true =>
    have p1 := lowQ_parts hr
    have hg : 0 < Nat.gcd X T := Nat.gcd_pos_of_pos_right _ hT
    have e3 : Nat.gcd X T * (X / Nat.gcd X T * k) = X * k := by rw [← Nat.mul_assoc, Nat.mul_div_cancel' (Nat.gcd_dvd_left X T)]
    have e4 : Nat.gcd X T * (T / Nat.gcd X T * 1) = T := by rw [Nat.mul_one, Nat.mul_div_cancel' (Nat.gcd_dvd_right X T)]
    unfold mulQ
    rw [if_pos ⟨p1.2.1, p2.2.1⟩, p1.2.2.1, p2.2.2.1, p1.2.2.2.2, p2.2.2.2.2]
    have e5 : (nval (lowQ x.1 X T).1.1.2).toNat = X / Nat.gcd X T := p1.2.2.2.1
    have e6 : (nval (lowQ false k 1).1.1.2).toNat = k := p2.2.2.2.1
    rw [e5, e6, Bool.false_and, Bool.bne_false]
    rw [← lowQ_scale (x.1 && decide (X ≠ 0)) (X / Nat.gcd X T * k) (T / Nat.gcd X T * 1) hg, e3, e4]
    refine lowQ_sign fun ha => ?_
    have : X ≠ 0 := fun h => ha (by rw [h, Nat.zero_mul])
    rw [decide_eq_true this, Bool.and_true]
end Go.Proofs.YtofehcpapdlcnabGreatDoor

namespace Go.Proofs.YtofehcpapdlcnabGreatDoor
open Go.RowKit

/-- a fraction that is a over T -/
structure ValR (y : QI) (T : Nat) (a : Int) : Prop where
  ok : okQ y = true
  val : numQ y * (T : Int) = a * (denQ y : Int)
theorem valR_cmp {x y : QI} {T : Nat} {a b : Int} (hx : ValR x T a) (hy : ValR y T b) (hT : 0 < T) : cmpQ x y = cmpI a b := by
  have dx : (0 : Int) < denQ x := by have := denQ_pos hx.ok; omega
  have dy : (0 : Int) < denQ y := by have := denQ_pos hy.ok; omega
  have hd : (0 : Int) < denQ x * denQ y := Int.mul_pos dx dy
  have hT' : (0 : Int) < T := by omega
  have e1 : numQ x * denQ y * T = a * (denQ x * denQ y) := by
    have : numQ x * denQ y * (T : Int) = numQ x * T * denQ y := by rw [Int.mul_assoc, Int.mul_comm (denQ y : Int), ← Int.mul_assoc]
    rw [this, hx.val, Int.mul_assoc]
  have e2 : numQ y * denQ x * T = b * (denQ x * denQ y) := by
    have : numQ y * denQ x * (T : Int) = numQ y * T * denQ x := by rw [Int.mul_assoc, Int.mul_comm (denQ x : Int), ← Int.mul_assoc]
    rw [this, hy.val, Int.mul_assoc, Int.mul_comm (denQ y : Int)]
  have l1 : numQ x * denQ y < numQ y * denQ x ↔ a < b := by
    rw [← Int.mul_lt_mul_right hT', e1, e2]
    exact Int.mul_lt_mul_right hd
  have l2 : numQ y * denQ x < numQ x * denQ y ↔ b < a := by
    rw [← Int.mul_lt_mul_right hT', e1, e2]
    exact Int.mul_lt_mul_right hd
  unfold cmpQ
  rw [if_pos ⟨hx.ok, hy.ok⟩]
  unfold cmpI
  simp only [l1, l2]
theorem valR_zero (T : Nat) : ValR oneQ T 0 := ⟨oneQ_ok, by rw [show numQ oneQ = 0 from rfl, Int.zero_mul, Int.zero_mul]⟩
theorem valR_neg {y : QI} {T : Nat} {a : Int} (h : ValR y T a) : (negQ y).2 = true ∧ ValR (negQ y).1 T (-a) := by
  obtain ⟨n1, n2, n3, n4⟩ := numQ_neg h.ok
  exact ⟨n1, n2, by rw [n3, n4, Int.neg_mul, Int.neg_mul, h.val]⟩
/-- a size with the sign of x -/
def sgZ (n : Bool) (k : Nat) : Int := if n = true then -(k : Int) else k
/-- the part, rounded down, and what is left of it -/
theorem fair_parts {n : Bool} {a T : Nat} (h : (lowQ n a T).2 = true) : restB (lowQ n a T).1 0 = true ∧ restS (lowQ n a T).1 0 = ofZ (sgZ n (a / T)) ∧ ValR (restQ (lowQ n a T).1 0) T (sgZ n (a % T)) ∧ roundR (lowQ n a T).1 0 = (ofZ (sgZ n (a / T)), true) := by
  obtain ⟨hT, ok, es, et, ed⟩ := lowQ_parts h
  have hg : 0 < Nat.gcd a T := Nat.gcd_pos_of_pos_right _ (by omega)
  obtain ⟨g1, g2, g3, g4⟩ := rest_all (m := 0) ok rfl
  obtain ⟨r1, r2⟩ := rest_parts ok 0
  have ea : Nat.gcd a T * topN (lowQ n a T).1 = a := by rw [et]; exact Nat.mul_div_cancel' (Nat.gcd_dvd_left a T)
  have eT : Nat.gcd a T * denQ (lowQ n a T).1 = T := by rw [ed]; exact Nat.mul_div_cancel' (Nat.gcd_dvd_right a T)
  have hp := parts_of ok
  have hd := denQ_pos ok
  generalize hr : (lowQ n a T).1 = r at *
  generalize Nat.gcd a T = g at *
  have q1 : a / T = topN r / denQ r := by rw [← ea, ← eT, Nat.mul_div_mul_left _ _ hg]
  have q2 : a % T = g * (topN r % denQ r) := by rw [← ea, ← eT, Nat.mul_mod_mul_left]
  have hN : roundN r.1.1 (topN r) (denQ r) 0 = topN r / denQ r := by
    unfold roundN
    rw [if_neg (fun hh => by have := hh.2; unfold awayB at this; rw [if_pos rfl] at this; cases this)]
    rfl
  have ha0 : a = 0 ↔ topN r = 0 := by
    constructor
    · intro h0; rw [h0] at ea; rcases Nat.mul_eq_zero.1 ea with h1 | h1 <;> omega
    · intro h0; rw [h0, Nat.mul_zero] at ea; exact ea.symm
  have eS : roundS r 0 = ofZ (sgZ n (a / T)) := by
    unfold roundS sgZ
    rw [mkS_limbs, hN, q1, es]
    by_cases h0 : a = 0
    · have := ha0.1 h0
      rw [this, Nat.zero_div]
      cases n <;> simp
    · rw [decide_eq_true h0, Bool.and_true]
  have htop : numQ r = sgZ n (topN r) := by
    rw [hp.top, es]
    unfold sgZ
    by_cases h0 : a = 0
    · have := ha0.1 h0
      rw [this]
      cases n <;> simp
    · rw [decide_eq_true h0, Bool.and_true]
  have hval : valS (roundS r 0) = sgZ n (topN r / denQ r) := by
    rw [roundS_val hp, hN, es]
    unfold sgZ
    by_cases h0 : a = 0
    · have := ha0.1 h0
      rw [this, Nat.zero_div]
      cases n <;> simp
    · rw [decide_eq_true h0, Bool.and_true]
  refine ⟨g2, by rw [g3, eS], ?_, by rw [g1, eS]⟩
  -- the rest's value
  have h18 := round_lt18 ok 0
  have hab : ((valS (roundS r 0)).natAbs : Int) < bp 18 := by
    have : (valS (roundS r 0)).natAbs = roundN r.1.1 (topN r) (denQ r) 0 := by rw [roundS_val hp]; split <;> omega
    omega
  obtain ⟨b1, b2, b3⟩ := int_bd (roundS_ok r 0) (m := 18) (by omega) (by omega) hab
  have hq := g4
  rw [hq]
  generalize hX : roundS r 0 = X at *
  generalize (makeQ X (ofZ 1)).1 = Y at *
  have py := b2.pos
  have hY : numQ Y = valS X * denQ Y := by
    have n1 := rat_ne py
    unfold ratV at b3
    have : (numQ Y : Rat) = ((valS X : Int) : Rat) * ((denQ Y : Int) : Rat) := by grind
    exact_mod_cast this
  obtain ⟨n1, n2, n3, n4⟩ := numQ_neg b2.ok
  have h1 : denQ Y = 1 := by
    have hgg : Nat.gcd (topN Y) (denQ Y) = 1 := (okQ_parts b2.ok).2.2.2.2.2
    have ht : topN Y = (valS X).natAbs * denQ Y := by rw [abs_top b2.ok, hY, Int.natAbs_mul, Int.natAbs_natCast]
    rw [ht, Nat.gcd_mul_left_left] at hgg
    exact hgg
  have esub : subQ r Y = lowQ (decide (numQ r * denQ (negQ Y).1 + numQ (negQ Y).1 * denQ r < 0)) (numQ r * denQ (negQ Y).1 + numQ (negQ Y).1 * denQ r).natAbs (denQ r * denQ (negQ Y).1) := by
    unfold subQ
    rw [if_pos n1]
    unfold addQ
    rw [if_pos ⟨ok, n2⟩]
  have hnum : numQ r * (denQ (negQ Y).1 : Int) + numQ (negQ Y).1 * denQ r = sgZ n (topN r % denQ r) := by
    rw [n3, n4, h1, hY, h1, htop, hval]
    have hdm := Nat.div_add_mod (topN r) (denQ r)
    have hdm' : (denQ r : Int) * ((topN r / denQ r : Nat) : Int) + ((topN r % denQ r : Nat) : Int) = topN r := by exact_mod_cast hdm
    unfold sgZ
    cases n
    · simp only [Bool.false_eq_true, if_false, Int.natCast_one, Int.mul_one, Int.neg_mul]
      rw [Int.mul_comm ((topN r / denQ r : Nat) : Int)]
      omega
    · simp only [if_true, Int.natCast_one, Int.mul_one, Int.neg_mul]
      rw [Int.mul_comm ((topN r / denQ r : Nat) : Int)]
      omega
  have hden : denQ (negQ Y).1 = 1 := by rw [n4, h1]
  rw [hnum, hden, Nat.mul_one] at esub
  have hlt : topN r % denQ r < denQ r := Nat.mod_lt _ hd
  have habs : (sgZ n (topN r % denQ r)).natAbs = topN r % denQ r := by unfold sgZ; split <;> omega
  have low := low_is (decide (sgZ n (topN r % denQ r) < 0)) (sgZ n (topN r % denQ r)).natAbs (denQ r) (by omega) (by have := hp.dlt; omega) hp.dlt
  rw [← esub] at low
  refine ⟨?_, ?_⟩
  · have := low.1
    rw [esub] at this ⊢
    exact lowQ_ok _ _ _ this
  · have h2 := low.2.1
    have h3 : (if decide (sgZ n (topN r % denQ r) < 0) = true then -((sgZ n (topN r % denQ r)).natAbs : Int) else ((sgZ n (topN r % denQ r)).natAbs : Int)) = sgZ n (topN r % denQ r) := by
      by_cases hz : sgZ n (topN r % denQ r) < 0
      · rw [decide_eq_true hz, if_pos rfl]; omega
      · rw [decide_eq_false hz, if_neg (by decide)]; omega
    rw [h3] at h2
    have e5 : sgZ n (a % T) = sgZ n (topN r % denQ r) * g := by
      rw [q2]
      unfold sgZ
      split
      · rw [Int.natCast_mul, Int.neg_mul, Int.mul_comm]
      · rw [Int.natCast_mul, Int.mul_comm]
    have e6 : (T : Int) = denQ r * g := by rw [← eT, Int.natCast_mul, Int.mul_comm]
    rw [e5, e6, ← Int.mul_assoc, h2, Int.mul_assoc, Int.mul_assoc, Int.mul_comm (denQ (subQ r Y).1 : Int)]
end Go.Proofs.YtofehcpapdlcnabGreatDoor
