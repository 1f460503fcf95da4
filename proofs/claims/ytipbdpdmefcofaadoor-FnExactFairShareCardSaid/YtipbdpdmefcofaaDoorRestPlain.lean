/-
  RatRest: for a right fraction both the rounded number and the rest are right fractions.
-/
import Derived.Test.YtipbdpdmefcofaaDoorFnModesPlain
import Derived.Test.YtipbdpdmefcofaaDoorRoundWords
namespace Go.Proofs.YtipbdpdmefcofaaDoor
open Go.RowKit

theorem round_lt18 {r : QI} (h : okQ r = true) (m : Int) : (roundN r.1.1 (topN r) (denQ r) m : Int) < bp 18 := by
  have p := parts_of h
  have hn := p.nlt
  have hd := denQ_pos h
  have c := roundN_cases r.1.1 (topN r) (denQ r) m
  have b1 : bp 1 = 1000000000 := rfl
  have b18 : bp 1 ≤ bp 18 := bp_mono (by omega)
  by_cases h1 : denQ r = 1
  · rw [h1] at c ⊢
    rw [Nat.mod_one, Nat.div_one] at c
    omega
  · have h2 : topN r / denQ r ≤ topN r / 2 := Nat.div_le_div_left (by omega) (by omega)
    have h3 := roundN_le r.1.1 (topN r) (denQ r) m
    omega
/-- the rounded number as a fraction, and the rest -/
theorem rest_parts {r : QI} (h : okQ r = true) (m : Int) : (makeQ (roundS r m) (ofZ 1)).2 = true ∧ (subQ r (makeQ (roundS r m) (ofZ 1)).1).2 = true := by
  have p := parts_of h
  have okx := roundS_ok r m
  have h18 := round_lt18 h m
  have hv := roundS_val p m
  have hab : ((valS (roundS r m)).natAbs : Int) < bp 18 := by
    have : (valS (roundS r m)).natAbs = roundN r.1.1 (topN r) (denQ r) m := by rw [hv]; split <;> omega
    omega
  obtain ⟨b1, b2, b3⟩ := int_bd okx (m := 18) (by omega) (by omega) hab
  refine ⟨b1, ?_⟩
  obtain ⟨e, e1, e2, e3, _, _⟩ := round_val h m
  generalize roundS r m = X at *
  generalize (makeQ X (ofZ 1)).1 = Y at *
  have py := b2.pos
  have pr : (0 : Int) < denQ r := by have := denQ_pos h; omega
  have hY : numQ Y = valS X * denQ Y := by
    have n1 := rat_ne py
    unfold ratV at b3
    have : (numQ Y : Rat) = ((valS X : Int) : Rat) * ((denQ Y : Int) : Rat) := by grind
    exact_mod_cast this
  obtain ⟨n1, n2, n3⟩ := neg_bd b2
  have en := negQ_is b2.ok
  have hN : numQ (negQ Y).1 = - numQ Y := by rw [en]; exact negS_val (okQ_parts b2.ok).1
  have hD : denQ (negQ Y).1 = denQ Y := by rw [en]; rfl
  have h1 : denQ Y = 1 := by
    have hg : Nat.gcd (topN Y) (denQ Y) = 1 := (okQ_parts b2.ok).2.2.2.2.2
    have ht : topN Y = (valS X).natAbs * denQ Y := by rw [abs_top b2.ok, hY, Int.natAbs_mul, Int.natAbs_natCast]
    rw [ht, Nat.gcd_mul_left_left] at hg
    exact hg
  have es : subQ r Y = lowQ (decide (numQ r * denQ (negQ Y).1 + numQ (negQ Y).1 * denQ r < 0)) (numQ r * denQ (negQ Y).1 + numQ (negQ Y).1 * denQ r).natAbs (denQ r * denQ (negQ Y).1) := by
    unfold subQ
    rw [if_pos n1]
    unfold addQ
    rw [if_pos ⟨h, n2.ok⟩]
  rw [es, hN, hD, hY, h1]
  have hnum : (numQ r * ((1 : Nat) : Int) + -(valS X * ((1 : Nat) : Int)) * denQ r).natAbs < denQ r := by
    have : numQ r * ((1 : Nat) : Int) + -(valS X * ((1 : Nat) : Int)) * denQ r = -e := by
      have : -(valS X * ((1 : Nat) : Int)) * (denQ r : Int) = -(valS X * (denQ r : Int)) := by rw [Int.natCast_one, Int.mul_one, Int.neg_mul]
      rw [this, e1]
      omega
    rw [this]
    omega
  exact (low_is _ _ _ (by omega) (by have := p.dlt; omega) (by rw [Nat.mul_one]; exact p.dlt)).1
theorem rest_all {r : QI} {m : Int} (h : okQ r = true) (hm : modeB m = true) : roundR r m = (roundS r m, true) ∧ restB r m = true ∧ restS r m = roundS r m ∧ restQ r m = (subQ r (makeQ (roundS r m) (ofZ 1)).1).1 := by
  have e : roundR r m = (roundS r m, true) := by unfold roundR; rw [if_pos ⟨h, hm⟩]
  have b := rest_parts h m
  have eb : restB r m = true := by unfold restB; rw [e]; simp only; rw [b.1, b.2]; rfl
  refine ⟨e, eb, ?_, ?_⟩
  · unfold restS; rw [if_pos eb, e]
  · unfold restQ; rw [if_pos eb, e]
theorem rest_none {r : QI} {m : Int} (h : ¬ (okQ r = true ∧ modeB m = true)) : roundR r m = (zeroS, false) ∧ restB r m = false ∧ restS r m = zeroS ∧ restQ r m = zeroQ := by
  have e : roundR r m = (zeroS, false) := by unfold roundR; rw [if_neg h]
  have eb : restB r m = false := by unfold restB; rw [e]; rfl
  refine ⟨e, eb, ?_, ?_⟩
  · unfold restS; rw [if_neg (by rw [eb]; decide)]
  · unfold restQ; rw [if_neg (by rw [eb]; decide)]
theorem makeQ_szQ (x y : SI) : szQ (makeQ x y).1 ≤ 1048576 := by unfold makeQ; split; exact lowQ_sz _ _ _; decide
theorem subQ_szQ (x y : QI) : szQ (subQ x y).1 ≤ 1048576 := by unfold subQ; split; (unfold addQ; split; exact lowQ_sz _ _ _; decide); decide
theorem postSb_is {q : SI × Bool} {X : SI} {b : Bool} (e : q = (X, b)) {w w' : World} {n : Ending} (h : PostSb q.1 q.2 w n w') : PostSb X b w n w' := by rw [e] at h; exact h
theorem postQb_is {q : QI × Bool} {X : QI} {b : Bool} (e : q = (X, b)) {w w' : World} {n : Ending} (h : PostQb q.1 q.2 w n w') : PostQb X b w n w' := by rw [e] at h; exact h
theorem newSQb_zero {w W : World} (hW : Below w.heap.size w W) : PostSQb zeroS zeroQ false w (.returned (.tuple #[.agg #[.bool false, .slice none 0 0], .agg #[.bool false, .slice none 0 0, .slice none 0 0], .bool false])) W :=
  ⟨_, _, [], [], rfl, ⟨ownS_zero _, fun _ hg => absurd hg List.not_mem_nil, fun w' _ => ownS_zero w'⟩, ⟨ownQ_zero _, fun _ hg => absurd hg List.not_mem_nil, fun w' _ => ownQ_zero w'⟩, fun _ hg => absurd hg List.not_mem_nil, fun _ hg => absurd hg List.not_mem_nil, fun _ hg => absurd hg List.not_mem_nil, hW⟩
/-- a signed number in block r and a fraction in block p, in whatever order they were stored -/
theorem newSQb_at {r p B C : Nat} {S T : List Nat} {c0 c1 d0 d1 d2 : Value} {x : SI} {y : QI} {b : Bool} {w W : World} (o : At S (OwnS (.agg #[c0, c1]) x) W) (q : At T (OwnQ (.agg #[d0, d1, d2]) y) W)
    (l : Within S B W.heap.size) (k : Within T C W.heap.size) (hap : ∀ g ∈ S, g ∉ T) (hB : p < B) (hC : p < C) (hrp : r < p) (hr : w.heap.size ≤ r) (hp : w.heap.size ≤ p) (hW : Below w.heap.size w W) :
    ∀ W', Chg [r, p] W W' → PostSQb x y b w (.returned (.tuple #[.agg #[c0, c1], .agg #[d0, d1, d2], .bool b])) W' := by
  intro W' hc
  have hz := hc.size
  refine ⟨_, _, S, T, rfl, o.chg hc (fun i hi hm => ?_), q.chg hc (fun i hi hm => ?_), hap, fun i hi => ?_, fun i hi => ?_, below_chg hW hc hW.size (fun i hi => ?_)⟩
  · have := l i hi; simp at hm; omega
  · have := k i hi; simp at hm; omega
  · have := l i hi; omega
  · have := k i hi; omega
  · simp at hi; omega
end Go.Proofs.YtipbdpdmefcofaaDoor
