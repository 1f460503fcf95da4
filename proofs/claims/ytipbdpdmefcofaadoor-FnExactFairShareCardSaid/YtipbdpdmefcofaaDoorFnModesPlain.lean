/-
  Plain facts behind the laws FnModes and FnStep: the modes' order and their mirror images, and what RoundTo makes of an integer.
-/
import Derived.Test.YtipbdpdmefcofaaDoorFnRoundPlain2
namespace Go.Proofs.YtipbdpdmefcofaaDoor
open Go.RowKit

/-- the mode of the opposite direction -/
def turnedM (m : Int) : Int := if m = 2 then 3 else if m = 3 then 2 else m
theorem away_turn (neg : Bool) (Q R D : Nat) {m : Int} (h : modeB m = true) : awayB (!neg) Q R D (turnedM m) = awayB neg Q R D m := by
  rcases modeB_cases h with rfl | rfl | rfl | rfl | rfl | rfl | rfl <;> cases neg <;> rfl
theorem round_turn (neg : Bool) (A D : Nat) {m : Int} (h : modeB m = true) : roundN (!neg) A D (turnedM m) = roundN neg A D m := by unfold roundN; rw [away_turn _ _ _ _ h]
theorem cmpS_val {x y : SI} (hx : okS x = true) (hy : okS y = true) : cmpS x y = cmpI (valS x) (valS y) := by unfold cmpS; rw [if_pos ⟨hx, hy⟩]
theorem negQ_is {r : QI} (h : okQ r = true) : negQ r = ((negS r.1, r.2), true) := by unfold negQ; rw [if_pos h]
theorem roundN_zero (neg : Bool) (D : Nat) (m : Int) : roundN neg 0 D m = 0 := by unfold roundN; rw [Nat.zero_mod, Nat.zero_div, if_neg (fun h => h.1 rfl)]
/-- the negated fraction, rounded the other way -/
theorem round_neg {r : QI} {k : Nat} (h : Bd r k) {m : Int} (hm : modeB m = true) : valS (roundS (negQ r).1 (turnedM m)) = - valS (roundS r m) := by
  obtain ⟨n1, n2, n3⟩ := neg_bd h
  have hp := parts_of h.ok
  have hq := parts_of n2.ok
  have hs := okS_parts (okQ_parts h.ok).1
  have e := negQ_is h.ok
  have et : topN (negQ r).1 = topN r := by rw [e]; show (nval (negS r.1).2).toNat = (nval r.1.2).toNat; rw [negS_mag (okQ_parts h.ok).1]
  have ed : denQ (negQ r).1 = denQ r := by rw [e]; rfl
  rw [roundS_val hp, roundS_val hq, et, ed]
  by_cases h0 : topN r = 0
  · rw [h0, roundN_zero, roundN_zero]; simp
  · have esg : (negQ r).1.1.1 = !r.1.1 := by
      have h1 := okS_sign (okQ_parts n2.ok).1
      have h2 := okS_sign (okQ_parts h.ok).1
      have h3 : valS (negQ r).1.1 = - valS r.1 := by rw [e]; exact negS_val (okQ_parts h.ok).1
      have h4 : (valS r.1).natAbs = topN r := (abs_top h.ok).symm
      rw [h1, h2, h3]
      by_cases hn : valS r.1 < 0
      · rw [decide_eq_true hn, decide_eq_false (by omega)]; rfl
      · rw [decide_eq_false hn, decide_eq_true (by omega)]; rfl
    rw [esg, round_turn _ _ _ hm]
    cases r.1.1 <;> simp
theorem round_order {r : QI} (h : okQ r = true) (m : Int) : valS (roundS r 2) ≤ valS (roundS r m) ∧ valS (roundS r m) ≤ valS (roundS r 3) := by
  have hp := parts_of h
  rw [roundS_val hp, roundS_val hp, roundS_val hp]
  have c := roundN_cases r.1.1 (topN r) (denQ r) m
  have c2 := roundN_cases r.1.1 (topN r) (denQ r) 2
  have c3 := roundN_cases r.1.1 (topN r) (denQ r) 3
  rw [show awayB r.1.1 (topN r / denQ r) (topN r % denQ r) (denQ r) 2 = r.1.1 from rfl] at c2
  rw [show awayB r.1.1 (topN r / denQ r) (topN r % denQ r) (denQ r) 3 = !r.1.1 from rfl] at c3
  generalize r.1.1 = n at *
  generalize topN r / denQ r = Q at *
  generalize topN r % denQ r = R at *
  generalize roundN n (topN r) (denQ r) m = k at *
  generalize roundN n (topN r) (denQ r) 2 = k2 at *
  generalize roundN n (topN r) (denQ r) 3 = k3 at *
  generalize awayB n Q R (denQ r) m = a at *
  clear hp h
  cases n <;> cases a <;> simp at c c2 c3 ⊢ <;> omega
theorem limbs_head (k : Nat) : (limbs k).headD 0 % 2 = ((k % 2 : Nat) : Int) := by
  by_cases h : k = 0
  · subst h; rw [limbs, dif_pos rfl]; rfl
  · rw [limbs, dif_neg h]
    show ((k % 1000000000 : Nat) : Int) % 2 = _
    omega
theorem even_half {r : QI} (h : okQ r = true) (hh : halfB r = true) : evenB (roundS r 6).2 = true := by
  have hp := parts_of h
  have hd : denQ r = 2 := by
    unfold halfB at hh
    rw [h, Bool.true_and] at hh
    exact of_decide_eq_true hh
  have hl := round_len hp 6
  have e2 : (roundS r 6).2 = limbs (roundN r.1.1 (topN r) (denQ r) 6) := by
    show (mkS r.1.1 _).2 = _
    show capL _ = _
    unfold capL
    rw [if_neg (by omega)]
  have hg : Nat.gcd (topN r) (denQ r) = 1 := (okQ_parts h).2.2.2.2.2
  have c := roundN_cases r.1.1 (topN r) (denQ r) 6
  have ea : awayB r.1.1 (topN r / denQ r) (topN r % denQ r) (denQ r) 6 = (decide (denQ r < 2 * (topN r % denQ r)) || (decide (2 * (topN r % denQ r) = denQ r) && decide ((topN r / denQ r) % 2 = 1))) := rfl
  rw [ea, Bool.or_eq_true, Bool.or_eq_false_iff, Bool.and_eq_true, Bool.and_eq_false_iff, decide_eq_true_eq, decide_eq_true_eq, decide_eq_true_eq, decide_eq_false_iff_not, decide_eq_false_iff_not, decide_eq_false_iff_not] at c
  have hodd : topN r % 2 = 1 := by
    rcases Nat.mod_two_eq_zero_or_one (topN r) with h0 | h0
    · have h1 : 2 ∣ Nat.gcd (topN r) (denQ r) := Nat.dvd_gcd (Nat.dvd_of_mod_eq_zero h0) (by rw [hd]; exact Nat.dvd_refl 2)
      rw [hg] at h1
      have := Nat.le_of_dvd (by omega) h1
      omega
    · exact h0
  rw [e2]
  unfold evenB
  rw [limbs_okL _ (by omega), Bool.true_and, decide_eq_true_eq, limbs_head]
  rw [hd] at c ⊢
  have : roundN r.1.1 (topN r) 2 6 % 2 = 0 := by omega
  omega
/-- all that FnModes reckons at one mode -/
structure ModeAll (r : QI) (m : Int) (lo hi x y : SI) : Prop where
  lx : szS x ≤ 1048576
  ly : szS y ≤ 1048576
  ex : roundS r m = x
  ey : roundS (negQ r).1 (turnedM m) = y
  lo : cmpS lo x ≤ 0
  hi : cmpS x hi ≤ 0
  ng : cmpS x (negS y) = 0
theorem roundS_sz (r : QI) (m : Int) : szS (roundS r m) ≤ 1048576 := by have := roundS_len r m; unfold szS szI; omega
theorem mode_all {r : QI} {k : Nat} (h : Bd r k) {m : Int} (hm : modeB m = true) : ∃ x y, ModeAll r m (roundS r 2) (roundS r 3) x y := by
  have ho := round_order h.ok m
  have hn := round_neg h hm
  refine ⟨_, _, roundS_sz _ _, roundS_sz _ _, rfl, rfl, ?_, ?_, ?_⟩
  · rw [cmpS_val (roundS_ok _ _) (roundS_ok _ _), (cmpI_facts _ _).2.1]; exact ho.1
  · rw [cmpS_val (roundS_ok _ _) (roundS_ok _ _), (cmpI_facts _ _).2.1]; exact ho.2
  · rw [cmpS_val (roundS_ok _ _) (negS_ok _), negS_val (roundS_ok _ _), hn, Int.neg_neg, (cmpI_facts _ _).1]

/-! ### RoundTo -/
theorem quot_is {x : SI} {n : Int} {k : Nat} (ok : okS x = true) (hk : k ≤ 18) (h0 : 1 ≤ k) (hx : ((valS x).natAbs : Int) < bp k) (h1 : 1 ≤ n) (h2 : n ≤ 1000000) :
    (makeQ x (ofZ n)).2 = true ∧ Bd (makeQ x (ofZ n)).1 k ∧ numQ (makeQ x (ofZ n)).1 * n = valS x * denQ (makeQ x (ofZ n)).1 := by
  have hp := okS_parts ok
  have ha := valS_abs x hp.1
  have hnn := nval_ok hp.1
  have b1 : bp 1 = 1000000000 := rfl
  have b1k : bp 1 ≤ bp k := bp_mono h0
  have hl : (limbs n.natAbs).length ≤ 50 := limbs_length_le _ 50 (by have : bp 1 ≤ bp 50 := bp_mono (by omega); omega)
  have en : ofZ n = (false, limbs n.toNat) := by
    unfold ofZ
    rw [if_pos hl, decide_eq_false (by omega), show n.natAbs = n.toNat by omega]
  have e : makeQ x (ofZ n) = lowQ x.1 (nval x.2).toNat n.toNat := by
    unfold makeQ
    rw [if_pos ⟨ok, ofZ_ok n⟩, en, limbs_val, Int.toNat_natCast]
    cases x.1 <;> rfl
  have hN : ((nval x.2).toNat : Int) < bp k := by omega
  have hD : ((n.toNat : Nat) : Int) < bp k := by omega
  have h18 := bp_mono hk
  obtain ⟨l1, l2, l3, l4⟩ := low_is x.1 (nval x.2).toNat n.toNat (by omega) (by omega) (by omega)
  rw [e]
  refine ⟨l1, ⟨lowQ_ok _ _ _ l1, by omega, by omega⟩, ?_⟩
  have hv : (if x.1 = true then -((nval x.2).toNat : Int) else ((nval x.2).toNat : Int)) = valS x := by
    unfold valS
    rw [Int.toNat_of_nonneg hnn]
  rw [hv, Int.toNat_of_nonneg (by omega)] at l2
  exact l2
/-- all that FnStep reckons -/
structure StepAll (x : SI) (n m : Int) (y d : SI) : Prop where
  ey : stepS x n m = y
  by_ : stepB x n m = true
  ez : stepS y n m = y
  bz : stepB y n m = true
  dv : (divN y.2 (limbs n.toNat)).2 = []
  yy : cmpS y y = 0
  ed : absS (subS x y) = d
  lt : cmpS d (ofZ n) < 0
  sz : szS x ≤ 1048576 ∧ szS y ≤ 1048576 ∧ szS (subS x y) ≤ 1048576 ∧ szS d ≤ 1048576 ∧ szS (ofZ n) ≤ 1048576
theorem szS_50 {x : SI} (h : okS x = true) : szS x ≤ 1048576 := by have := (natOk_parts (okS_parts h).1).2.1; unfold szS szI; omega
theorem mulS_ok (x y : SI) : okS (mulS x y) = true := by unfold mulS; split; exact ofZ_ok _; exact zeroS_ok
theorem subSM_ok (x y : SI) : okS (subS x y) = true := by unfold subS; split; exact ofZ_ok _; exact zeroS_ok
theorem absS_ok (x : SI) : okS (absS x) = true := by unfold absS; split; exact ofZ_ok _; exact zeroS_ok
theorem small_ofZ {z : Int} {k : Nat} (h : (z.natAbs : Int) < bp k) (hk : k ≤ 50) : valS (ofZ z) = z := ofZ_val (limbs_length_le _ 50 (by have := bp_mono hk; omega))
theorem step_all {x : SI} {n m : Int} (ok : okS x = true) (hx : x.2.length ≤ 3) (h1 : 1 ≤ n) (h2 : n ≤ 500) (hm : modeB m = true) : ∃ y d, StepAll x n m y d := by
  have hp := okS_parts ok
  have ha := valS_abs x hp.1
  have hab : ((valS x).natAbs : Int) < bp 3 := by
    have h3 := nval_lt x.2 (natOk_parts hp.1).1
    have h4 := nval_ok hp.1
    have h5 : bp x.2.length ≤ bp 3 := bp_mono hx
    omega
  obtain ⟨q1, q2, q3⟩ := quot_is ok (k := 3) (by omega) (by omega) hab h1 (by omega)
  have hr := round_abs q2 m
  obtain ⟨e, e1, e2, e3, e4, e5⟩ := round_val q2.ok m
  have hsb : stepB x n m = true := by unfold stepB; rw [ok, decide_eq_true (show x.2.length ≤ 18 by omega), decide_eq_true (show 1 ≤ n ∧ n ≤ 1000000 by omega), hm]; rfl
  have ey : stepS x n m = mulS (roundS (makeQ x (ofZ n)).1 m) (ofZ n) := by unfold stepS; rw [if_pos hsb]
  have b1 : bp 1 = 1000000000 := rfl
  have vn : valS (ofZ n) = n := small_ofZ (k := 1) (by omega) (by omega)
  obtain ⟨X, hX⟩ : ∃ X, roundS (makeQ x (ofZ n)).1 m = X := ⟨_, rfl⟩
  have okX : okS X = true := by rw [← hX]; exact roundS_ok _ _
  rw [hX] at hr e1 ey
  have hXn : ((valS X * n).natAbs : Int) < bp 5 := by
    have := mul_lt (a := (valS X).natAbs) (b := n.natAbs) (i := 4) (j := 1) hr (by omega)
    rw [Int.natAbs_mul]
    exact this
  have vy : valS (mulS X (ofZ n)) = valS X * n := by
    unfold mulS
    rw [if_pos ⟨okX, ofZ_ok n⟩, vn]
    exact small_ofZ hXn (by omega)
  obtain ⟨y, hy⟩ : ∃ y, mulS X (ofZ n) = y := ⟨_, rfl⟩
  have oky : okS y = true := by rw [← hy]; exact mulS_ok _ _
  rw [hy] at ey vy
  have hpy := okS_parts oky
  have hay := valS_abs y hpy.1
  have hyl : y.2.length ≤ 5 := by
    rw [natOk_limbs hpy.1]
    refine limbs_length_le _ 5 ?_
    rw [← hay, vy]
    exact hXn
  have hsz : stepB y n m = true := by unfold stepB; rw [oky, decide_eq_true (show y.2.length ≤ 18 by omega), decide_eq_true (show 1 ≤ n ∧ n ≤ 1000000 by omega), hm]; rfl
  -- the quotient of y is an integer
  obtain ⟨p1, p2, p3⟩ := quot_is oky (k := 5) (by omega) (by omega) (by rw [vy]; exact hXn) h1 (by omega)
  have hint : roundS (makeQ y (ofZ n)).1 m = X := by
    obtain ⟨f, f1, f2, f3, f4, f5⟩ := round_val p2.ok m
    have pd := p2.pos
    have hnum : numQ (makeQ y (ofZ n)).1 = valS X * denQ (makeQ y (ofZ n)).1 := by
      have : numQ (makeQ y (ofZ n)).1 * n = valS X * denQ (makeQ y (ofZ n)).1 * n := by rw [p3, vy]; ac_rfl
      exact Int.eq_of_mul_eq_mul_right (by omega) this
    have hmod : topN (makeQ y (ofZ n)).1 % denQ (makeQ y (ofZ n)).1 = 0 := by
      rw [abs_top p2.ok, hnum, Int.natAbs_mul, Int.natAbs_natCast, Nat.mul_mod_left]
    have hf0 := f5.2 hmod
    have hd1 := (whole_iff p2.ok).1 hmod
    rw [hf0, hnum, hd1] at f1
    have hv : valS (roundS (makeQ y (ofZ n)).1 m) = valS X := by omega
    rw [← okS_ofZ (roundS_ok _ m), hv, okS_ofZ okX]
  have ez : stepS y n m = y := by unfold stepS; rw [if_pos hsz, hint, hy]
  -- how far it is off
  have pq := q2.pos
  have hoff : -n < valS y - valS x ∧ valS y - valS x < n := by
    refine part_lt (D := (denQ (makeQ x (ofZ n)).1 : Int)) (e := e) (by omega) ?_ e2 e3
    rw [Int.sub_mul, ← q3, vy]
    have : valS X * n * (denQ (makeQ x (ofZ n)).1 : Int) = (numQ (makeQ x (ofZ n)).1 + e) * n := by rw [← e1]; ac_rfl
    rw [this, Int.add_mul]
    omega
  have hsub : ((valS x - valS y).natAbs : Int) < bp 1 := by omega
  have vs : valS (subS x y) = valS x - valS y := by
    unfold subS
    rw [if_pos ⟨ok, oky⟩]
    exact small_ofZ hsub (by omega)
  have vd : valS (absS (subS x y)) = ((valS x - valS y).natAbs : Int) := by
    unfold absS
    rw [if_pos (subSM_ok x y), vs]
    exact small_ofZ (k := 1) (by omega) (by omega)
  have okn : natOkB (limbs n.toNat) = true := limbs_okL _ (limbs_length_le _ 50 (by have : bp 1 ≤ bp 50 := bp_mono (by omega); omega))
  have hnl : 0 < (limbs n.toNat).length := by
    rcases Nat.eq_zero_or_pos (limbs n.toNat).length with h0 | h0
    · have := (limbs_zero_iff _).1 h0; omega
    · exact h0
  refine ⟨y, _, ey, hsb, ez, hsz, ?_, ?_, rfl, ?_, szS_50 ok, szS_50 oky, szS_50 (subSM_ok _ _), szS_50 (absS_ok _), szS_50 (ofZ_ok _)⟩
  · unfold divN
    rw [if_pos ⟨hpy.1, okn, hnl⟩, limbs_val, Int.toNat_of_nonneg (by omega)]
    have hnv := nval_ok hpy.1
    have hz : nval y.2 % n = 0 := by
      have h3 : nval y.2 = ((valS X).natAbs : Int) * n := by
        have h4 : (valS y).natAbs = (valS X).natAbs * n.natAbs := by rw [vy, Int.natAbs_mul]
        have h5 : (n.natAbs : Int) = n := by omega
        have h6 : nval y.2 = ((valS y).natAbs : Int) := by omega
        rw [h6, h4, Int.natCast_mul, h5]
      rw [h3, Int.mul_emod_left]
    rw [hz, show (0 : Int).toNat = 0 from rfl]
    show limbs 0 = []
    rw [limbs, dif_pos rfl]
  · rw [cmpS_val oky oky, (cmpI_facts _ _).1]
  · rw [cmpS_val (absS_ok _) (ofZ_ok _), vd, vn]
    have := (cmpI_facts ((valS x - valS y).natAbs : Int) n).2.2
    omega
end Go.Proofs.YtipbdpdmefcofaaDoor
