/-
  Plain facts behind the law FnInt: signed numbers of few limbs, reckoned and read back.
-/
import Derived.Test.YtecaghbakjalgaaDoorSignText
import Derived.Test.YtecaghbakjalgaaDoorSignImpl3
import Derived.Test.YtecaghbakjalgaaDoorSignSum
import Derived.Test.YtecaghbakjalgaaDoorSignCmp
namespace Go.Proofs.YtecaghbakjalgaaDoor
open Go.RowKit

/-- a number that fits -/
def Sm (z : Int) : Prop := (z.natAbs : Int) < bp 50
theorem Sm.val {z : Int} (h : Sm z) : valS (ofZ z) = z := ofZ_val (limbs_length_le _ 50 h)
theorem addS_z {X Y : Int} (hx : Sm X) (hy : Sm Y) : addS (ofZ X) (ofZ Y) = ofZ (X + Y) := by rw [addS_ok (ofZ_ok _) (ofZ_ok _), hx.val, hy.val]
theorem subS_z {X Y : Int} (hx : Sm X) (hy : Sm Y) : subS (ofZ X) (ofZ Y) = ofZ (X - Y) := by unfold subS; rw [if_pos ⟨ofZ_ok _, ofZ_ok _⟩, hx.val, hy.val]
theorem mulS_z {X Y : Int} (hx : Sm X) (hy : Sm Y) : mulS (ofZ X) (ofZ Y) = ofZ (X * Y) := by unfold mulS; rw [if_pos ⟨ofZ_ok _, ofZ_ok _⟩, hx.val, hy.val]
theorem negS_z {X : Int} (hx : Sm X) : negS (ofZ X) = ofZ (-X) := by unfold negS; rw [if_pos (ofZ_ok _), hx.val]
theorem absS_z {X : Int} (hx : Sm X) : absS (ofZ X) = ofZ X.natAbs := by unfold absS; rw [if_pos (ofZ_ok _), hx.val]
theorem cmpS_z {X Y : Int} (hx : Sm X) (hy : Sm Y) : cmpS (ofZ X) (ofZ Y) = cmpI X Y := by unfold cmpS; rw [if_pos ⟨ofZ_ok _, ofZ_ok _⟩, hx.val, hy.val]
theorem cmpI_self (X : Int) : cmpI X X = 0 := by unfold cmpI; rw [if_neg (by omega), if_neg (by omega)]
theorem cmpI_turn (X Y : Int) : cmpI X Y = -cmpI Y X := by unfold cmpI; split <;> split <;> (try split) <;> (try split) <;> omega
theorem cmpI_range (X Y : Int) : -1 ≤ cmpI X Y ∧ cmpI X Y ≤ 1 := by unfold cmpI; split <;> (try split) <;> omega
theorem sm_of {z : Int} (h : (z.natAbs : Int) < bp 9) : Sm z := Int.lt_of_lt_of_le h (bp_mono (by omega))
theorem bp4_le : (1000000000 : Int) ≤ bp 4 := by
  have := bp_mono (show 1 ≤ 4 by omega)
  have e : bp 1 = 1000000000 := rfl
  omega
theorem bp5_of4 : bp 5 = 1000000000 * bp 4 := rfl
theorem bp9_mul : bp 9 = bp 4 * bp 5 := bp_add 4 5
/-- all that FnInt reckons with fits -/
theorem sm_all {X Y : Int} (hx : (X.natAbs : Int) < bp 4) (hy : (Y.natAbs : Int) < bp 4) : Sm X ∧ Sm Y ∧ Sm (X + Y) ∧ Sm (Y + 1) ∧ Sm (X * (Y + 1)) ∧ Sm (X * Y) ∧ Sm (X + Y + 1) ∧ Sm 1 ∧ Sm (-X) ∧ Sm 0 ∧ Sm (X.natAbs : Int) := by
  have h4 := bp4_le
  have h5 := bp5_of4
  have h9 := bp9_mul
  have h59 : bp 5 ≤ bp 9 := bp_mono (by omega)
  have mul : ∀ b : Int, (b.natAbs : Int) < bp 5 → ((X * b).natAbs : Int) < bp 9 := fun b hb => by
    rw [Int.natAbs_mul, h9, Int.natCast_mul]
    have h1 := Int.mul_le_mul (show (X.natAbs : Int) ≤ bp 4 - 1 by omega) (Int.le_of_lt hb) (by omega) (by omega)
    rw [Int.sub_mul, Int.one_mul] at h1
    have h2 := bp_pos 5
    omega
  refine ⟨sm_of (by omega), sm_of (by omega), sm_of (by omega), sm_of (by omega), sm_of (mul _ (by omega)), sm_of (mul _ (by omega)), sm_of (by omega), sm_of (by omega), sm_of (by omega), sm_of (by omega), sm_of (by omega)⟩
/-- a short right one is that of its number -/
theorem short_z {x : SI} (h : okS x = true) (hl : x.2.length ≤ 4) : x = ofZ (valS x) ∧ ((valS x).natAbs : Int) < bp 4 := by
  refine ⟨(okS_ofZ h).symm, ?_⟩
  have hp := okS_parts h
  have h0 := nval_ok hp.1
  rw [valS_abs x hp.1]
  have h1 := nval_lt x.2 (natOk_parts hp.1).1
  have h2 := bp_mono hl
  omega
theorem sumS_z {X Y : Int} (hx : Sm X) (hy : Sm Y) (hxy : Sm (X + Y)) (h1 : Sm 1) (h0 : Sm 0) : sumS [ofZ X, ofZ Y, ofZ 1] = ofZ (X + Y + 1) := by
  rw [sumS_ok (by simp [ofZ_ok])]
  show addS (addS (addS zeroS (ofZ X)) (ofZ Y)) (ofZ 1) = _
  rw [← ofZ_zero, addS_z h0 hx, Int.zero_add, addS_z hx hy, addS_z hxy h1]
theorem numS_z {z : Int} (h0 : -50000 ≤ z) (h1 : z ≤ 50000) : numS (ofZ z) = (z, true) := by
  have h4 := bp4_le
  have hs : Sm z := sm_of (by have : bp 4 ≤ bp 9 := bp_mono (by omega); omega)
  have hn : nval (ofZ z).2 = z.natAbs := by
    unfold ofZ
    rw [if_pos (limbs_length_le _ 50 hs)]
    exact limbs_val _
  unfold numS
  rw [if_pos ⟨ofZ_ok _, by rw [hn]; omega⟩, hs.val]
theorem text_backI {X : Nat} (hx : (X : Int) < bp 5) : decOk (natTextB (limbs X)) = true ∧ tnR (natTextB (limbs X)) = limbs X ∧ digitsB (natTextB (limbs X)) = true := by
  have h5 : (limbs X).length ≤ 5 := limbs_length_le X 5 hx
  have e : (natTextB (limbs X)).data.toList = Lib.decDigits X := natText_limbs X (by omega)
  have hd := dig_dec X
  have hdig : digitsB (natTextB (limbs X)) = true := by rw [digitsB_iff, e]; exact hd
  have hsz : (natTextB (limbs X)).size ≤ 450 := by
    have h1 : natTextB (limbs X) = natT (limbs X) := by unfold natTextB; rw [if_pos (limbs_okL X (by omega))]
    rw [h1]
    have := natT_size (limbs X) (limbs_digN X)
    omega
  have hok : decOk (natTextB (limbs X)) = true := by
    rw [← read_text _ hdig hsz, e, valL_dec, Int.toNat_natCast]
  refine ⟨hok, ?_, hdig⟩
  unfold tnR
  rw [if_pos hok, e, valL_dec, Int.toNat_natCast]
theorem neg_of_digits {t : ByteArray} (h : digitsB t = true) : negB t = false := by
  have h2 := (digitsB_iff t).1 h
  unfold negB
  rw [decide_eq_false_iff_not]
  intro e
  cases hl : t.data.toList with
  | nil => exact h2.2 hl
  | cons c r =>
    rw [hl] at e
    have := h2.1 c (by rw [hl]; exact List.mem_cons_self ..)
    simp at e
    subst e
    revert this
    decide
theorem minus_bare (t : ByteArray) : negB (⟨#[45]⟩ ++ t) = true ∧ bareB (⟨#[45]⟩ ++ t) = t := by
  have e : ((⟨#[45]⟩ : ByteArray) ++ t).data.toList = 45 :: t.data.toList := by simp
  constructor
  · unfold negB; rw [e]; rfl
  · apply WideShapes.bytes_inj
    rw [bareB_data, e]
    rfl
/-- a short right number is read back from its text -/
theorem str_back {x : SI} (h : okS x = true) (hl : x.2.length ≤ 4) : siR (intStrB x) = x ∧ siB (intStrB x) = true := by
  have hp := okS_parts h
  have hx := natOk_limbs hp.1
  have h1 := nval_lt x.2 (natOk_parts hp.1).1
  have h0 := nval_ok hp.1
  have h2 := bp_mono (show x.2.length ≤ 5 by omega)
  have ht := text_backI (X := (nval x.2).toNat) (by omega)
  rw [← hx] at ht
  have hc : ¬ (x.1 = true ∧ x.2.length = 0) := fun hh => by have := hp.2 hh.1; omega
  have both : negB (intStrB x) = x.1 ∧ bareB (intStrB x) = natTextB x.2 := by
    unfold intStrB
    rw [if_pos h]
    cases hn : x.1 with
    | true => rw [if_pos rfl]; exact minus_bare _
    | false => rw [if_neg (by decide)]; exact ⟨neg_of_digits ht.2.2, bareB_self _ (neg_of_digits ht.2.2)⟩
  unfold siR siB
  rw [both.1, both.2, ht.2.1, if_pos ⟨ht.1, hc⟩]
  exact ⟨rfl, decide_eq_true ⟨ht.1, hc⟩⟩
end Go.Proofs.YtecaghbakjalgaaDoor
