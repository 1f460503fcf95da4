/-
  Plain facts on signed numbers: a sign and limbs.
  Values of type impl.Signed: what laws.toSigned, eqSigned, markSigned, heldSigned and szSigned return.
  Locals of struct types in their boxes, and the words that every kind of struct answers to: to, eq, sz, mark, held. Kind S: impl.Signed.
  Amounts of money in plain words: what each function of chapter 10 answers.
  Values of type impl.Money: what laws.toMoney, eqMoney, markMoney, heldMoney and szMoney return; results that lie in their boxes.
  The law FnExactTextMoney of chapter 10, walked: it returns true wherever both packages answer alike.
  Spec's look-ups over its table of currencies, a list that a call lays.
  Spec's look-ups by code.
  What the functions of chapter 3 of package spec return, for slices that read as lists of limbs.
  What NatAdd, NatSub, NatOf and NatInt of package spec return.
  Products of limbs, and what l02Mul and NatMul of package spec return.
  What NatOf and NatInt of package spec return.
-/
import Derived.Lib.Builder
import Derived.Deep.RegionHeld3
import Derived.Deep.DeepCutAuto
import Derived.Deep.MidRow
import Derived.Test.YtcenmdiblbooeaaGreatDoorJA1
namespace Go.Proofs.YtcenmdiblbooeaaGreatDoor
open Go.RowKit

/-- a signed number as data: its sign, its limbs -/
abbrev SI : Type := Bool × List Int
def zeroS : SI := (false, [])
/-- what IntOk answers -/
def okS (x : SI) : Bool := natOkB x.2 && (!x.1 || decide (0 < x.2.length))
/-- the number -/
def valS (x : SI) : Int := if x.1 = true then -(nval x.2) else nval x.2
/-- the signed number of an integer; zero where it wants more limbs than there may be -/
def ofZ (z : Int) : SI := if (limbs z.natAbs).length ≤ 50 then (decide (z < 0), limbs z.natAbs) else zeroS
theorem okS_parts {x : SI} (h : okS x = true) : natOkB x.2 = true ∧ (x.1 = true → 0 < x.2.length) := by
  unfold okS at h
  rw [Bool.and_eq_true] at h
  refine ⟨h.1, fun hn => ?_⟩
  rw [hn] at h
  simpa using h.2
theorem natOk_empty : natOkB [] = true := rfl
theorem zeroS_ok : okS zeroS = true := rfl
theorem zeroS_val : valS zeroS = 0 := rfl
theorem okS_pos {x : SI} (h : okS x = true) (hn : 0 < x.2.length) : 0 < nval x.2 := by
  have h1 := ok_ge (okS_parts h).1 hn
  have h2 := bp_pos (x.2.length - 1)
  omega
theorem nval_ok {xs : List Int} (h : natOkB xs = true) : 0 ≤ nval xs := nval_nonneg xs (natOk_parts h).1
theorem okS_sign {x : SI} (h : okS x = true) : x.1 = decide (valS x < 0) := by
  have hp := okS_parts h
  have h0 := nval_ok hp.1
  unfold valS
  cases hx : x.1 with
  | false => rw [if_neg (by decide)]; exact (decide_eq_false (by omega)).symm
  | true =>
    have := okS_pos h (hp.2 hx)
    rw [if_pos rfl]
    exact (decide_eq_true (by omega)).symm
theorem valS_abs (x : SI) (h : natOkB x.2 = true) : (valS x).natAbs = (nval x.2).toNat := by
  have h0 := nval_ok h
  unfold valS
  split <;> omega
/-- a right one is that of its number -/
theorem okS_ofZ {x : SI} (h : okS x = true) : ofZ (valS x) = x := by
  have hp := okS_parts h
  have hl := natOk_limbs hp.1
  have h50 := (natOk_parts hp.1).2.1
  unfold ofZ
  rw [valS_abs x hp.1, ← hl, if_pos h50, ← okS_sign h]
theorem limbs_zero_iff (n : Nat) : (limbs n).length = 0 ↔ n = 0 := by
  constructor
  · intro h
    have := limbs_val n
    rw [List.eq_nil_of_length_eq_zero h] at this
    have h2 : nval [] = 0 := rfl
    omega
  · rintro rfl; rw [limbs, dif_pos rfl]; rfl
theorem limbs_okL (n : Nat) (h : (limbs n).length ≤ 50) : natOkB (limbs n) = true := by
  unfold natOkB
  rw [Bool.and_eq_true, Bool.and_eq_true, all_dig]
  exact ⟨limbs_digN n, decide_eq_true h, decide_eq_true (limbs_lastN n)⟩
theorem ofZ_ok (z : Int) : okS (ofZ z) = true := by
  unfold ofZ
  split
  · rename_i h
    unfold okS
    rw [limbs_okL _ h, Bool.true_and]
    by_cases hz : z < 0
    · have : 0 < (limbs z.natAbs).length := by
        rcases Nat.eq_zero_or_pos (limbs z.natAbs).length with h0 | h0
        · rw [limbs_zero_iff] at h0; omega
        · exact h0
      simp [this]
    · simp [hz]
  · exact zeroS_ok
theorem ofZ_val {z : Int} (h : (limbs z.natAbs).length ≤ 50) : valS (ofZ z) = z := by
  unfold ofZ
  rw [if_pos h]
  unfold valS
  by_cases hz : z < 0
  · rw [if_pos (by simpa using hz), limbs_val]; omega
  · rw [if_neg (by simpa using hz), limbs_val]; omega
theorem ofZ_big {z : Int} (h : ¬ (limbs z.natAbs).length ≤ 50) : ofZ z = zeroS := by unfold ofZ; rw [if_neg h]
theorem ofZ_zero : ofZ 0 = zeroS := by unfold ofZ; rw [show (0 : Int).natAbs = 0 from rfl, show limbs 0 = [] by rw [limbs, dif_pos rfl], if_pos (by decide)]; rfl
theorem ofZ_len (z : Int) : (ofZ z).2.length ≤ 50 := (natOk_parts (okS_parts (ofZ_ok z)).1).2.1
/-- what the functions answer -/
def negS (x : SI) : SI := if okS x = true then ofZ (-(valS x)) else zeroS
def absS (x : SI) : SI := if okS x = true then ofZ (valS x).natAbs else zeroS
def addS (x y : SI) : SI := if okS x = true ∧ okS y = true then ofZ (valS x + valS y) else zeroS
def subS (x y : SI) : SI := if okS x = true ∧ okS y = true then ofZ (valS x - valS y) else zeroS
def mulS (x y : SI) : SI := if okS x = true ∧ okS y = true then ofZ (valS x * valS y) else zeroS
def cmpS (x y : SI) : Int := if okS x = true ∧ okS y = true then cmpI (valS x) (valS y) else 0
def sumS (l : List SI) : SI := if l.all okS = true then l.foldl addS zeroS else zeroS
theorem negS_val {x : SI} (h : okS x = true) : valS (negS x) = -(valS x) := by
  unfold negS
  rw [if_pos h]
  have hp := okS_parts h
  have e := valS_abs x hp.1
  refine ofZ_val ?_
  rw [Int.natAbs_neg, e, ← natOk_limbs hp.1]
  exact (natOk_parts hp.1).2.1
theorem negS_ok (x : SI) : okS (negS x) = true := by unfold negS; split; exact ofZ_ok _; exact zeroS_ok
/-- a sign and limbs laid together, as the document's value: the sign falls away where nothing is left -/
def mkS (n : Bool) (xs : List Int) : SI := (n && decide (0 < (capL xs).length), capL xs)
theorem mkS_limbs (n : Bool) (m : Nat) : mkS n (limbs m) = ofZ (if n = true then -(m : Int) else m) := by
  have e : (if n = true then -(m : Int) else (m : Int)).natAbs = m := by split <;> omega
  unfold mkS ofZ
  rw [e]
  unfold capL
  by_cases h : 50 < (limbs m).length
  · rw [if_pos h, if_neg (by omega)]
    cases n <;> rfl
  · rw [if_neg h, if_pos (by omega)]
    have hz := limbs_zero_iff m
    cases n with
    | false => simp
    | true =>
      simp only [Bool.true_and, if_true]
      congr 1
      by_cases h0 : m = 0
      · have := hz.2 h0
        rw [decide_eq_false (by omega), decide_eq_false (by omega)]
      · have : 0 < (limbs m).length := by
          rcases Nat.eq_zero_or_pos (limbs m).length with h1 | h1
          · exact absurd (hz.1 h1) h0
          · exact h1
        rw [decide_eq_true this, decide_eq_true (by omega)]
end Go.Proofs.YtcenmdiblbooeaaGreatDoor

namespace Go.Proofs.YtcenmdiblbooeaaGreatDoor
open Go.RowKit

/-- a value that stands for it, its limbs of the call's own -/
def OwnS (v : Value) (x : SI) (w : World) : Prop := ∃ u, v = .agg #[.bool x.1, u] ∧ OwnI u x.2 w
def MarkS (v : Value) (x : SI) (m : Int) (w : World) : Prop := ∃ u, v = .agg #[.bool x.1, u] ∧ MarkI u x.2 m w
/-- a value that reads as it -/
def RdS (w : World) (v : Value) (x : SI) : Prop := ∃ u, v = .agg #[.bool x.1, u] ∧ Row w 0 w.heap.size u (intsV x.2)
def szS (x : SI) : Int := szI x.2
theorem ownI_of {w : World} {base : Nat} {u : Value} {xs : List Int} (h : w.ownsRow base 3 1 u xs.length (intsV xs)) : OwnI u xs w := own_zero h
theorem OwnS.mk {u : Value} {x : SI} {w : World} (h : OwnI u x.2 w) : OwnS (.agg #[.bool x.1, u]) x w := ⟨u, rfl, h⟩
theorem OwnS.rd {v : Value} {x : SI} {w : World} (h : OwnS v x w) : RdS w v x := by
  obtain ⟨u, rfl, o⟩ := h
  exact ⟨u, rfl, o.row⟩
theorem row_form {w : World} {lo hi : Nat} {v : Value} {xs : List Value} (h : Row w lo hi v xs) : ∃ A c, v = .slice A xs.length c := by
  obtain ⟨A, c, rfl, _⟩ := h
  exact ⟨A, c, rfl⟩

/-- a new signed number -/
def NewS (x : SI) (w : World) (e : Ending) (w' : World) : Prop := ∃ u, e = .returned (.agg #[.bool x.1, u]) ∧ w'.ownsRow w.heap.size 3 1 u x.2.length (intsV x.2) ∧ Below w.heap.size w w'
theorem own_low {w : World} {base base' n : Nat} {e : TypeId} {v : Value} {xs : List Value} (h : w.ownsRow base e 1 v n xs) (hb : base' ≤ base) : w.ownsRow base' e 1 v n xs := by
  obtain ⟨hl, h | ⟨g, cap, cur, rfl, hg, r⟩⟩ := h
  · exact ⟨hl, .inl h⟩
  · exact ⟨hl, .inr ⟨g, cap, cur, rfl, by omega, r⟩⟩

/-- what is left of a budget -/
def leftI (left n : Int) : Int := if left - n < 0 then -1 else left - n
set_option maxHeartbeats 400000 in
set_option maxRecDepth 100000 in
theorem szIntS_any (v : Value) (xs : List Int) (lo hi : Nat) (left : Int) (w : World) (hl : xs.length ≤ 9223372036854775807) (h0 : 0 ≤ left) (h1 : left ≤ 1048576) (hr : Row w lo hi v (intsV xs)) :
    Calls Tryz.prog 55 #[v, .int .i64 left] w fun e w' => e = .returned (.int .i64 (leftI left (szI xs))) ∧ w = w' := by
  obtain ⟨A, c, rfl⟩ := row_form hr
  rw [intsV_length]
  have HZ := Lib.hid (show szI xs = xs.length from rfl)
  by_cases hc : left - xs.length < 0
  · have HV : Hid (leftI left (szI xs) = -1) := Lib.hid (by unfold leftI; rw [HZ.out, if_pos hc])
    have hc2 : left < (xs.length : Int) := by omega
    go_enter Tryz.func55, Tryz.ntmps55
    go_wp2
    go_ret
    exact ⟨ret_int HV.out.symm, rfl⟩
  · have HV : Hid (leftI left (szI xs) = left - xs.length) := Lib.hid (by unfold leftI; rw [HZ.out, if_neg hc])
    have hc2 : ¬ left < (xs.length : Int) := by omega
    go_enter Tryz.func55, Tryz.ntmps55
    go_wp2
    go_ret
    exact ⟨ret_int HV.out.symm, rfl⟩

set_option maxHeartbeats 400000 in
set_option maxRecDepth 100000 in
theorem eqSigned_at (u v : Value) (x y : SI) (w : World) (hl : x.2.length ≤ 9223372036854775807) (hu : RdS w u x) (hv : RdS w v y) :
    Calls Tryz.prog 51 #[u, v] w fun e w' => e = .returned (.bool (decide (x = y))) ∧ Below w.heap.size w w' := by
  obtain ⟨xn, xs⟩ := x
  obtain ⟨yn, ys⟩ := y
  obtain ⟨p, rfl, hp⟩ := hu
  obtain ⟨q, rfl, hq⟩ := hv
  obtain ⟨A, c, rfl⟩ := row_form hp
  obtain ⟨B, d, rfl⟩ := row_form hq
  rw [intsV_length] at hp hq ⊢
  rw [intsV_length]
  simp only at hl hp hq ⊢
  by_cases hn : xn = yn
  · subst hn
    have HV : Hid (decide ((xn, xs) = (xn, ys)) = decide (xs = ys)) := Lib.hid (by simp)
    have hbn : (xn != xn) = false := by simp
    go_enter Tryz.func51, Tryz.ntmps51
    go_wp2_with fail
    refine (eqIntS_any _ _ xs ys 0 w.heap.size 0 w.heap.size _ hl (hp.below (((Below.refl _ _).alloc (Nat.le_refl _) _).alloc (by simp) _) (Nat.le_refl _)) (hq.below (((Below.refl _ _).alloc (Nat.le_refl _) _).alloc (by simp) _) (Nat.le_refl _))).mono ?_
    rintro e w1 ⟨rfl, n, rfl⟩
    by_cases he : xs = ys
    · rw [decide_eq_true he]
      have HE := Lib.hid he
      clear he
      go_wp2
      go_ret
      exact ⟨ret_bool (by rw [HV.out, decide_eq_true HE.out]), below_drewN (((Below.refl _ _).alloc (Nat.le_refl _) _).alloc (by simp) _) n⟩
    · rw [decide_eq_false he]
      have HE := Lib.hid he
      clear he
      go_wp2
      go_ret
      exact ⟨ret_bool (by rw [HV.out, decide_eq_false HE.out]), below_drewN (((Below.refl _ _).alloc (Nat.le_refl _) _).alloc (by simp) _) n⟩
  · have hbn : (xn != yn) = true := by rw [bne_iff_ne]; exact hn
    have hbe : (xn == yn) = false := by rw [beq_eq_false_iff_ne]; exact hn
    have HV : Hid (decide ((xn, xs) = (yn, ys)) = false) := Lib.hid (decide_eq_false (fun e => hn (by injection e)))
    clear hn
    go_enter Tryz.func51, Tryz.ntmps51
    go_wp2
    go_ret
    exact ⟨ret_bool HV.out.symm, ((Below.refl _ _).alloc (Nat.le_refl _) _).alloc (by simp) _⟩

theorem alloc3 (w : World) (a b c : Obj) : (((w.alloc a).alloc b).alloc c).heap[w.heap.size]? = some a ∧ (((w.alloc a).alloc b).alloc c).heap[w.heap.size + 1]? = some b ∧ (((w.alloc a).alloc b).alloc c).heap[w.heap.size + 1 + 1]? = some c ∧ (((w.alloc a).alloc b).alloc c).heap.size = w.heap.size + 3 := by
  have s1 : (w.alloc a).heap.size = w.heap.size + 1 := by simp
  have s2 : ((w.alloc a).alloc b).heap.size = w.heap.size + 1 + 1 := by simp
  have s3 : (((w.alloc a).alloc b).alloc c).heap.size = w.heap.size + 1 + 1 + 1 := by simp
  have n1 := heap_alloc_new w a
  have n2 := heap_alloc_new (w.alloc a) b
  have n3 := heap_alloc_new ((w.alloc a).alloc b) c
  rw [s1] at n2
  rw [s2] at n3
  refine ⟨?_, ?_, n3, by rw [s3]⟩
  · rw [Below.heap_alloc _ _ _ (by omega), Below.heap_alloc _ _ _ (by omega)]; exact n1
  · rw [Below.heap_alloc _ _ _ (by omega)]; exact n2
theorem below3 (w : World) (a b c : Obj) : Below w.heap.size w (((w.alloc a).alloc b).alloc c) := (((Below.refl _ _).alloc (Nat.le_refl _) _).alloc (by simp) _).alloc (by simp; omega) _
set_option maxHeartbeats 400000 in
set_option maxRecDepth 100000 in
theorem toSigned_at (v : Value) (x : SI) (w : World) (hl : x.2.length ≤ 1048576) (h : RdS w v x) :
    Calls Tryz.prog 57 #[v] w (NewS x w) := by
  obtain ⟨n, xs⟩ := x
  obtain ⟨p, rfl, hp⟩ := h
  obtain ⟨A, c, rfl⟩ := row_form hp
  rw [intsV_length] at hp ⊢
  simp only at hl hp ⊢
  go_enter Tryz.func57, Tryz.ntmps57
  go_wp2_with fail
  have h3 := alloc3 w (.cells #[.bool n, .slice A xs.length c] 46) (.cells #[.bool false, .slice none 0 0] 25) (.cells #[.bool n, .slice none 0 0] 25)
  have hb3 := below3 w (.cells #[.bool n, .slice A xs.length c] 46) (.cells #[.bool false, .slice none 0 0] 25) (.cells #[.bool n, .slice none 0 0] 25)
  refine (toIntS_any _ xs 0 w.heap.size _ (by rw [h3.2.2.2]; omega) hl (hp.below hb3 (Nat.le_refl _))).mono ?_
  rintro e w1 ⟨u, rfl, o1, b1⟩
  have hbb : Below w.heap.size w w1 := Below.next hb3 b1
  have k1 := (b1.block (w.heap.size + 1) (by rw [h3.2.2.2]; omega)).trans h3.2.1
  have k2 := (b1.block (w.heap.size + 1 + 1) (by rw [h3.2.2.2]; omega)).trans h3.2.2.1
  have hsz : w.heap.size + 3 ≤ w1.heap.size := by have := b1.size; rw [h3.2.2.2] at this; exact this
  obtain ⟨Au, cu, rfl⟩ := own_len o1
  have c10 : w1.cell? ⟨w.heap.size + 1, 0, none⟩ = some (.bool false) := by rw [Lib.cell_of_heap k1]; rfl
  have c11 : w1.cell? ⟨w.heap.size + 1, 1, none⟩ = some (.slice none 0 0) := by rw [Lib.cell_of_heap k1]; rfl
  have c20 : w1.cell? ⟨w.heap.size + 1 + 1, 0, none⟩ = some (.bool n) := by rw [Lib.cell_of_heap k2]; rfl
  have c21 : w1.cell? ⟨w.heap.size + 1 + 1, 1, none⟩ = some (.slice none 0 0) := by rw [Lib.cell_of_heap k2]; rfl
  have f10 : w1.frozen? ⟨w.heap.size + 1, 0, none⟩ = false := Lib.frozen_of_heap k1 0
  have f11 : w1.frozen? ⟨w.heap.size + 1, 1, none⟩ = false := Lib.frozen_of_heap k1 1
  have f21 : w1.frozen? ⟨w.heap.size + 1 + 1, 1, none⟩ = false := Lib.frozen_of_heap k2 1
  have HO := Lib.hid o1
  have HB := Lib.hid hbb
  have H3 := Lib.hid h3
  clear k1 k2 o1 hbb b1 hb3 h3 hp
  go_wp2
  have hc : Chg [w.heap.size + 1, w.heap.size + 1 + 1] w1 (((w1.setCell ⟨w.heap.size + 1 + 1, 1, none⟩ (.slice Au xs.length cu)).setCell ⟨w.heap.size + 1, 0, none⟩ (.bool n)).setCell ⟨w.heap.size + 1, 1, none⟩ (.slice Au xs.length cu)) :=
    (((Chg.refl _ _).setCell (by simp) _).setCell (by simp) _).setCell (by simp) _
  have hlo : ∀ g ∈ (Value.slice Au xs.length cu).ownBlock.toList, w.heap.size + 3 ≤ g ∧ g < w1.heap.size := fun g hg => by
    have h := own_within HO.out g hg
    rw [H3.out.2.2.2] at h
    exact h
  exact bodyPost_ret (v := .agg #[.bool n, .slice Au xs.length cu]) (by simp [results, Tryz.results57, go_sem, c10, c11]) rfl
    ⟨.slice Au xs.length cu, rfl, own_stays (own_low HO.out (by rw [H3.out.2.2.2]; omega)) fun g hg => hc.block g (hlo g (by rw [hg]; simp)).2 (fun hm => by have := hlo g (by rw [hg]; simp); simp at hm; omega),
      below_chg HB.out hc (by omega) (fun g hg => by simp at hg; omega)⟩

set_option maxHeartbeats 400000 in
set_option maxRecDepth 100000 in
theorem markSigned_at (v : Value) (x : SI) (S : List Nat) (m : Int) (w : World) (hm : m + szS x ≤ 9223372036854775807) (hm0 : 0 ≤ m) (h : At S (OwnS v x) w) :
    Calls Tryz.prog 52 #[v, .int .i64 m] w fun e w' => e = .returned (.int .i64 (m + szS x)) ∧ At S (MarkS v x m) w' ∧ Chg S w w' := by
  obtain ⟨n, xs⟩ := x
  obtain ⟨u, rfl, o⟩ := h.here
  obtain ⟨A, c, rfl⟩ := own_len o
  simp only at hm ⊢
  have hI : At S (OwnI (.slice A xs.length c) xs) w := ⟨o, h.lt, fun w' hk => by
    obtain ⟨u', e, o'⟩ := h.stays w' hk
    injection e with e
    have e2 : u' = .slice A xs.length c := by simpa using e.symm
    rw [e2] at o'
    exact o'⟩
  have hbx : Below w.heap.size w (w.alloc (.cells #[.bool n, .slice A xs.length c] 25)) := (Below.refl _ _).alloc (Nat.le_refl _) _
  clear h o
  have HZ := Lib.hid (show szS (n, xs) = szI xs from rfl)
  rw [HZ.out] at hm
  go_enter Tryz.func52, Tryz.ntmps52
  go_wp2_with fail
  refine (markIntS_at _ xs S m _ hm hm0 (hI.below hbx)).mono ?_
  rintro e w1 ⟨rfl, o1, c1⟩
  have HC := Lib.hid c1
  have HO := Lib.hid o1
  clear c1 o1 hI
  go_wp2
  go_ret
  exact ⟨ret_int (by rw [HZ.out]), HO.out.imp (fun _ h => ⟨_, rfl, h⟩), (Chg.of_below hbx).trans HC.out⟩

set_option maxHeartbeats 400000 in
set_option maxRecDepth 100000 in
theorem heldSigned_at (v : Value) (x : SI) (m : Int) (w : World) (hm : m + szS x ≤ 9223372036854775807) (hm0 : 0 ≤ m) (h : MarkS v x m w) :
    Calls Tryz.prog 53 #[v, .int .i64 m] w fun e w' => e = .returned (.int .i64 (m + szS x)) ∧ Below w.heap.size w w' := by
  obtain ⟨n, xs⟩ := x
  obtain ⟨u, rfl, o⟩ := h
  obtain ⟨A, c, rfl⟩ := own_len o
  have HZ := Lib.hid (show szS (n, xs) = szI xs from rfl)
  rw [HZ.out] at hm
  have hs0 : 0 ≤ szI xs := by unfold szI; omega
  have hbx : Below w.heap.size w (w.alloc (.cells #[.bool n, .slice A xs.length c] 25)) := (Below.refl _ _).alloc (Nat.le_refl _) _
  go_enter Tryz.func53, Tryz.ntmps53
  go_wp2_with fail
  refine (heldIntS_at _ xs m _ hm hm0 (own_below o hbx)).mono ?_
  rintro e w1 ⟨rfl, b1⟩
  have hneg : decide (m + szI xs < 0) = false := decide_eq_false (by omega)
  go_wp2
  go_ret
  exact ⟨ret_int (by rw [HZ.out]), Below.next hbx b1⟩

set_option maxHeartbeats 400000 in
set_option maxRecDepth 100000 in
theorem szSigned_at (v : Value) (x : SI) (left : Int) (w : World) (hl : x.2.length ≤ 9223372036854775807) (h0 : 0 ≤ left) (h1 : left ≤ 1048576) (h : RdS w v x) :
    Calls Tryz.prog 54 #[v, .int .i64 left] w fun e w' => e = .returned (.int .i64 (leftI left (szS x))) ∧ Below w.heap.size w w' := by
  obtain ⟨n, xs⟩ := x
  obtain ⟨u, rfl, hp⟩ := h
  obtain ⟨A, c, rfl⟩ := row_form hp
  rw [intsV_length] at hp ⊢
  simp only at hl hp ⊢
  have HZ := Lib.hid (show szS (n, xs) = szI xs from rfl)
  have hbx : Below w.heap.size w (w.alloc (.cells #[.bool n, .slice A xs.length c] 46)) := (Below.refl _ _).alloc (Nat.le_refl _) _
  go_enter Tryz.func54, Tryz.ntmps54
  go_wp2_with fail
  refine (szIntS_any _ xs 0 w.heap.size left _ hl h0 h1 (hp.below hbx (Nat.le_refl _))).mono ?_
  rintro e w1 ⟨rfl, rfl⟩
  have hv : leftI left (szI xs) < 0 ∧ leftI left (szI xs) = -1 ∨ ¬ leftI left (szI xs) < 0 := by unfold leftI; split <;> omega
  have HL := Lib.hid (show leftI left (szS (n, xs)) = leftI left (szI xs) by rw [HZ.out])
  generalize leftI left (szI xs) = z at *
  rcases hv with ⟨h2, h3⟩ | h2
  · have hneg : decide (z < 0) = true := decide_eq_true h2
    have H3 := Lib.hid h3
    clear h2 h3
    go_wp2
    go_ret
    exact ⟨ret_int (by rw [HL.out, H3.out]), hbx⟩
  · have hneg : decide (z < 0) = false := decide_eq_false h2
    clear h2
    go_wp2
    go_ret
    exact ⟨ret_int (by rw [HL.out]), hbx⟩

/-! ### locals of type impl.Signed: a box, and the limbs that it leads to -/
theorem leftI_of {l n : Int} (h : n ≤ l) : leftI l n = l - n := by unfold leftI; rw [if_neg (by omega)]
theorem below_set2 {W0 W : World} {g : Nat} {a b : Value} (h : Below W0.heap.size W0 W) (hg : W0.heap.size ≤ g) : Below W0.heap.size W0 ((W.setCell ⟨g, 0, none⟩ a).setCell ⟨g, 1, none⟩ b) := (h.setCell (p := ⟨g, 0, none⟩) hg _).setCell (p := ⟨g, 1, none⟩) hg _
theorem own_at' {w : World} {base : Nat} {u : Value} {xs : List Int} (h : w.ownsRow base 3 1 u xs.length (intsV xs)) : At u.ownBlock.toList (OwnI u xs) w := own_at h
/-- a local in its box, with the memory that it leads to -/
def LocS (g : Nat) (u : Value) (x : SI) (W : World) : Prop := BoxAt g #[.bool x.1, u] 25 W ∧ OwnI u x.2 W
def locB (g : Nat) (u : Value) : List Nat := g :: u.ownBlock.toList
theorem LocS.at_ {g : Nat} {u : Value} {x : SI} {W : World} (h : LocS g u x W) : At (locB g u) (LocS g u x) W :=
  ⟨h, fun i hi => by
    rcases List.mem_cons.1 hi with rfl | hi
    · exact (Array.getElem?_eq_some_iff.1 h.1).1
    · exact (own_lt h.2 (by simpa using hi)).2,
    fun w' hk => ⟨(hk g (by simp [locB])).trans h.1, own_stays h.2 fun i hi => hk i (by simp [locB, hi])⟩⟩
/-- a new local: what a statement 'x := f(..)' leaves -/
def NewLoc (x : SI) (W0 : World) (s : Value) (W : World) : Prop := ∃ g u, s = .pointer (some ⟨g, 0, none⟩) ∧ At (locB g u) (LocS g u x) W ∧ Within (locB g u) W0.heap.size W.heap.size ∧ Below W0.heap.size W0 W
theorem newLoc_of {g : Nat} {u : Value} {x : SI} {W0 W : World} {B : Nat} (hb : BoxAt g #[.bool x.1, u] 25 W) (o : W.ownsRow B 3 1 u x.2.length (intsV x.2)) (hB : W0.heap.size ≤ B) (hg : W0.heap.size ≤ g) (hW : Below W0.heap.size W0 W) :
    NewLoc x W0 (.pointer (some ⟨g, 0, none⟩)) W := by
  refine ⟨g, u, rfl, LocS.at_ ⟨hb, own_zero o⟩, fun i hi => ?_, hW⟩
  rcases List.mem_cons.1 hi with rfl | hi
  · exact ⟨hg, (Array.getElem?_eq_some_iff.1 hb).1⟩
  · have := own_lt o (g := i) (by simpa using hi)
    exact ⟨by omega, this.2⟩
theorem newLoc_last {u : Value} {x : SI} {W0 W : World} {B : Nat} (o : W.ownsRow B 3 1 u x.2.length (intsV x.2)) (hB : W0.heap.size ≤ B) (hW : Below W0.heap.size W0 W) :
    NewLoc x W0 (.pointer (some ⟨W.heap.size, 0, none⟩)) (W.alloc (.cells #[.bool x.1, u] 25)) :=
  newLoc_of (heap_alloc_new W _) (own_alloc o _) hB hW.size (below_al hW _)
theorem newLoc_early {g : Nat} {u c0 c1 : Value} {x : SI} {W0 W : World} {B : Nat} (hb : BoxAt g #[c0, c1] 25 W) (o : W.ownsRow B 3 1 u x.2.length (intsV x.2)) (hB : W0.heap.size ≤ B) (hg : W0.heap.size ≤ g) (hW : Below W0.heap.size W0 W) :
    NewLoc x W0 (.pointer (some ⟨g, 0, none⟩)) ((W.setCell ⟨g, 0, none⟩ (.bool x.1)).setCell ⟨g, 1, none⟩ u) := by
  have hne := Lib.ownBlock_ne o hb (by decide)
  have hb' : W.heap[g]? = some (.cells #[c0, c1] 25 (0, 0)) := hb
  refine newLoc_of (B := B) (by simp [BoxAt, World.setCell, Array.getElem?_modify, hb']) (own_stays o fun i hi => ?_) hB hg (below_set2 hW hg)
  have : i ≠ g := fun e => hne (by rw [hi, e])
  exact (Below.heap_setCell _ _ _ _ this).trans (Below.heap_setCell _ _ _ _ this)
/-- a parameter's box: what it holds reads as x, whatever is new -/
theorem rdS_below {w W : World} {A : Option Addr} {c : Nat} {x : SI} (h : Row w 0 w.heap.size (.slice A x.2.length c) (intsV x.2)) (hb : Below w.heap.size w W) : RdS W (.agg #[.bool x.1, .slice A x.2.length c]) x :=
  ⟨_, rfl, (h.below hb (Nat.le_refl _)).wide (Nat.le_refl _) hb.size⟩
end Go.Proofs.YtcenmdiblbooeaaGreatDoor

namespace Go.Proofs.YtcenmdiblbooeaaGreatDoor
open Go.RowKit

/-- a new local of a struct type: its box, and the memory that it leads to -/
def NewLocV (T : TypeId) (φ : Value → World → Prop) (W0 : World) (s : Value) (W : World) : Prop :=
  ∃ (g : Nat) (cs : Array Value) (S : List Nat), s = .pointer (some ⟨g, 0, none⟩) ∧ At [g] (BoxAt g cs T) W ∧ At S (φ (.agg cs)) W ∧ g ∉ S ∧ Within (g :: S) W0.heap.size W.heap.size ∧ Below W0.heap.size W0 W
theorem within_up {S : List Nat} {a b c d : Nat} (h : Within S a b) (ha : c ≤ a) (hb : b ≤ d) : Within S c d := fun g hg => by have := h g hg; omega
theorem newLocV_last {T : TypeId} {φ : Value → World → Prop} {W0 W W1 : World} {cs : Array Value} {S : List Nat} (o : At S (φ (.agg cs)) W) (l : Within S W1.heap.size W.heap.size) (hB : W0.heap.size ≤ W1.heap.size) (hW : Below W0.heap.size W0 W) :
    NewLocV T φ W0 (.pointer (some ⟨W.heap.size, 0, none⟩)) (W.alloc (.cells cs T)) :=
  ⟨W.heap.size, cs, S, rfl, box_new W cs T, o.below (below_al (Below.refl _ _) _), fun h => by have := l _ h; omega, fun i hi => by
    rcases List.mem_cons.1 hi with rfl | hi
    · exact ⟨hW.size, by simp⟩
    · have := l i hi
      simp
      omega, below_al hW _⟩
theorem newLocV_of {T : TypeId} {φ : Value → World → Prop} {W0 W W' : World} {g : Nat} {cs : Array Value} {S : List Nat} {B : Nat} (hb : BoxAt g cs T W') (o : At S (φ (.agg cs)) W) (l : Within S B W.heap.size) (hg : W0.heap.size ≤ g) (hgB : g < B) (hc : Chg [g] W W') (hW : Below W0.heap.size W0 W) :
    NewLocV T φ W0 (.pointer (some ⟨g, 0, none⟩)) W' := by
  have hn : g ∉ S := fun h => by have := l _ h; omega
  have h1 := (Array.getElem?_eq_some_iff.1 hb).1
  have hz := hc.size
  refine ⟨g, cs, S, rfl, box_at hb, o.chg hc (fun i hi hm => by simp at hm; subst hm; exact hn hi), hn, fun i hi => ?_, below_chg hW hc hW.size (fun i hi => by simp at hi; omega)⟩
  rcases List.mem_cons.1 hi with rfl | hi
  · exact ⟨hg, h1⟩
  · have := l i hi
    omega
theorem newLocV_early2 {T : TypeId} {φ : Value → World → Prop} {W0 W W1 : World} {g : Nat} {z0 z1 c0 c1 : Value} {S : List Nat} (hb : BoxAt g #[z0, z1] T W) (o : At S (φ (.agg #[c0, c1])) W) (l : Within S W1.heap.size W.heap.size) (hg : W0.heap.size ≤ g) (hgB : g < W1.heap.size) (hW : Below W0.heap.size W0 W) :
    NewLocV T φ W0 (.pointer (some ⟨g, 0, none⟩)) ((W.setCell ⟨g, 0, none⟩ c0).setCell ⟨g, 1, none⟩ c1) :=
  have hb' : W.heap[g]? = some (.cells #[z0, z1] T (0, 0)) := hb
  newLocV_of (by simp [BoxAt, World.setCell, Array.getElem?_modify, hb']) o l hg hgB (((Chg.refl _ _).setCell (by simp) _).setCell (by simp) _) hW
theorem newLocV_early3 {T : TypeId} {φ : Value → World → Prop} {W0 W W1 : World} {g : Nat} {z0 z1 z2 c0 c1 c2 : Value} {S : List Nat} (hb : BoxAt g #[z0, z1, z2] T W) (o : At S (φ (.agg #[c0, c1, c2])) W) (l : Within S W1.heap.size W.heap.size) (hg : W0.heap.size ≤ g) (hgB : g < W1.heap.size) (hW : Below W0.heap.size W0 W) :
    NewLocV T φ W0 (.pointer (some ⟨g, 0, none⟩)) (((W.setCell ⟨g, 0, none⟩ c0).setCell ⟨g, 1, none⟩ c1).setCell ⟨g, 2, none⟩ c2) :=
  have hb' : W.heap[g]? = some (.cells #[z0, z1, z2] T (0, 0)) := hb
  newLocV_of (by simp [BoxAt, World.setCell, Array.getElem?_modify, hb']) o l hg hgB ((((Chg.refl _ _).setCell (by simp) _).setCell (by simp) _).setCell (by simp) _) hW
theorem At.below_lt {g : Nat} {φ : World → Prop} {w w' : World} (h : At [g] φ w) (hb : Below w.heap.size w w') : At [g] φ w' ∧ g < w.heap.size := ⟨h.below hb, h.lt g (by simp)⟩
theorem below_set3 {W0 W : World} {g : Nat} {a b c : Value} (h : Below W0.heap.size W0 W) (hg : W0.heap.size ≤ g) : Below W0.heap.size W0 (((W.setCell ⟨g, 0, none⟩ a).setCell ⟨g, 1, none⟩ b).setCell ⟨g, 2, none⟩ c) := ((h.setCell (p := ⟨g, 0, none⟩) hg _).setCell (p := ⟨g, 1, none⟩) hg _).setCell (p := ⟨g, 2, none⟩) hg _
theorem At.more {S U : List Nat} {φ : World → Prop} {w : World} (h : At S φ w) (hs : ∀ g ∈ S, g ∈ U) (hl : ∀ g ∈ U, g < w.heap.size) : At U φ w := ⟨h.here, hl, fun w' hk => h.stays w' fun g hg => hk g (hs g hg)⟩
/-- a fact that says what limbs a slice holds leans on their block -/
theorem at_ints_mem {S : List Nat} {φ : World → Prop} {w : World} {u : Value} {xs : List Int} (h : At S φ w) (hi : ∀ w', φ w' → OwnI u xs w') : ∀ g, u.ownBlock = some g → g ∈ S := by
  intro g hg
  rcases Classical.em (g ∈ S) with hin | hout
  · exact hin
  · exfalso
    have hst := hi _ (h.stays { w with heap := w.heap.set! g (.cells #[] 4 (0, 0)) } (fun i hi => by
      have : i ≠ g := fun e => hout (e ▸ hi)
      simp [Ne.symm this]))
    have hlt := (own_lt (hi _ h.here) hg).2
    obtain ⟨_, ⟨rfl, _⟩ | ⟨g', cap, cur, rfl, _, hh, _⟩⟩ := hst
    · cases hg
    · cases hg
      have hlt' : g' < w.heap.size := hlt
      have hh' : (w.heap.setIfInBounds g' (.cells #[] 4 (0, 0)))[g']? = some (.cells cur 3 (0, 0)) := hh
      rw [Array.getElem?_setIfInBounds_self_of_lt hlt'] at hh'
      simp at hh'
theorem toList_own {u : Value} {S : List Nat} (h : ∀ g, u.ownBlock = some g → g ∈ S) : ∀ g ∈ u.ownBlock.toList, g ∈ S := fun g hg => h g (by simpa using hg)

/-! ### kind S: impl.Signed -/
def capS (x : SI) : Prop := x.2.length ≤ 9223372036854775807
theorem szS_nonneg (x : SI) : 0 ≤ szS x := by unfold szS szI; omega
theorem capS_of {x : SI} (h : szS x ≤ 1048576) : capS x := by unfold szS szI at h; unfold capS; omega
theorem ownS_form {v : Value} {x : SI} {w : World} (h : OwnS v x w) : ∃ A c, v = .agg #[.bool x.1, .slice A x.2.length c] := by
  obtain ⟨u, rfl, o⟩ := h
  obtain ⟨A, c, rfl⟩ := own_len o
  exact ⟨A, c, rfl⟩
theorem rdS_form {v : Value} {x : SI} {w : World} (h : RdS w v x) : ∃ A c, v = .agg #[.bool x.1, .slice A x.2.length c] := by
  obtain ⟨u, rfl, o⟩ := h
  obtain ⟨A, c, rfl⟩ := row_form o
  rw [intsV_length]
  exact ⟨A, c, rfl⟩
theorem RdS.below {w W : World} {v : Value} {x : SI} (h : RdS w v x) (hb : Below w.heap.size w W) : RdS W v x := by
  obtain ⟨u, rfl, o⟩ := h
  exact ⟨u, rfl, (o.below hb (Nat.le_refl _)).wide (Nat.le_refl _) hb.size⟩
theorem NewS.newV {x : SI} {w w' : World} {e : Ending} (h : NewS x w e w') : NewV (fun v => OwnS v x) w e w' := by
  obtain ⟨u, rfl, o, b⟩ := h
  exact ⟨_, u.ownBlock.toList, rfl, (own_at' o).imp fun _ h => OwnS.mk h, own_within o, b⟩
theorem toS_new (v : Value) (x : SI) (w : World) (hz : szS x ≤ 1048576) (h : RdS w v x) : Calls Tryz.prog 57 #[v] w (NewV (fun u => OwnS u x) w) :=
  (toSigned_at v x w (by unfold szS szI at hz; omega) h).mono fun _ _ h => h.newV
theorem eqS_cal (u v : Value) (x y : SI) (w : World) (hz : capS x) (hu : RdS w u x) (hv : RdS w v y) : Calls Tryz.prog 51 #[u, v] w (Postb (decide (x = y)) w) :=
  eqSigned_at u v x y w hz hu hv
theorem szS_cal (v : Value) (x : SI) (left : Int) (w : World) (hl : capS x) (h0 : 0 ≤ left) (h1 : left ≤ 1048576) (h : RdS w v x) : Calls Tryz.prog 54 #[v, .int .i64 left] w (Postn (leftI left (szS x)) w) :=
  szSigned_at v x left w hl h0 h1 h
theorem markS_cal (v : Value) (x : SI) (S : List Nat) (m : Int) (w : World) (hm : m + szS x ≤ 9223372036854775807) (hm0 : 0 ≤ m) (h : At S (OwnS v x) w) :
    Calls Tryz.prog 52 #[v, .int .i64 m] w fun e w' => e = .returned (.int .i64 (m + szS x)) ∧ At S (MarkS v x m) w' ∧ Chg S w w' := markSigned_at v x S m w hm hm0 h
theorem heldS_cal (v : Value) (x : SI) (m : Int) (w : World) (hm : m + szS x ≤ 9223372036854775807) (hm0 : 0 ≤ m) (h : MarkS v x m w) : Calls Tryz.prog 53 #[v, .int .i64 m] w (Postn (m + szS x) w) :=
  heldSigned_at v x m w hm hm0 h

def PostT (R0 : ByteArray) (w : World) (e : Ending) (w' : World) : Prop := e = .returned (.string R0) ∧ Below w.heap.size w w'
end Go.Proofs.YtcenmdiblbooeaaGreatDoor

namespace Go.Proofs.YtcenmdiblbooeaaGreatDoor
open Go.RowKit

/-! ### look-ups by code -/
def zeroC : CR := (⟨#[]⟩, ⟨#[]⟩, 0, 0)
def rowOf (l : List CR) (s : ByteArray) : CR := match l.find? (fun r => decide (r.1 = s)) with
  | some r => r
  | none => zeroC
theorem rowOf_mem {l : List CR} (hn : (l.map fun r => r.1).Nodup) {r : CR} (h : r ∈ l) : rowOf l r.1 = r := by
  unfold rowOf
  rw [find_of_mem (f := fun r : CR => r.1) hn h]
theorem rowOf_none {l : List CR} {n : ByteArray} (h : ∀ r ∈ l, ¬ r.1 = n) : rowOf l n = zeroC := by
  unfold rowOf
  rw [List.find?_eq_none.2 fun r hr => by simpa using h r hr]
theorem rowOf_eq (n : ByteArray) : rowOf implT n = rowOf specT n := by
  unfold rowOf
  rw [find_perm (f := fun r : CR => r.1) implT_codes specT_codes implT_sub specT_sub n]
def knownC (s : ByteArray) : Bool := (codesT specT).any fun c => decide (c = s)
theorem specT_ne : ∀ r ∈ specT, ¬ r.1 = ⟨#[]⟩ := by
  have h : (specT.all fun r => decide (¬ r.1 = ⟨#[]⟩)) = true := by decide +kernel
  exact fun r hr => of_decide_eq_true (List.all_eq_true.1 h r hr)
theorem known_row {s : ByteArray} (h : knownC s = true) : ∃ r ∈ specT, r.1 = s ∧ rowOf specT s = r := by
  have h1 : s ∈ codesT specT := by
    obtain ⟨c, hc, e⟩ := List.any_eq_true.1 h
    rw [← of_decide_eq_true e]
    exact hc
  obtain ⟨r, hr, rfl⟩ := List.mem_map.1 h1
  exact ⟨r, hr, rfl, rowOf_mem specT_codes hr⟩
theorem not_known {s : ByteArray} (h : knownC s = false) : rowOf specT s = zeroC := by
  refine rowOf_none fun r hr e => ?_
  have h1 : knownC s = true := List.any_eq_true.2 ⟨r.1, List.mem_map_of_mem hr, decide_eq_true e⟩
  rw [h] at h1
  cases h1
/-- a row is found where its code is not empty -/
theorem known_ne (s : ByteArray) : decide (¬ (rowOf specT s).1 = ⟨#[]⟩) = knownC s := by
  cases h : knownC s with
  | true =>
    obtain ⟨r, hr, _, e⟩ := known_row h
    rw [e]
    exact decide_eq_true (specT_ne r hr)
  | false => rw [not_known h]; rfl
def placesC (s : ByteArray) : Int := (rowOf specT s).2.2.1
theorem placesC_range (s : ByteArray) : 0 ≤ placesC s ∧ placesC s ≤ 4 := by
  unfold placesC
  cases h : knownC s with
  | true =>
    obtain ⟨r, hr, _, e⟩ := known_row h
    rw [e]
    have h : (specT.all fun r => decide (0 ≤ r.2.2.1 ∧ r.2.2.1 ≤ 4)) = true := by decide +kernel
    exact of_decide_eq_true (List.all_eq_true.1 h r hr)
  | false => rw [not_known h]; decide

/-! ### amounts -/
abbrev MI : Type := ByteArray × SI
def zeroM : MI := (⟨#[]⟩, zeroS)
def szM (m : MI) : Int := m.1.size + szS m.2
/-- how many cells a mark of it takes -/
def mkM (m : MI) : Int := szS m.2
def okM (m : MI) : Bool := knownC m.1 && okS m.2 && decide (m.2.2.length ≤ 4)
def makeM (c : ByteArray) (x : SI) : MI × Bool := if okM (c, x) = true then ((c, x), true) else (zeroM, false)
def bothM (m n : MI) : Bool := okM m && okM n && decide (m.1 = n.1)
def addM (m n : MI) : MI × Bool := if bothM m n = true then makeM m.1 (addS m.2 n.2) else (zeroM, false)
def subM (m n : MI) : MI × Bool := if bothM m n = true then makeM m.1 (subS m.2 n.2) else (zeroM, false)
def negM (m : MI) : MI × Bool := if okM m = true then makeM m.1 (negS m.2) else (zeroM, false)
def timesM (m : MI) (k : Int) : MI × Bool := if okM m = true then makeM m.1 (mulS m.2 (ofZ k)) else (zeroM, false)
def cmpM (m n : MI) : Int × Bool := if bothM m n = true then (cmpS m.2 n.2, true) else (0, false)
def sameM (m n : MI) : Bool := decide (m.1 = n.1) && decide (m.2 = n.2)
end Go.Proofs.YtcenmdiblbooeaaGreatDoor

namespace Go.Proofs.YtcenmdiblbooeaaGreatDoor
open Go.RowKit

/-- a value that stands for it, its limbs of the call's own -/
def OwnM (v : Value) (q : MI) (w : World) : Prop := ∃ u, v = .agg #[.string q.1, .bool q.2.1, u] ∧ OwnI u q.2.2 w
def MarkM (v : Value) (q : MI) (m : Int) (w : World) : Prop := ∃ u, v = .agg #[.string q.1, .bool q.2.1, u] ∧ MarkI u q.2.2 m w
/-- a value that reads as it -/
def RdM (w : World) (v : Value) (q : MI) : Prop := ∃ u, v = .agg #[.string q.1, .bool q.2.1, u] ∧ Row w 0 w.heap.size u (intsV q.2.2)
theorem OwnM.rd {v : Value} {q : MI} {w : World} (h : OwnM v q w) : RdM w v q := by
  obtain ⟨u, rfl, o⟩ := h
  exact ⟨u, rfl, o.row⟩
theorem OwnM.mk {u : Value} {q : MI} {w : World} (h : OwnI u q.2.2 w) : OwnM (.agg #[.string q.1, .bool q.2.1, u]) q w := ⟨u, rfl, h⟩
theorem OwnM.below {w W : World} {v : Value} {q : MI} (h : OwnM v q w) (hb : Below w.heap.size w W) : OwnM v q W := by
  obtain ⟨u, rfl, o⟩ := h
  exact ⟨u, rfl, own_below o hb⟩
theorem RdM.below {w W : World} {v : Value} {q : MI} (h : RdM w v q) (hb : Below w.heap.size w W) : RdM W v q := by
  obtain ⟨u, rfl, o⟩ := h
  exact ⟨u, rfl, (o.below hb (Nat.le_refl _)).wide (Nat.le_refl _) hb.size⟩
def capM (q : MI) : Prop := q.1.size ≤ 9223372036854775807 ∧ q.2.2.length ≤ 9223372036854775807
theorem szM_nonneg (q : MI) : 0 ≤ szM q := by unfold szM szS szI; omega
theorem szM_len {q : MI} (h : szM q ≤ 1048576) : q.1.size ≤ 1048576 ∧ q.2.2.length ≤ 1048576 := by unfold szM szS szI at h; omega
theorem capM_of {q : MI} (h : szM q ≤ 1048576) : capM q := by have := szM_len h; unfold capM; omega
theorem mkM_range (q : MI) : 0 ≤ mkM q ∧ mkM q ≤ szM q := by unfold mkM szM szS szI; omega
theorem ownM_form {v : Value} {q : MI} {w : World} (h : OwnM v q w) : ∃ A c, v = .agg #[.string q.1, .bool q.2.1, .slice A q.2.2.length c] := by
  obtain ⟨u, rfl, o⟩ := h
  obtain ⟨A, c, rfl⟩ := own_len o
  exact ⟨A, c, rfl⟩
theorem rdM_form {v : Value} {q : MI} {w : World} (h : RdM w v q) : ∃ A c, v = .agg #[.string q.1, .bool q.2.1, .slice A q.2.2.length c] := by
  obtain ⟨u, rfl, o⟩ := h
  obtain ⟨A, c, rfl⟩ := row_form o
  rw [intsV_length]
  exact ⟨A, c, rfl⟩
theorem ownM_open {u c s : Value} {q : MI} {w : World} (h : OwnM (.agg #[c, s, u]) q w) : OwnI u q.2.2 w := by
  obtain ⟨u', e, hu⟩ := h
  injection e with e
  simp at e
  obtain ⟨_, _, e2⟩ := e
  subst e2
  exact hu
theorem ownS_openM {u c : Value} {x : SI} {w : World} (h : OwnS (.agg #[c, u]) x w) : OwnI u x.2 w := by
  obtain ⟨u', e, hu⟩ := h
  injection e with e
  simp at e
  obtain ⟨_, e2⟩ := e
  subst e2
  exact hu
/-- a value whose blocks stay while others are written -/
theorem newV_chgM {φ : Value → World → Prop} {S T : List Nat} {v : Value} {w W : World} (o : At S (φ v) W) (hd : ∀ i ∈ S, i ∉ T) (hT : ∀ i ∈ T, w.heap.size ≤ i) (l : ∀ i ∈ S, w.heap.size ≤ i) (hW : Below w.heap.size w W) :
    ∀ W', Chg T W W' → NewV φ w (.returned v) W' :=
  fun _ hc => ⟨v, S, rfl, o.chg hc hd, fun i hi => ⟨l i hi, Nat.lt_of_lt_of_le (o.lt i hi) hc.size⟩, below_chg hW hc hW.size hT⟩
/-- what a call answers: a new amount and a bool -/
def PostMb (R0 : MI) (R1 : Bool) (w : World) (e : Ending) (w' : World) : Prop :=
  ∃ (v : Value) (S : List Nat), e = .returned (.tuple #[v, .bool R1]) ∧ At S (OwnM v R0) w' ∧ Within S w.heap.size w'.heap.size ∧ Below w.heap.size w w'
theorem postMb_is {q : MI × Bool} {X : MI} {b : Bool} (e : q = (X, b)) {w w' : World} {n : Ending} (h : PostMb q.1 q.2 w n w') : PostMb X b w n w' := by rw [e] at h; exact h
theorem postMb_eq {q p : MI × Bool} (e : q = p) {w w' : World} {n : Ending} (h : PostMb q.1 q.2 w n w') : PostMb p.1 p.2 w n w' := by rw [e] at h; exact h
theorem postMb_chg {S T : List Nat} {v : Value} {x : MI} {b : Bool} {w W : World} (o : At S (OwnM v x) W) (hd : ∀ i ∈ S, i ∉ T) (hT : ∀ i ∈ T, w.heap.size ≤ i) (l : ∀ i ∈ S, w.heap.size ≤ i) (hW : Below w.heap.size w W) :
    ∀ W', Chg T W W' → PostMb x b w (.returned (.tuple #[v, .bool b])) W' :=
  fun _ hc => ⟨v, S, rfl, o.chg hc hd, fun i hi => ⟨l i hi, Nat.lt_of_lt_of_le (o.lt i hi) hc.size⟩, below_chg hW hc hW.size hT⟩
theorem chg_set3M {r : Nat} {c0 c1 c2 : Value} {W : World} : Chg [r] W (((W.setCell ⟨r, 0, none⟩ c0).setCell ⟨r, 1, none⟩ c1).setCell ⟨r, 2, none⟩ c2) := (((Chg.refl _ _).setCell (by simp) _).setCell (by simp) _).setCell (by simp) _
theorem newMb_at {r B : Nat} {S : List Nat} {c0 c1 c2 : Value} {x : MI} {b : Bool} {w W : World} (o : At S (OwnM (.agg #[c0, c1, c2]) x) W) (l : Within S B W.heap.size) (hrB : r < B) (hr : w.heap.size ≤ r) (hW : Below w.heap.size w W) :
    PostMb x b w (.returned (.tuple #[.agg #[c0, c1, c2], .bool b])) (((W.setCell ⟨r, 0, none⟩ c0).setCell ⟨r, 1, none⟩ c1).setCell ⟨r, 2, none⟩ c2) :=
  postMb_chg o (fun i hi hm => by have := l i hi; simp at hm; omega) (fun i hi => by simp at hi; omega) (fun i hi => by have := l i hi; omega) hW _ chg_set3M
theorem ownM_zero (w : World) : OwnM (.agg #[.string ⟨#[]⟩, .bool false, .slice none 0 0]) zeroM w := ⟨_, rfl, World.ownsRow_nil _ _ _ _⟩
theorem atM_zero (w : World) : At [] (OwnM (.agg #[.string ⟨#[]⟩, .bool false, .slice none 0 0]) zeroM) w := ⟨ownM_zero _, fun _ hg => absurd hg List.not_mem_nil, fun w' _ => ownM_zero w'⟩
theorem newMb_zero {w W : World} (b : Bool) (hW : Below w.heap.size w W) : PostMb zeroM b w (.returned (.tuple #[.agg #[.string ⟨#[]⟩, .bool false, .slice none 0 0], .bool b])) W :=
  ⟨_, [], rfl, atM_zero _, fun _ hg => absurd hg List.not_mem_nil, hW⟩
set_option maxHeartbeats 400000 in
set_option maxRecDepth 100000 in
theorem eqM_cal (u v : Value) (x y : MI) (w : World) (hz : capM x) (hu : RdM w u x) (hv : RdM w v y) : Calls Tryz.prog 19 #[u, v] w (Postb (decide (x = y)) w) := by
  obtain ⟨p, rfl, hp⟩ := hu
  obtain ⟨q, rfl, hq⟩ := hv
  obtain ⟨Ap, cp, rfl⟩ := row_form hp
  obtain ⟨Aq, cq, rfl⟩ := row_form hq
  simp only [intsV_length] at hp hq ⊢
  have hb : Below w.heap.size w ((w.alloc (.cells #[.string x.1, .bool x.2.1, .slice Ap x.2.2.length cp] 27)).alloc (.cells #[.string y.1, .bool y.2.1, .slice Aq y.2.2.length cq] 27)) := below_al (below_al (Below.refl _ _) _) _
  have kx := (box_new w #[.string x.1, .bool x.2.1, .slice Ap x.2.2.length cp] 27).below (below_al (Below.refl _ _) (.cells #[.string y.1, .bool y.2.1, .slice Aq y.2.2.length cq] 27))
  have ky := box_new (w.alloc (.cells #[.string x.1, .bool x.2.1, .slice Ap x.2.2.length cp] 27)) #[.string y.1, .bool y.2.1, .slice Aq y.2.2.length cq] 27
  rw [show (w.alloc (.cells #[.string x.1, .bool x.2.1, .slice Ap x.2.2.length cp] 27)).heap.size = w.heap.size + 1 by simp] at ky
  have cx0 := kx.here.cell 0 _ rfl
  have cx1 := kx.here.cell 1 _ rfl
  have cx2 := kx.here.cell 2 _ rfl
  have cy0 := ky.here.cell 0 _ rfl
  have cy1 := ky.here.cell 1 _ rfl
  have cy2 := ky.here.cell 2 _ rfl
  clear kx ky
  by_cases h1 : x.1 = y.1
  · have H1 := Lib.hid h1
    have HE := Lib.hid (eqSigned_at (.agg #[.bool x.2.1, .slice Ap x.2.2.length cp]) (.agg #[.bool y.2.1, .slice Aq y.2.2.length cq]) x.2 y.2 _ hz.2 (rdS_below hp hb) (rdS_below hq hb))
    have HB := Lib.hid hb
    rw [← h1] at cy0 HE HB
    clear h1 hp hq hb hz
    go_enter Tryz.func19, Tryz.ntmps19
    rw [← H1.out]
    go_wp2_with fail
    refine HE.out.mono ?_
    rintro e w1 ⟨rfl, b1⟩
    have bb1 := Lib.hid (Below.next HB.out b1)
    clear cx0 cx1 cx2 cy0 cy1 cy2 b1
    have HV := Lib.hid (show decide (x = y) = decide (x.2 = y.2) from decide_eq_decide.2 ⟨fun e => by rw [e], fun e => Prod.ext H1.out e⟩)
    by_cases h2 : x.2 = y.2
    · rw [decide_eq_true h2] at HV ⊢
      clear h2
      go_wp2
      go_ret
      exact ⟨ret_bool HV.out.symm, bb1.out⟩
    · rw [decide_eq_false h2] at HV ⊢
      clear h2
      go_wp2
      go_ret
      exact ⟨ret_bool HV.out.symm, bb1.out⟩
  · have hne := bytes_neC h1
    have hne2 : (x.1.toList != y.1.toList) = true := by rw [bne, hne]; rfl
    have HV := Lib.hid (show decide (x = y) = false from decide_eq_false (fun e => h1 (by rw [e])))
    clear h1
    go_enter Tryz.func19, Tryz.ntmps19
    go_wp2
    go_ret
    exact ⟨ret_bool HV.out.symm, hb⟩
set_option maxHeartbeats 400000 in
set_option maxRecDepth 100000 in
theorem markM_cal (v : Value) (x : MI) (S : List Nat) (m : Int) (w : World) (hm : m + mkM x ≤ 9223372036854775807) (hm0 : 0 ≤ m) (h : At S (OwnM v x) w) :
    Calls Tryz.prog 20 #[v, .int .i64 m] w fun e w' => e = .returned (.int .i64 (m + mkM x)) ∧ At S (MarkM v x m) w' ∧ Chg S w w' := by
  obtain ⟨A, c, rfl⟩ := ownM_form h.here
  have hbx := below_al (Below.refl w.heap.size w) (.cells #[.string x.1, .bool x.2.1, .slice A x.2.2.length c] 27)
  have kx := box_new w #[.string x.1, .bool x.2.1, .slice A x.2.2.length c] 27
  have ax := (h.below hbx).imp (fun _ h => (OwnS.mk (ownM_open h) : OwnS (.agg #[.bool x.2.1, .slice A x.2.2.length c]) x.2 _))
  have kx_c0 := kx.here.cell 0 _ rfl
  have kx_c1 := kx.here.cell 1 _ rfl
  have kx_c2 := kx.here.cell 2 _ rfl
  have HZ := Lib.hid (show mkM x = szS x.2 from rfl)
  have HBX := Lib.hid hbx
  clear h kx
  go_enter Tryz.func20, Tryz.ntmps20
  go_wp2_with fail
  clear kx_c0 kx_c1 kx_c2
  refine (markSigned_at _ x.2 S m _ hm hm0 ax).mono ?_
  rintro e w1 ⟨rfl, mu, c1⟩
  have hall := Lib.hid (mu.imp (fun _ h => (show MarkM (.agg #[.string x.1, .bool x.2.1, .slice A x.2.2.length c]) x m _ from by
    obtain ⟨u', e1, hu'⟩ := h
    injection e1 with e1
    have e2 : u' = .slice A x.2.2.length c := by simpa using e1.symm
    rw [e2] at hu'
    exact ⟨_, rfl, hu'⟩)))
  have hchg := Lib.hid ((Chg.of_below HBX.out).trans c1 : Chg S w w1)
  clear mu c1
  go_wp2
  go_ret
  exact ⟨ret_int (by rw [HZ.out]), hall.out, hchg.out⟩
set_option maxHeartbeats 400000 in
set_option maxRecDepth 100000 in
theorem heldM_cal (v : Value) (x : MI) (m : Int) (w : World) (hm : m + mkM x ≤ 9223372036854775807) (hm0 : 0 ≤ m) (h : MarkM v x m w) : Calls Tryz.prog 21 #[v, .int .i64 m] w (Postn (m + mkM x) w) := by
  obtain ⟨u, rfl, ou⟩ := h
  obtain ⟨A, c, rfl⟩ := own_len ou
  have hs0 : 0 ≤ szS x.2 := by unfold szS szI; omega
  have HZ := Lib.hid (show mkM x = szS x.2 from rfl)
  rw [HZ.out] at hm
  have hbx := below_al (Below.refl w.heap.size w) (.cells #[.string x.1, .bool x.2.1, .slice A x.2.2.length c] 27)
  have kx := box_new w #[.string x.1, .bool x.2.1, .slice A x.2.2.length c] 27
  have ou1 : MarkS (.agg #[.bool x.2.1, .slice A x.2.2.length c]) x.2 m _ := ⟨_, rfl, own_below ou hbx⟩
  have kx_c0 := kx.here.cell 0 _ rfl
  have kx_c1 := kx.here.cell 1 _ rfl
  have kx_c2 := kx.here.cell 2 _ rfl
  clear ou kx
  go_enter Tryz.func21, Tryz.ntmps21
  go_wp2_with fail
  clear kx_c0 kx_c1 kx_c2
  refine (heldSigned_at _ x.2 m _ (by omega) hm0 ou1).mono ?_
  rintro e w1 ⟨rfl, b1⟩
  have bb1 := Below.next hbx b1
  have hn1 : decide (m + szS x.2 < 0) = false := decide_eq_false (by omega)
  clear ou1
  go_wp2
  go_ret
  exact ⟨ret_int (by rw [HZ.out]), bb1⟩
end Go.Proofs.YtcenmdiblbooeaaGreatDoor

namespace Go.Proofs.YtcenmdiblbooeaaGreatDoor
open Go.RowKit

set_option maxHeartbeats 4000000 in
set_option maxRecDepth 100000 in
theorem lawTextMoney_walk (s : ByteArray) (R0 : MI) (R1 : Bool) (w : World)
    (hS : ∀ (W : World), Calls Tryz.prog 18 #[.string s] W (PostMb R0 R1 W))
    (hI : ∀ (W : World), CurTab W → Tab W → Calls Tryz.prog 7 #[.string s] W (PostMb R0 R1 W))
    (ht0 : CurTab w) (ht1 : Tab w) (hls : s.size ≤ 1048576) (hlR0 : szM R0 ≤ 1048576)  :
    Calls Tryz.prog 4 #[.string s] w fun e w' => e = .returned (.bool true) ∧ Below w.heap.size w w' := by
  have HS := Lib.hid hS
  have HI := Lib.hid hI
  clear hS hI
  have HT0 := Lib.hid ht0
  clear ht0
  have HT1 := Lib.hid ht1
  clear ht1
  have hsR0 := szM_nonneg R0
  have hmR0 := mkM_range R0
  have bb0 : Below w.heap.size w w := Below.refl _ _
  go_enter Tryz.func4, Tryz.ntmps4
  go_upto_region 3 with fail
  go_cut [3, 4] (fun s t1 wx => NewLocV 27 (fun v => OwnM v R0) w s wx ∧ t1 = .bool R1)
  case first =>
    go_wp2_with fail
    refine (HS.out  _ ).mono ?_
    rintro e wf ⟨uf, Sf, rfl, of, lf, bf⟩
    obtain ⟨Af, cf, rfl⟩ := ownM_form of.here
    have bwf := bf
    go_wp2_with fail
    go_meet
    exact ⟨newLocV_last of lf (Nat.le_refl _) bwf, rfl⟩
  rename World => w1
  obtain ⟨⟨gw0, csw0, Sw0, rfl, kw0, ow0, nw0, lw0, b1⟩, rfl⟩ := hcut
  obtain ⟨Aw0, cw0, ew0⟩ := ownM_form ow0.here
  injection ew0 with ew0
  subst ew0
  have bb1 := Below.next bb0 b1
  go_upto_region 4 with fail
  go_cut [5, 6] (fun s t1 wx => NewLocV 27 (fun v => OwnM v R0) w1 s wx ∧ t1 = .bool R1)
  case first =>
    go_wp2_with fail
    refine (HI.out  _  (HT0.out.below bb1) (HT1.out.below bb1)).mono ?_
    rintro e wf ⟨uf, Sf, rfl, of, lf, bf⟩
    obtain ⟨Af, cf, rfl⟩ := ownM_form of.here
    go_wp2_with fail
    go_meet
    exact ⟨newLocV_last of lf (Nat.le_refl _) bf, rfl⟩
  rename World => w2
  obtain ⟨⟨gg0, csg0, Sg0, rfl, kg0, og0, ng0, lg0, b2⟩, rfl⟩ := hcut
  obtain ⟨Ag0, cg0, eg0⟩ := ownM_form og0.here
  injection eg0 with eg0
  subst eg0
  have bb2 := Below.next bb1 b2
  replace kw0 := kw0.below b2
  replace ow0 := ow0.below b2
  have kg0_c0 := kg0.here.cell 0 _ rfl
  have kg0_c1 := kg0.here.cell 1 _ rfl
  have kg0_c2 := kg0.here.cell 2 _ rfl
  have kw0_c0 := kw0.here.cell 0 _ rfl
  have kw0_c1 := kw0.here.cell 1 _ rfl
  have kw0_c2 := kw0.here.cell 2 _ rfl
  go_wp2_with fail
  clear kg0_c0 kg0_c1 kg0_c2 kw0_c0 kw0_c1 kw0_c2
  refine (eqM_cal _ _ R0 R0 _ (capM_of (by omega)) (OwnM.rd og0.here) (OwnM.rd ow0.here)).mono ?_
  rintro e w3 ⟨rfl, b3⟩
  rw [decide_refl]
  have bb3 := Below.next bb2 b3
  replace kw0 := kw0.below b3
  replace ow0 := ow0.below b3
  replace kg0 := kg0.below b3
  replace og0 := og0.below b3
  have z1 := b1.size
  have z2 := b2.size
  have z3 := b3.size
  have AP_w0_g0 := Lib.hid (Within.apart lw0 lg0 (.inl (by omega)))
  have F_g0 := Lib.hid (Within.from (B := w.heap.size) lg0 (by have := bb0.size; omega))
  have N_g0 := Lib.hid ng0
  clear z1 z2 z3
  have kg0_c0 := kg0.here.cell 0 _ rfl
  have kg0_c1 := kg0.here.cell 1 _ rfl
  have kg0_c2 := kg0.here.cell 2 _ rfl
  go_wp2_with fail
  clear kg0_c0 kg0_c1 kg0_c2
  refine (markM_cal _ R0 _ (1) _ (by omega) (by omega) og0).mono ?_
  rintro e w4 ⟨rfl, mkg0, c4⟩
  clear og0
  have bb4 := below_chg bb3 c4 bb3.size (fun i hi => F_g0.out i (List.mem_cons_of_mem _ hi))
  replace kw0 := kw0.chg c4 (fun i hi hm => AP_w0_g0.out i (by simp at hi; subst hi; exact List.mem_cons_self ..) (List.mem_cons_of_mem _ hm))
  replace ow0 := ow0.chg c4 (fun i hi hm => AP_w0_g0.out i (List.mem_cons_of_mem _ hi) (List.mem_cons_of_mem _ hm))
  replace kg0 := kg0.chg c4 (fun i hi hm => by simp at hi; subst hi; exact N_g0.out hm)
  have kg0_c0 := kg0.here.cell 0 _ rfl
  have kg0_c1 := kg0.here.cell 1 _ rfl
  have kg0_c2 := kg0.here.cell 2 _ rfl
  go_wp2_with fail
  clear kg0_c0 kg0_c1 kg0_c2
  refine (heldM_cal _ R0 (1) _ (by omega) (by omega) mkg0.here).mono ?_
  rintro e w5 ⟨rfl, b5⟩
  have bb5 := Below.next bb4 b5
  replace kw0 := kw0.below b5
  replace ow0 := ow0.below b5
  replace kg0 := kg0.below b5
  replace mkg0 := mkg0.below b5
  have hq5 : decide ((1 : Int) + mkM R0 < 0) = false := decide_eq_false (by omega)
  go_upto_region 15 with fail
  go_cut [9, 10] (fun s t1 wx => NewLocV 27 (fun v => OwnM v R0) w5 s wx ∧ t1 = .bool R1)
  case first =>
    go_wp2_with fail
    refine (HI.out  _  (HT0.out.below bb5) (HT1.out.below bb5)).mono ?_
    rintro e wf ⟨uf, Sf, rfl, of, lf, bf⟩
    obtain ⟨Af, cf, rfl⟩ := ownM_form of.here
    have bwf := bf
    go_wp2_with fail
    go_meet
    exact ⟨newLocV_last of lf (Nat.le_refl _) bwf, rfl⟩
  rename World => w6
  obtain ⟨⟨gh0, csh0, Sh0, rfl, kh0, oh0, nh0, lh0, b6⟩, rfl⟩ := hcut
  obtain ⟨Ah0, ch0, eh0⟩ := ownM_form oh0.here
  injection eh0 with eh0
  subst eh0
  have bb6 := Below.next bb5 b6
  replace kw0 := kw0.below b6
  replace ow0 := ow0.below b6
  replace kg0 := kg0.below b6
  replace mkg0 := mkg0.below b6
  have kh0_c0 := kh0.here.cell 0 _ rfl
  have kh0_c1 := kh0.here.cell 1 _ rfl
  have kh0_c2 := kh0.here.cell 2 _ rfl
  have kw0_c0 := kw0.here.cell 0 _ rfl
  have kw0_c1 := kw0.here.cell 1 _ rfl
  have kw0_c2 := kw0.here.cell 2 _ rfl
  go_wp2_with fail
  clear kh0_c0 kh0_c1 kh0_c2 kw0_c0 kw0_c1 kw0_c2
  refine (eqM_cal _ _ R0 R0 _ (capM_of (by omega)) (OwnM.rd oh0.here) (OwnM.rd ow0.here)).mono ?_
  rintro e w7 ⟨rfl, b7⟩
  rw [decide_refl]
  have bb7 := Below.next bb6 b7
  replace kw0 := kw0.below b7
  replace ow0 := ow0.below b7
  replace kg0 := kg0.below b7
  replace mkg0 := mkg0.below b7
  replace kh0 := kh0.below b7
  replace oh0 := oh0.below b7
  have kg0_c0 := kg0.here.cell 0 _ rfl
  have kg0_c1 := kg0.here.cell 1 _ rfl
  have kg0_c2 := kg0.here.cell 2 _ rfl
  go_wp2_with fail
  clear kg0_c0 kg0_c1 kg0_c2
  refine (heldM_cal _ R0 (1) _ (by omega) (by omega) mkg0.here).mono ?_
  rintro e w8 ⟨rfl, b8⟩
  have bb8 := Below.next bb7 b8
  replace kw0 := kw0.below b8
  replace ow0 := ow0.below b8
  replace kg0 := kg0.below b8
  replace mkg0 := mkg0.below b8
  replace kh0 := kh0.below b8
  replace oh0 := oh0.below b8
  have hq8 : decide ((1 : Int) + mkM R0 < 0) = false := decide_eq_false (by omega)
  go_wp2
  go_ret
  exact ⟨rfl, bb8⟩
end Go.Proofs.YtcenmdiblbooeaaGreatDoor

namespace Go.Proofs.YtcenmdiblbooeaaGreatDoor
open Go.RowKit

/-- the four cells of a row, where the table lies -/
def RowCells (W : World) (g k : Nat) (r : CR) : Prop := W.cell? ⟨g, k * 4, none⟩ = some (.string r.1) ∧ W.cell? ⟨g, k * 4 + 1, none⟩ = some (.string r.2.1) ∧ W.cell? ⟨g, k * 4 + 2, none⟩ = some (.int .i64 r.2.2.1) ∧ W.cell? ⟨g, k * 4 + 3, none⟩ = some (.int .i64 r.2.2.2)
theorem rowCells_of {W : World} {g : Nat} {l : List CR} (h : W.rangeAt g 0 (cellsT l)) {k : Nat} (hk : k < l.length) : RowCells W g k l[k] := by
  have f : ∀ j (hj : j < 4) v, (cellsC l[k])[j]? = some v → W.cell? ⟨g, k * 4 + j, none⟩ = some v := fun j hj v hv => by
    have := h (k * 4 + j) v (by rw [cellsT_get l k j hk hj]; exact hv)
    rwa [Nat.zero_add] at this
  exact ⟨f 0 (by decide) _ rfl, f 1 (by decide) _ rfl, f 2 (by decide) _ rfl, f 3 (by decide) _ rfl⟩
theorem range_new (w : World) (l : List Value) (T : TypeId) : (w.alloc (.cells l.toArray T)).rangeAt w.heap.size 0 l := by
  intro j v hv
  have hb : (w.alloc (.cells l.toArray T)).heap[w.heap.size]? = some (.cells l.toArray T (0, 0)) := Array.getElem?_push_size
  rw [Nat.zero_add]
  unfold World.cell?
  simp only [hb]
  simpa using hv
theorem range_below {w W : World} {g : Nat} {l : List Value} (h : w.rangeAt g 0 l) (hg : g < w.heap.size) (hb : Below w.heap.size w W) : W.rangeAt g 0 l := fun j v hv => (hb.cell hg).trans (h j v hv)
def TabPost (w : World) (e : Ending) (w' : World) : Prop := e = .returned (.slice (some ⟨w.heap.size, 0, none⟩) 20 20) ∧ w' = w.alloc (.cells (cellsT specT).toArray 99)
set_option maxHeartbeats 1000000 in
set_option maxRecDepth 100000 in
theorem l08Table_any (w : World) : Calls Tryz.prog 64 #[] w (TabPost w) := by
  go_enter Tryz.func64, Tryz.ntmps64
  go_wp2
  go_ret
  exact ⟨rfl, rfl⟩
end Go.Proofs.YtcenmdiblbooeaaGreatDoor

namespace Go.Proofs.YtcenmdiblbooeaaGreatDoor
open Go.RowKit

def RowPost (r : CR) (w : World) (e : Ending) (w' : World) : Prop := e = .returned (.agg #[.string r.1, .string r.2.1, .int .i64 r.2.2.1, .int .i64 r.2.2.2]) ∧ Below w.heap.size w w'
theorem below_set4 {W0 W : World} {g : Nat} {a b c d : Value} (h : Below W0.heap.size W0 W) (hg : W0.heap.size ≤ g) : Below W0.heap.size W0 ((((W.setCell ⟨g, 0, none⟩ a).setCell ⟨g, 1, none⟩ b).setCell ⟨g, 2, none⟩ c).setCell ⟨g, 3, none⟩ d) :=
  (((h.setCell (p := ⟨g, 0, none⟩) hg _).setCell (p := ⟨g, 1, none⟩) hg _).setCell (p := ⟨g, 2, none⟩) hg _).setCell (p := ⟨g, 3, none⟩) hg _
set_option maxHeartbeats 1000000 in
set_option maxRecDepth 100000 in
theorem l08Find_any (n : ByteArray) (w : World) : Calls Tryz.prog 126 #[.string n] w (RowPost (rowOf specT n) w) := by
  have kr := box_new w #[.string ⟨#[]⟩, .string ⟨#[]⟩, .int .i64 0, .int .i64 0] 99
  have b0 := below_al (Below.refl w.heap.size w) (.cells #[.string ⟨#[]⟩, .string ⟨#[]⟩, .int .i64 0, .int .i64 0] 99)
  obtain ⟨W0, hW0⟩ : ∃ W0, W0 = w.alloc (.cells #[.string ⟨#[]⟩, .string ⟨#[]⟩, .int .i64 0, .int .i64 0] 99) := ⟨_, rfl⟩
  rw [← hW0] at kr b0
  have HW := Lib.hid hW0
  clear hW0
  go_enter Tryz.func126, Tryz.ntmps126
  go_wp2_with fail
  rw [← HW.out]
  refine (l08Table_any _).mono ?_
  rintro e w1 ⟨rfl, hw1⟩
  have b1 : Below W0.heap.size W0 w1 := by rw [hw1]; exact (Below.refl _ _).alloc (Nat.le_refl _) _
  have hr1 : w1.rangeAt W0.heap.size 0 (cellsT specT) := by rw [hw1]; exact range_new _ _ _
  have hg1 : W0.heap.size < w1.heap.size := by rw [hw1]; simp
  have HR := Lib.hid (show ∀ W, Below w1.heap.size w1 W → ∀ k (hk : k < 20), RowCells W W0.heap.size k (specT[k]'hk) from fun W hb k hk => rowCells_of (range_below hr1 hg1 hb) hk)
  have HK := Lib.hid (kr.below b1)
  have B1 := Lib.hid (Below.next b0 b1)
  generalize W0.heap.size = g at HR hg1
  clear hw1 hr1 b1 kr b0 HW
  go_wp2
  go_loopw [7] (fun i wr => ∃ k : Nat, k ≤ 20 ∧ i = .int .i64 k ∧ Hid (∀ r ∈ specT.take k, ¬ r.1 = n) ∧ Below w1.heap.size w1 wr) (fun i _ => 20 - (intOf i).toNat)
  case atStart => exact ⟨0, Nat.zero_le _, rfl, Lib.hid (fun r hr => absurd hr (by simp)), Below.refl _ _⟩
  case round =>
    obtain ⟨k, hk, rfl, hp, hb⟩ := hrel
    by_cases hlt : k < 20
    · have hix := HR.out wr hb k hlt
      have HM := Lib.hid (show specT[k] ∈ specT from List.getElem_mem _)
      have HN := Lib.hid (fun h => take_next hp.out (show k < specT.length from hlt) h)
      generalize specT[k] = r at hix HM HN
      obtain ⟨c, m, p, q⟩ := r
      obtain ⟨x0, x1, x2, x3⟩ := hix
      dsimp only at x0 x1 x2 x3
      have hal := below_al (Below.refl wr.heap.size wr) (.cells #[.string c, .string m, .int .i64 p, .int .i64 q] 99)
      by_cases he : c = n
      · subst he
        have hA := Lib.hid (rowOf_mem specT_codes HM.out)
        have ko := (HK.out.below hb).below hal
        have HB := Lib.hid (Below.next (Below.next B1.out hb) hal)
        have co0 := ko.here.cell 0 _ rfl
        have co1 := ko.here.cell 1 _ rfl
        have co2 := ko.here.cell 2 _ rfl
        have co3 := ko.here.cell 3 _ rfl
        have fo0 := Lib.frozen_of_heap ko.here 0
        have fo1 := Lib.frozen_of_heap ko.here 1
        have fo2 := Lib.frozen_of_heap ko.here 2
        have fo3 := Lib.frozen_of_heap ko.here 3
        clear HM HN hp ko hal
        go_wp2
        refine bodyPost_ret (v := .agg #[.string c, .string m, .int .i64 p, .int .i64 q]) (by simp [results, Tryz.results126, go_sem, co0, co1, co2, co3]) rfl ?_
        unfold RowPost
        rw [hA.out]
        exact ⟨rfl, below_set4 HB.out (Nat.le_refl _)⟩
      · have HN2 := Lib.hid (HN.out he)
        clear HM HN hp hal
        have hne := bytes_neC he
        go_wp2
        exact ⟨⟨k + 1, by omega, by go_num, HN2, hb.alloc (by have := hb.size; omega) _⟩, by simp [intOf]; omega⟩
    · obtain rfl : k = 20 := by omega
      have hA := Lib.hid (rowOf_none (l := specT) (n := n) (by rw [← List.take_of_length_le (l := specT) (i := 20) (by decide)]; exact hp.out))
      have ko := HK.out.below hb
      have HB := Lib.hid (Below.next B1.out hb)
      have co0 := ko.here.cell 0 _ rfl
      have co1 := ko.here.cell 1 _ rfl
      have co2 := ko.here.cell 2 _ rfl
      have co3 := ko.here.cell 3 _ rfl
      have fo0 := Lib.frozen_of_heap ko.here 0
      have fo1 := Lib.frozen_of_heap ko.here 1
      have fo2 := Lib.frozen_of_heap ko.here 2
      have fo3 := Lib.frozen_of_heap ko.here 3
      clear hp ko
      go_wp2
      refine bodyPost_ret (v := .agg #[.string ⟨#[]⟩, .string ⟨#[]⟩, .int .i64 0, .int .i64 0]) (by simp [results, Tryz.results126, go_sem, co0, co1, co2, co3]) rfl ?_
      unfold RowPost
      rw [hA.out]
      first | exact ⟨rfl, HB.out⟩ | exact ⟨rfl, below_set4 HB.out (Nat.le_refl _)⟩
theorem field_row0 (c m : ByteArray) (p q : Int) (W : World) : (Instr.field 99 (.agg #[.string c, .string m, .int .i64 p, .int .i64 q]) 0).run Tryz.prog W = .ok (.string c) W := by kernel_rfl
theorem field_row1 (c m : ByteArray) (p q : Int) (W : World) : (Instr.field 99 (.agg #[.string c, .string m, .int .i64 p, .int .i64 q]) 1).run Tryz.prog W = .ok (.string m) W := by kernel_rfl
theorem field_row2 (c m : ByteArray) (p q : Int) (W : World) : (Instr.field 99 (.agg #[.string c, .string m, .int .i64 p, .int .i64 q]) 2).run Tryz.prog W = .ok (.int .i64 p) W := by kernel_rfl
theorem field_row3 (c m : ByteArray) (p q : Int) (W : World) : (Instr.field 99 (.agg #[.string c, .string m, .int .i64 p, .int .i64 q]) 3).run Tryz.prog W = .ok (.int .i64 q) W := by kernel_rfl
theorem empty_list : (⟨#[]⟩ : ByteArray).toList = [] := by rw [ByteArray.toList_eq]
theorem known_neq (n : ByteArray) : ((rowOf specT n).1.toList == ([] : List UInt8)) = !knownC n := by
  rw [← known_ne n]
  by_cases h : (rowOf specT n).1 = ⟨#[]⟩
  · rw [h, empty_list]; rfl
  · have h2 := bytes_neC h
    rw [empty_list] at h2
    rw [h2, decide_eq_true h]
    rfl
set_option maxHeartbeats 400000 in
set_option maxRecDepth 100000 in
theorem specCurKnown_any (n : ByteArray) (w : World) : Calls Tryz.prog 124 #[.string n] w (Postb (knownC n) w) := by
  go_enter Tryz.func124, Tryz.ntmps124
  go_wp2_with fail
  refine (l08Find_any n _).mono ?_
  rintro e w1 ⟨rfl, b1⟩
  have hk := known_neq n
  generalize rowOf specT n = r at *
  obtain ⟨c, m, p, q⟩ := r
  dsimp only at hk ⊢
  have hk2 : (c.toList != ([] : List UInt8)) = knownC n := by rw [bne, hk, Bool.not_not]
  generalize knownC n = b at *
  have hf := field_row0 c m p q
  go_wp2
  go_ret
  exact ⟨rfl, b1⟩
set_option maxHeartbeats 400000 in
set_option maxRecDepth 100000 in
theorem specCurPlaces_any (n : ByteArray) (w : World) : Calls Tryz.prog 90 #[.string n] w fun e w' => e = .returned (.int .i64 (placesC n)) ∧ Below w.heap.size w w' := by
  go_enter Tryz.func90, Tryz.ntmps90
  go_wp2_with fail
  refine (l08Find_any n _).mono ?_
  rintro e w1 ⟨rfl, b1⟩
  have hf := field_row2 (rowOf specT n).1 (rowOf specT n).2.1 (rowOf specT n).2.2.1 (rowOf specT n).2.2.2
  go_wp2
  go_ret
  exact ⟨rfl, b1⟩
end Go.Proofs.YtcenmdiblbooeaaGreatDoor

namespace Go.Proofs.YtcenmdiblbooeaaGreatDoor
open Go.RowKit

theorem drew_three (w : World) (a b c : Nat) : ∃ q, w.drewN q = ((w.drewN a).drewN b).drewN c := ⟨a + b + c, by rw [World.drewN_drewN, World.drewN_drewN, Nat.add_assoc]⟩
/-- between two bounds -/
def inB (n lo hi : Int) : Bool := decide (lo ≤ n ∧ n ≤ hi)
set_option maxHeartbeats 400000 in
set_option maxRecDepth 100000 in
theorem specIn_any (n lo hi : Int) (b : Bool) (w : World) (hb : inB n lo hi = b) :
    Calls Tryz.prog 159 #[.int .i64 n, .int .i64 lo, .int .i64 hi] w fun e w' => e = .returned (.bool b) ∧ w = w' := by
  subst hb
  go_enter Tryz.func159, Tryz.ntmps159
  go_wp2
  all_goals go_ret
  · exact ⟨by simp [inB, *], rfl⟩
  · exact ⟨by simp [inB]; omega, rfl⟩

theorem all_upto (xs : List Int) (k : Nat) (h : (xs.take k).all digB = true) (hk : ¬ k < xs.length) : xs.all digB = true := by
  rwa [List.take_of_length_le (by omega)] at h
theorem all_succ (xs : List Int) (k : Nat) (hk : k < xs.length) (h : (xs.take k).all digB = true) (hd : digB xs[k] = true) : (xs.take (k + 1)).all digB = true := by
  rw [List.take_succ_eq_append_getElem hk, List.all_append, h]
  simp [hd]
theorem not_all (xs : List Int) (k : Nat) (hk : k < xs.length) (hd : digB xs[k] = false) : natOkB xs = false := by
  have : xs.all digB = false := by
    rw [List.all_eq_false]
    exact ⟨xs[k], List.getElem_mem hk, by simp [hd]⟩
  unfold natOkB
  rw [this]
  rfl
theorem ok_nil : natOkB [] = true := rfl
theorem ok_long (xs : List Int) (h : ¬ xs.length ≤ 50) : natOkB xs = false := by
  unfold natOkB
  rw [decide_eq_false h, Bool.false_and, Bool.and_false]
theorem last_at (xs : List Int) (h : xs.length - 1 < xs.length) : xs.getLastD 1 = xs[xs.length - 1] := by
  rw [List.getLastD_eq_getLast?, List.getLast?_eq_getElem?, List.getElem?_eq_getElem h]
  rfl
theorem ok_last (xs : List Int) (ha : xs.all digB = true) (hl : xs.length ≤ 50) (h : xs.length - 1 < xs.length) : (xs[xs.length - 1] != 0) = natOkB xs := by
  unfold natOkB
  rw [ha, decide_eq_true hl, Bool.true_and, Bool.true_and, last_at xs h]
  by_cases e : xs[xs.length - 1] = 0
  · rw [e]; rfl
  · rw [decide_eq_true e, bne_iff_ne]; exact e

set_option maxHeartbeats 400000 in
set_option maxRecDepth 100000 in
theorem specNatOk_any (v : Value) (xs : List Int) (lo hi : Nat) (w : World) (hl : xs.length ≤ 1048576) (hr : Row w lo hi v (intsV xs)) :
    Calls Tryz.prog 160 #[v] w fun e w' => e = .returned (.bool (natOkB xs)) ∧ w = w' := by
  obtain ⟨A, c, rfl, hA⟩ := hr
  have HA := Lib.hid hA
  rw [intsV_length]
  clear hA
  go_enter Tryz.func160, Tryz.ntmps160
  go_wp2
  go_loop [7] (fun i => ∃ k : Nat, k ≤ xs.length ∧ i = .int .i64 k ∧ Hid ((xs.take k).all digB = true)) (fun i => xs.length - (intOf i).toNat)
  case atStart => exact ⟨0, Nat.zero_le _, rfl, Lib.hid rfl⟩
  case round =>
    obtain ⟨k, hk, rfl, HD⟩ := hrel
    by_cases hlt : k < xs.length
    · obtain ⟨a, rfl, _, _, hca⟩ := HA.out k _ (intsV_at xs k hlt)
      by_cases hd : digB xs[k] = true
      · have HS := Lib.hid (all_succ xs k hlt HD.out hd)
        go_wp2_with (go_at_call 159; refine (specIn_any _ _ _ true _ hd).mono ?_; rintro e w' ⟨rfl, rfl⟩)
        go_round
        case rel => exact ⟨k + 1, by omega, by go_num, HS⟩
        case measure => simp [intOf]; omega
      · have hd' : digB xs[k] = false := by simpa using hd
        have HN := Lib.hid (not_all xs k hlt hd')
        go_wp2_with (go_at_call 159; refine (specIn_any _ _ _ false _ hd').mono ?_; rintro e w' ⟨rfl, rfl⟩)
        go_ret
        exact ⟨ret_bool HN.out.symm, rfl⟩
    · have HF := Lib.hid (all_upto xs k HD.out hlt)
      by_cases h50 : xs.length ≤ 50
      · by_cases h0 : xs.length = 0
        · have hz : ((xs.length : Int) == 0) = true := by simp [h0]
          obtain rfl : xs = [] := List.eq_nil_of_length_eq_zero h0
          clear h0
          go_wp2
          go_ret
          exact ⟨rfl, rfl⟩
        · have hz : ((xs.length : Int) == 0) = false := by rw [beq_eq_false_iff_ne]; omega
          have hlt2 : xs.length - 1 < xs.length := by omega
          obtain ⟨a, rfl, _, _, hca⟩ := HA.out (xs.length - 1) _ (intsV_at xs (xs.length - 1) hlt2)
          have HL := Lib.hid (ok_last xs HF.out h50 hlt2)
          clear h0
          go_wp2
          go_ret
          exact ⟨ret_bool HL.out, rfl⟩
      · have HN := Lib.hid (ok_long xs h50)
        go_wp2
        go_ret
        exact ⟨ret_bool HN.out.symm, rfl⟩

theorem cmp_lt {x y : Int} (h : x < y) : cmpI x y = -1 := by unfold cmpI; rw [if_pos h]
theorem cmp_gt {x y : Int} (h : y < x) : cmpI x y = 1 := by unfold cmpI; rw [if_neg (by omega), if_pos h]
theorem cmp_eq {x y : Int} (h : x = y) : cmpI x y = 0 := by unfold cmpI; rw [if_neg (by omega), if_neg (by omega)]
theorem drop_same (a b : List Int) (k : Nat) (ha : k < a.length) (hb : k < b.length) (h : a.drop (k + 1) = b.drop (k + 1)) (e : a[k] = b[k]) : a.drop k = b.drop k := by
  rw [List.drop_eq_getElem_cons ha, List.drop_eq_getElem_cons hb, h, e]

set_option maxHeartbeats 1000000 in
set_option maxRecDepth 100000 in
theorem specCmp_any (va vb : Value) (a b : List Int) (la ha lb hb : Nat) (w : World) (hal : a.length ≤ 1048576) (_hbl : b.length ≤ 1048576) (oa : DigN a ∧ a.getLastD 1 ≠ 0) (ob : DigN b ∧ b.getLastD 1 ≠ 0)
    (hra : Row w la ha va (intsV a)) (hrb : Row w lb hb vb (intsV b)) :
    Calls Tryz.prog 162 #[va, vb] w fun e w' => e = .returned (.int .i64 (cmpI (nval a) (nval b))) ∧ ∃ q, w.drewN q = w' := by
  obtain ⟨A, c, rfl, hA⟩ := hra
  obtain ⟨B, d, rfl, hB⟩ := hrb
  rw [intsV_length, intsV_length]
  have HA := Lib.hid hA
  have HB := Lib.hid hB
  have OA := Lib.hid oa
  have OB := Lib.hid ob
  clear hA hB oa ob
  by_cases hlen : a.length = b.length
  · have HL := Lib.hid hlen
    have hbe : ((a.length : Int) != (b.length : Int)) = false := by simp [hlen]
    clear hlen
    go_enter Tryz.func162, Tryz.ntmps162
    go_wp2
    go_loopw [5] (fun i wr => ∃ k q : Nat, k ≤ a.length ∧ i = .int .i64 ((k : Int) - 1) ∧ wr = w.drewN q ∧ Hid (a.drop k = b.drop k)) (fun i _ => (intOf i + 1).toNat)
    case atStart => exact ⟨a.length, 0, Nat.le_refl _, rfl, rfl, Lib.hid (by rw [List.drop_of_length_le (Nat.le_refl _), List.drop_of_length_le (by have := HL.out; omega)])⟩
    case round =>
      obtain ⟨k, q, hk, rfl, rfl, HT⟩ := hrel
      by_cases hz : 0 < k
      · obtain ⟨m, rfl⟩ : ∃ m, k = m + 1 := ⟨k - 1, by omega⟩
        have hlt : m < a.length := by omega
        have hlt2 : m < b.length := by have := HL.out; omega
        obtain ⟨p, rfl, _, _, hca⟩ := HA.out m _ (intsV_at a m hlt)
        obtain ⟨r, rfl, _, _, hcb⟩ := HB.out m _ (intsV_at b m hlt2)
        have hm1 : ((m + 1 : Nat) : Int) - 1 = (m : Int) := by omega
        rw [hm1]
        clear hm1 hz
        by_cases h1 : a[m] < b[m]
        · have HV := Lib.hid (nval_lt_down a b OA.out.1 OB.out.1 HL.out m (by rw [nval_drop a m hlt, nval_drop b m hlt2, HT.out]; omega))
          go_wp2
          go_quiet (fail)
          go_wp2
          go_ret
          exact ⟨ret_int (cmp_lt HV.out).symm, _, (World.drewN_drewN _ _ _).symm⟩
        · by_cases h2 : b[m] < a[m]
          · have HV := Lib.hid (nval_lt_down b a OB.out.1 OA.out.1 HL.out.symm m (by rw [nval_drop a m hlt, nval_drop b m hlt2, HT.out]; omega))
            go_wp2
            go_quiet (fail)
            go_wp2
            go_quiet (fail)
            go_wp2
            go_ret
            exact ⟨ret_int (cmp_gt HV.out).symm, drew_three _ _ _ _⟩
          · have HS := Lib.hid (drop_same a b m hlt hlt2 HT.out (by omega))
            go_wp2
            go_quiet (fail)
            go_wp2
            go_quiet (fail)
            go_wp2
            go_roundw
            case rel => exact ⟨m, _, by omega, rfl, rfl, HS⟩
            case measure => simp [intOf]
      · obtain rfl : k = 0 := by omega
        go_wp2
        go_ret
        exact ⟨ret_int (cmp_eq (by have := HT.out; rw [List.drop_zero, List.drop_zero] at this; rw [this])).symm, q, rfl⟩
  · have hbe : ((a.length : Int) != (b.length : Int)) = true := by simp; omega
    by_cases hs : a.length < b.length
    · have HV := Lib.hid (nval_short a b OA.out.1 OB.out.1 hs OB.out.2)
      go_enter Tryz.func162, Tryz.ntmps162
      go_wp2
      go_ret
      exact ⟨ret_int (cmp_lt HV.out).symm, 0, rfl⟩
    · have HV := Lib.hid (nval_short b a OB.out.1 OA.out.1 (by omega) OA.out.2)
      go_enter Tryz.func162, Tryz.ntmps162
      go_wp2
      go_ret
      exact ⟨ret_int (cmp_gt HV.out).symm, 0, rfl⟩

theorem ok_dig {xs : List Int} (h : natOkB xs = true) : DigN xs ∧ xs.getLastD 1 ≠ 0 := ⟨(natOk_parts h).1, (natOk_parts h).2.2⟩
/-- what NatCmp answers -/
def cmpN (a b : List Int) : Int := if natOkB a = true ∧ natOkB b = true then cmpI (nval a) (nval b) else 0


/-- the first k of a row that the call owns -/
theorem own_take {w : World} {base n : Nat} {e : TypeId} {A : Option Addr} {c : Nat} {xs : List Value} (k : Nat) (hk : k ≤ n) (h : w.ownsRow base e 1 (.slice A n c) n xs) : w.ownsRow base e 1 (.slice A k c) k (xs.take k) := by
  obtain ⟨hl, ⟨h1, h2⟩ | ⟨g, cap, cur, e1, hb, hh, hn, hc, hs, ht⟩⟩ := h
  · cases h1
    obtain rfl : k = 0 := by omega
    exact ⟨by simp, .inl ⟨rfl, rfl⟩⟩
  · obtain ⟨rfl, rfl⟩ : A = some ⟨g, 0, none⟩ ∧ cap = c := by cases e1; exact ⟨rfl, rfl⟩
    refine ⟨by rw [List.length_take]; omega, .inr ⟨g, cap, cur, rfl, hb, hh, by omega, hc, hs, ?_⟩⟩
    rw [← ht, List.take_take]
    congr 1
    omega
theorem intsV_take (xs : List Int) (k : Nat) : (intsV xs).take k = intsV (xs.take k) := by simp [intsV, List.map_take]

/-- the first elements of an own row of ints, handed back -/
def OwnPost (base : Nat) (ys : List Int) (w : World) (e : Ending) (w' : World) : Prop :=
  w = w' ∧ ∃ v, e = .returned v ∧ w.ownsRow base 3 1 v ys.length (intsV ys)

/-- the first elements of an own row of ints, told by its address -/
def TrimPost (A : Option Addr) (c base : Nat) (ys : List Int) (w : World) (e : Ending) (w' : World) : Prop :=
  w = w' ∧ e = .returned (.slice A ys.length c) ∧ w.ownsRow base 3 1 (.slice A ys.length c) ys.length (intsV ys)
set_option maxHeartbeats 400000 in
set_option maxRecDepth 100000 in
theorem specTrim_at (A : Option Addr) (c : Nat) (xs : List Int) (base : Nat) (w : World) (hl : xs.length ≤ 1048576) (ho : w.ownsRow base 3 1 (.slice A xs.length c) xs.length (intsV xs)) :
    Calls Tryz.prog 101 #[.slice A xs.length c] w (TrimPost A c base (trimL xs) w) := by
  have hA : ∀ j u, (intsV xs)[j]? = some u → ∃ a : Addr, A = some a ∧ base ≤ a.block ∧ a.block < w.heap.size ∧ w.cell? (a.add j) = some u := by
    obtain ⟨A', c', e1, hA⟩ := Row.of_own ho
    injection e1 with e1 e2 e3
    subst e1
    exact hA
  have HA := Lib.hid hA
  have HO := Lib.hid ho
  have hcap : xs.length ≤ c := by
    rcases ho.2 with ⟨h1, h2⟩ | ⟨g, cap, cur, e1, _, _, hn, _⟩
    · omega
    · injection e1 with _ _ e3; omega
  clear hA ho
  go_enter Tryz.func101, Tryz.ntmps101
  go_wp2
  go_loop [3] (fun n => ∃ k : Nat, k ≤ xs.length ∧ n = .int .i64 k ∧ Hid (∀ j (h : j < xs.length), k ≤ j → xs[j] = 0)) (fun n => (intOf n).toNat)
  case atStart => exact ⟨xs.length, Nat.le_refl _, rfl, Lib.hid (fun j h hj => absurd h (by omega))⟩
  case round =>
    obtain ⟨k, hk, rfl, HZ⟩ := hrel
    by_cases h0 : 0 < k
    · obtain ⟨m, rfl⟩ : ∃ m, k = m + 1 := ⟨k - 1, by omega⟩
      have hlt : m < xs.length := by omega
      obtain ⟨a, rfl, _, _, hca⟩ := HA.out m _ (intsV_at xs m hlt)
      by_cases hz : xs[m] = 0
      · have hzb : (xs[m] == 0) = true := by rw [beq_iff_eq]; exact hz
        have HN : Hid (∀ j (h : j < xs.length), m ≤ j → xs[j] = 0) := Lib.hid (fun j h hj => by
          by_cases e : j = m
          · subst e; exact hz
          · exact HZ.out j h (by omega))
        clear hz
        go_wp2
        go_round
        case rel => exact ⟨m, by omega, rfl, HN⟩
        case measure => simp [intOf]
      · have hzb : (xs[m] == 0) = false := by rw [beq_eq_false_iff_ne]; exact hz
        have HT := Lib.hid (trim_prefix xs (m + 1) hk HZ.out (fun _ _ => hz))
        clear hz
        go_wp2
        go_ret
        refine ⟨rfl, ?_⟩
        rw [HT.out, ← intsV_take, List.length_take, show min (m + 1) xs.length = m + 1 from by omega]
        exact ⟨rfl, own_take (m + 1) hk HO.out⟩
    · obtain rfl : k = 0 := by omega
      have HT := Lib.hid (trim_prefix xs 0 hk HZ.out (fun _ h => absurd h (by omega)))
      go_wp2
      go_ret
      refine ⟨rfl, ?_⟩
      rw [HT.out, ← intsV_take, List.length_take, Nat.zero_min]
      exact ⟨rfl, own_take 0 hk HO.out⟩
theorem specTrim_any (v : Value) (xs : List Int) (base : Nat) (w : World) (hl : xs.length ≤ 1048576) (ho : w.ownsRow base 3 1 v xs.length (intsV xs)) :
    Calls Tryz.prog 101 #[v] w (OwnPost base (trimL xs) w) := by
  obtain ⟨A, c, rfl⟩ := own_len ho
  refine (specTrim_at A c xs base w hl ho).mono ?_
  rintro e w' ⟨rfl, rfl, h⟩
  exact ⟨rfl, _, rfl, h⟩

theorem trimL_length (xs : List Int) : (trimL xs).length ≤ xs.length := by
  induction xs with
  | nil => exact Nat.le_refl _
  | cons d r ih =>
    unfold trimL
    split
    · simp
    · simp; omega
set_option maxHeartbeats 400000 in
set_option maxRecDepth 100000 in
theorem specCap_any (v : Value) (xs : List Int) (base : Nat) (w : World) (hl : xs.length ≤ 1048576) (ho : w.ownsRow base 3 1 v xs.length (intsV xs)) :
    Calls Tryz.prog 99 #[v] w (OwnPost base (capL (trimL xs)) w) := by
  have hlt := trimL_length xs
  by_cases h50 : 50 < (trimL xs).length
  · have HC := Lib.hid (show capL (trimL xs) = [] by unfold capL; rw [if_pos h50])
    go_enter Tryz.func99, Tryz.ntmps99
    go_wp2_with fail
    refine (specTrim_any v xs base _ hl ho).mono ?_
    rintro e w' ⟨rfl, v', rfl, ho'⟩
    obtain ⟨A, c, rfl⟩ := own_len ho'
    go_wp2
    go_ret
    exact ⟨rfl, _, rfl, by rw [HC.out]; exact ⟨rfl, .inl ⟨rfl, rfl⟩⟩⟩
  · have HC := Lib.hid (show capL (trimL xs) = trimL xs by unfold capL; rw [if_neg h50])
    go_enter Tryz.func99, Tryz.ntmps99
    go_wp2_with fail
    refine (specTrim_any v xs base _ hl ho).mono ?_
    rintro e w' ⟨rfl, v', rfl, ho'⟩
    obtain ⟨A, c, rfl⟩ := own_len ho'
    go_wp2
    go_ret
    exact ⟨rfl, _, rfl, by rw [HC.out]; exact ho'⟩

/-! ### l02Add -/
theorem addL_both (a b : List Int) (i : Nat) (c : Int) (h1 : i < a.length) (h2 : i < b.length) : addL (a.drop i) (b.drop i) c = (c + a[i] + b[i]) % 1000000000 :: addL (a.drop (i + 1)) (b.drop (i + 1)) ((c + a[i] + b[i]) / 1000000000) := by
  rw [List.drop_eq_getElem_cons h1, List.drop_eq_getElem_cons h2, addL]
theorem addL_left (a b : List Int) (i : Nat) (c : Int) (h1 : i < a.length) (h2 : ¬ i < b.length) : addL (a.drop i) (b.drop i) c = (c + a[i]) % 1000000000 :: addL (a.drop (i + 1)) (b.drop (i + 1)) ((c + a[i]) / 1000000000) := by
  rw [List.drop_eq_getElem_cons h1, List.drop_of_length_le (l := b) (by omega), List.drop_of_length_le (l := b) (by omega), addL]
theorem addL_right (a b : List Int) (i : Nat) (c : Int) (h1 : ¬ i < a.length) (h2 : i < b.length) : addL (a.drop i) (b.drop i) c = (c + b[i]) % 1000000000 :: addL (a.drop (i + 1)) (b.drop (i + 1)) ((c + b[i]) / 1000000000) := by
  rw [List.drop_eq_getElem_cons h2, List.drop_of_length_le (l := a) (by omega), List.drop_of_length_le (l := a) (by omega), addL]
theorem addL_end (a b : List Int) (i : Nat) (c : Int) (h1 : ¬ i < a.length) (h2 : ¬ i < b.length) : addL (a.drop i) (b.drop i) c = if 0 < c then [c] else [] := by
  rw [List.drop_of_length_le (by omega), List.drop_of_length_le (by omega), addL]

/-- what the loop of l02Add knows at its head -/
def AddRel (a b : List Int) (w : World) (v c i : Value) (wr : World) : Prop :=
  ∃ (k : Nat) (cr : Int) (out : List Int), k ≤ a.length + b.length + 1 ∧ i = .int .i64 k ∧ c = .int .i64 cr ∧ 0 ≤ cr ∧ cr ≤ 1 ∧ out.length = k ∧ out ++ addL (a.drop k) (b.drop k) cr = addL a b 0 ∧
    wr.ownsRow w.heap.size 3 1 v out.length (intsV out) ∧ Below w.heap.size w wr
theorem add_step {a b out : List Int} {w w1 : World} {v1 : Value} {k : Nat} {n : Int} (hk : k + 1 ≤ a.length + b.length + 1) (h0 : 0 ≤ n / 1000000000) (h1 : n / 1000000000 ≤ 1) (hl : out.length = k) (e : out ++ n % 1000000000 :: addL (a.drop (k + 1)) (b.drop (k + 1)) (n / 1000000000) = addL a b 0)
    (ho : w1.ownsRow w.heap.size 3 1 v1 (out.length + 1) (intsV out ++ [.int .i64 (n % 1000000000)])) (hb : Below w.heap.size w w1) : AddRel a b w v1 (.int .i64 (n / 1000000000)) (.int .i64 ((k : Int) + 1)) w1 := by
  refine ⟨k + 1, n / 1000000000, out ++ [n % 1000000000], hk, by go_num, rfl, h0, h1, by simp [hl], by rw [List.append_assoc]; exact e, ?_, hb⟩
  simpa [intsV] using ho

set_option maxHeartbeats 2000000 in
set_option maxRecDepth 100000 in
theorem specAdd_any (va vb : Value) (a b : List Int) (la ha lb hb : Nat) (w : World) (hal : a.length ≤ 524288) (hbl : b.length ≤ 524288) (hha : ha ≤ w.heap.size) (hhb : hb ≤ w.heap.size) (oa : DigN a) (ob : DigN b)
    (hra : Row w la ha va (intsV a)) (hrb : Row w lb hb vb (intsV b)) :
    Calls Tryz.prog 166 #[va, vb] w (NewInts (addL a b 0) w) := by
  obtain ⟨i0, hi, hz0, hz1, hz2⟩ := info_parts intInfo
  obtain ⟨A, c, rfl, hA⟩ := hra
  obtain ⟨B, d, rfl, hB⟩ := hrb
  rw [intsV_length, intsV_length]
  have HA := Lib.hid hA
  have HB := Lib.hid hB
  have OA := Lib.hid oa
  have OB := Lib.hid ob
  clear hA hB oa ob
  go_enter Tryz.func166, Tryz.ntmps166
  go_wp2
  go_loopw [5, 6, 7] (fun v cr i wr => AddRel a b w v cr i wr) (fun _ cr i _ => 2 * (a.length + b.length + 1 - (intOf i).toNat) + (intOf cr).toNat)
  case atStart => exact ⟨0, 0, [], Nat.zero_le _, rfl, rfl, by omega, by omega, rfl, rfl, ⟨rfl, .inr ⟨w.heap.size, 0, #[], rfl, Nat.le_refl _, heap_alloc_new w _, Nat.le_refl _, Nat.zero_le _, rfl, rfl⟩⟩, (Below.refl _ _).alloc (Nat.le_refl _) _⟩
  case round =>
    obtain ⟨k, cr, out, hk, rfl, rfl, hc0, hc1, hol, hev, hown, hb1⟩ := hrel
    have HE := Lib.hid hev
    have HOL := Lib.hid hol
    have holk : out.length ≤ a.length + b.length + 1 := by omega
    clear hev hol
    by_cases h1 : k < a.length
    · obtain ⟨p, rfl, _, hpb, hca⟩ := HA.out k _ (intsV_at a k h1)
      have hca' : wr.cell? (p.add k) = some (.int .i64 a[k]) := (hb1.cell (by rw [block_add]; omega)).trans hca
      have hda := OA.out.at_ k h1
      clear hca
      by_cases h2 : k < b.length
      · obtain ⟨r, rfl, _, hrb, hcb⟩ := HB.out k _ (intsV_at b k h2)
        have hcb' : wr.cell? (r.add k) = some (.int .i64 b[k]) := (hb1.cell (by rw [block_add]; omega)).trans hcb
        have hdb := OB.out.at_ k h2
        clear hcb
        have HS := Lib.hid (addL_both a b k cr h1 h2)
        go_wp2_with (at_builtin; refine wpList_append_own _ rfl (.tmp 47) (.tmp 50) 23 rfl w.heap.size 3 i0 (.int .i64 0) 1 8 Tryz.underlying23 hi hz0 hz1 hz2 rfl (by decide) _ _ _ rfl (own_alloc hown _) ⟨wr.heap.size, 0, none⟩ 1 1 [.int .i64 ((cr + a[k] + b[k]) % 1000000000)] rfl rfl (one_new _ _ _) ?c2 ?c3 ?c4 ?c5 ?_)
        case c2 => intro u hu; simp at hu; subst hu; rfl
        case c3 => unfold maxLen; omega
        case c4 => omega
        case c5 => have := hb1.size; simp; omega
        intro v1 w1 hown1 hg1 _
        have hb2 := below_push hb1 (Nat.le_refl _) hown hg1
        go_wp2
        exact ⟨add_step (by omega) (by omega) (by omega) HOL.out (by rw [← HS.out]; exact HE.out) hown1 hb2, by simp [intOf]; omega⟩
      · have HS := Lib.hid (addL_left a b k cr h1 h2)
        go_wp2_with (at_builtin; refine wpList_append_own _ rfl (.tmp 47) (.tmp 50) 23 rfl w.heap.size 3 i0 (.int .i64 0) 1 8 Tryz.underlying23 hi hz0 hz1 hz2 rfl (by decide) _ _ _ rfl (own_alloc hown _) ⟨wr.heap.size, 0, none⟩ 1 1 [.int .i64 ((cr + a[k]) % 1000000000)] rfl rfl (one_new _ _ _) ?c2 ?c3 ?c4 ?c5 ?_)
        case c2 => intro u hu; simp at hu; subst hu; rfl
        case c3 => unfold maxLen; omega
        case c4 => omega
        case c5 => have := hb1.size; simp; omega
        intro v1 w1 hown1 hg1 _
        have hb2 := below_push hb1 (Nat.le_refl _) hown hg1
        go_wp2
        exact ⟨add_step (by omega) (by omega) (by omega) HOL.out (by rw [← HS.out]; exact HE.out) hown1 hb2, by simp [intOf]; omega⟩
    · by_cases h2 : k < b.length
      · obtain ⟨r, rfl, _, hrb, hcb⟩ := HB.out k _ (intsV_at b k h2)
        have hcb' : wr.cell? (r.add k) = some (.int .i64 b[k]) := (hb1.cell (by rw [block_add]; omega)).trans hcb
        have hdb := OB.out.at_ k h2
        clear hcb
        have HS := Lib.hid (addL_right a b k cr h1 h2)
        go_wp2_with (at_builtin; refine wpList_append_own _ rfl (.tmp 47) (.tmp 50) 23 rfl w.heap.size 3 i0 (.int .i64 0) 1 8 Tryz.underlying23 hi hz0 hz1 hz2 rfl (by decide) _ _ _ rfl (own_alloc hown _) ⟨wr.heap.size, 0, none⟩ 1 1 [.int .i64 ((cr + b[k]) % 1000000000)] rfl rfl (one_new _ _ _) ?c2 ?c3 ?c4 ?c5 ?_)
        case c2 => intro u hu; simp at hu; subst hu; rfl
        case c3 => unfold maxLen; omega
        case c4 => omega
        case c5 => have := hb1.size; simp; omega
        intro v1 w1 hown1 hg1 _
        have hb2 := below_push hb1 (Nat.le_refl _) hown hg1
        go_wp2
        exact ⟨add_step (by omega) (by omega) (by omega) HOL.out (by rw [← HS.out]; exact HE.out) hown1 hb2, by simp [intOf]; omega⟩
      · have HS := Lib.hid (addL_end a b k cr h1 h2)
        by_cases h3 : 0 < cr
        · have hkl : k + 1 ≤ a.length + b.length + 1 := by
            have e1 := HE.out
            rw [HS.out, if_pos h3] at e1
            have e2 := congrArg List.length e1
            have e3 := (addL_val a b 0 OA.out OB.out (by omega) (by omega)).2.2
            rw [List.length_append, HOL.out] at e2
            simp at e2
            omega
          have HS2 : Hid (addL (a.drop k) (b.drop k) cr = cr % 1000000000 :: addL (a.drop (k + 1)) (b.drop (k + 1)) (cr / 1000000000)) := Lib.hid (by
            rw [HS.out, if_pos h3, addL_end a b (k + 1) _ (by omega) (by omega), if_neg (by omega), show cr % 1000000000 = cr from by omega])
          go_wp2_with (at_builtin; refine wpList_append_own _ rfl (.tmp 47) (.tmp 50) 23 rfl w.heap.size 3 i0 (.int .i64 0) 1 8 Tryz.underlying23 hi hz0 hz1 hz2 rfl (by decide) _ _ _ rfl (own_alloc hown _) ⟨wr.heap.size, 0, none⟩ 1 1 [.int .i64 ((cr) % 1000000000)] rfl rfl (one_new _ _ _) ?c2 ?c3 ?c4 ?c5 ?_)
          case c2 => intro u hu; simp at hu; subst hu; rfl
          case c3 => unfold maxLen; omega
          case c4 => omega
          case c5 => have := hb1.size; simp; omega
          intro v1 w1 hown1 hg1 _
          have hb2 := below_push hb1 (Nat.le_refl _) hown hg1
          go_wp2
          exact ⟨add_step (by omega) (by omega) (by omega) HOL.out (by rw [← HS2.out]; exact HE.out) hown1 hb2, by simp [intOf]; omega⟩
        · have HF : Hid (out = addL a b 0) := Lib.hid (by have e1 := HE.out; rwa [HS.out, if_neg h3, List.append_nil] at e1)
          go_wp2
          go_ret
          exact ⟨_, rfl, by rw [← HF.out]; exact hown, hb1⟩
end Go.Proofs.YtcenmdiblbooeaaGreatDoor

namespace Go.Proofs.YtcenmdiblbooeaaGreatDoor
open Go.RowKit

/-- what NatAdd, NatSub and NatMul answer -/
def addN (a b : List Int) : List Int := if natOkB a = true ∧ natOkB b = true then natRes (nval a + nval b) else []
def subN (a b : List Int) : List Int := if natOkB a = true ∧ natOkB b = true then natRes (nval a - nval b) else []
def mulN (a b : List Int) : List Int := if natOkB a = true ∧ natOkB b = true then natRes (nval a * nval b) else []
theorem res_of {n : Int} {xs : List Int} (h : DigN xs) (e : nval xs = n) : capL (trimL xs) = natRes n := by
  unfold natRes
  rw [trim_limbs xs h, e]
theorem nil_own {w : World} {base : Nat} {e : TypeId} : w.ownsRow base e 1 (.slice none 0 0) 0 [] := ⟨rfl, .inl ⟨rfl, rfl⟩⟩
theorem new_nil {w w' : World} (hb : Below w.heap.size w w') : NewInts [] w (.returned (.slice none 0 0)) w' := ⟨_, rfl, nil_own, hb⟩
theorem new_of {w w1 w2 : World} {xs : List Int} {v : Value} (h : NewInts xs w1 (.returned v) w2) (hb : Below w.heap.size w w1) : NewInts xs w (.returned v) w2 := by
  obtain ⟨v', e, ho, hb2⟩ := h
  cases e
  have hs := hb.size
  refine ⟨v, rfl, ?_, Below.next hb hb2⟩
  obtain ⟨hl, h | ⟨g, cap, cur, e1, hg, r⟩⟩ := ho
  · exact ⟨hl, .inl h⟩
  · exact ⟨hl, .inr ⟨g, cap, cur, e1, by omega, r⟩⟩
theorem own_lower {w : World} {base base' n : Nat} {e : TypeId} {v : Value} {xs : List Value} (h : w.ownsRow base e 1 v n xs) (hb : base' ≤ base) : w.ownsRow base' e 1 v n xs := by
  obtain ⟨hl, h | ⟨g, cap, cur, e1, hg, r⟩⟩ := h
  · exact ⟨hl, .inl h⟩
  · exact ⟨hl, .inr ⟨g, cap, cur, e1, by omega, r⟩⟩





/-! ### l02Sub -/
theorem subL_drop (a b : List Int) (i : Nat) (c : Int) (h1 : i < a.length) : subL (a.drop i) (b.drop i) c = if a[i] - c - b.getD i 0 < 0 then (a[i] - c - b.getD i 0 + 1000000000) :: subL (a.drop (i + 1)) (b.drop (i + 1)) 1 else (a[i] - c - b.getD i 0) :: subL (a.drop (i + 1)) (b.drop (i + 1)) 0 := by
  have hh : (b.drop i).headD 0 = b.getD i 0 := by
    rw [List.headD_eq_head?_getD, List.head?_drop, List.getD_eq_getElem?_getD]
  have ht : (b.drop i).tail = b.drop (i + 1) := by rw [List.tail_drop]
  rw [List.drop_eq_getElem_cons h1, subL, hh, ht]
theorem getD_in (b : List Int) (i : Nat) (h : i < b.length) : b.getD i 0 = b[i] := by
  rw [List.getD_eq_getElem?_getD, List.getElem?_eq_getElem h]
  rfl
theorem getD_out (b : List Int) (i : Nat) (h : ¬ i < b.length) : b.getD i 0 = 0 := by
  rw [List.getD_eq_getElem?_getD, List.getElem?_eq_none (by omega)]
  rfl
/-- what the loop of l02Sub knows at its head -/
def SubRel (a b : List Int) (w : World) (v c i : Value) (wr : World) : Prop :=
  ∃ (k : Nat) (cr : Int) (out : List Int), k ≤ a.length ∧ i = .int .i64 k ∧ c = .int .i64 cr ∧ 0 ≤ cr ∧ cr ≤ 1 ∧ out.length = k ∧ out ++ subL (a.drop k) (b.drop k) cr = subL a b 0 ∧
    wr.ownsRow w.heap.size 3 1 v out.length (intsV out) ∧ Below w.heap.size w wr
theorem sub_step {a b out : List Int} {w w1 : World} {v1 : Value} {k : Nat} {n c : Int} (hk : k + 1 ≤ a.length) (h0 : 0 ≤ c) (h1 : c ≤ 1) (hl : out.length = k) (e : out ++ n :: subL (a.drop (k + 1)) (b.drop (k + 1)) c = subL a b 0)
    (ho : w1.ownsRow w.heap.size 3 1 v1 (out.length + 1) (intsV out ++ [.int .i64 n])) (hb : Below w.heap.size w w1) : SubRel a b w v1 (.int .i64 c) (.int .i64 ((k : Int) + 1)) w1 := by
  refine ⟨k + 1, c, out ++ [n], hk, by go_num, rfl, h0, h1, by simp [hl], by rw [List.append_assoc]; exact e, ?_, hb⟩
  simpa [intsV] using ho

set_option maxHeartbeats 2000000 in
set_option maxRecDepth 100000 in
theorem specSub_any (va vb : Value) (a b : List Int) (la ha lb hb : Nat) (w : World) (hal : a.length ≤ 1048576) (hbl : b.length ≤ 1048576) (hha : ha ≤ w.heap.size) (hhb : hb ≤ w.heap.size) (oa : DigN a) (ob : DigN b)
    (hra : Row w la ha va (intsV a)) (hrb : Row w lb hb vb (intsV b)) (hsl : (subL a b 0).length = a.length) :
    Calls Tryz.prog 194 #[va, vb] w (NewInts (trimL (subL a b 0)) w) := by
  obtain ⟨i0, hi, hz0, hz1, hz2⟩ := info_parts intInfo
  obtain ⟨A, c, rfl, hA⟩ := hra
  obtain ⟨B, d, rfl, hB⟩ := hrb
  rw [intsV_length, intsV_length]
  have HA := Lib.hid hA
  have HB := Lib.hid hB
  have OA := Lib.hid oa
  have OB := Lib.hid ob
  have HSL := Lib.hid hsl
  clear hA hB oa ob hsl
  go_enter Tryz.func194, Tryz.ntmps194
  go_wp2
  go_loopw [5, 6, 12] (fun v cr i wr => SubRel a b w v cr i wr) (fun _ _ i _ => a.length - (intOf i).toNat)
  case atStart => exact ⟨0, 0, [], Nat.zero_le _, rfl, rfl, by omega, by omega, rfl, rfl, ⟨rfl, .inr ⟨w.heap.size, 0, #[], rfl, Nat.le_refl _, heap_alloc_new w _, Nat.le_refl _, Nat.zero_le _, rfl, rfl⟩⟩, (Below.refl _ _).alloc (Nat.le_refl _) _⟩
  case round =>
    obtain ⟨k, cr, out, hk, rfl, rfl, hc0, hc1, hol, hev, hown, hb1⟩ := hrel
    have HE := Lib.hid hev
    have HOL := Lib.hid hol
    have holk : out.length ≤ a.length := by omega
    clear hev hol
    by_cases h1 : k < a.length
    · obtain ⟨p, rfl, _, hpb, hca⟩ := HA.out k _ (intsV_at a k h1)
      have hca' : wr.cell? (p.add k) = some (.int .i64 a[k]) := (hb1.cell (by rw [block_add]; omega)).trans hca
      have hda := OA.out.at_ k h1
      clear hca
      have HS := Lib.hid (subL_drop a b k cr h1)
      by_cases h2 : k < b.length
      · obtain ⟨r, rfl, _, hrb, hcb⟩ := HB.out k _ (intsV_at b k h2)
        have hcb' : wr.cell? (r.add k) = some (.int .i64 b[k]) := (hb1.cell (by rw [block_add]; omega)).trans hcb
        have hdb := OB.out.at_ k h2
        clear hcb
        have HG := Lib.hid (getD_in b k h2)
        by_cases h3 : a[k] - cr - b[k] < 0
        · have HS2 : Hid (subL (a.drop k) (b.drop k) cr = (a[k] - cr - b[k] + 1000000000) :: subL (a.drop (k + 1)) (b.drop (k + 1)) 1) := Lib.hid (by rw [HS.out, HG.out, if_pos h3])
          go_wp2_with (at_builtin; refine wpList_append_own _ rfl (.tmp 35) (.tmp 37) 23 rfl w.heap.size 3 i0 (.int .i64 0) 1 8 Tryz.underlying23 hi hz0 hz1 hz2 rfl (by decide) _ _ _ rfl (own_alloc hown _) ⟨wr.heap.size, 0, none⟩ 1 1 [.int .i64 (a[k] - cr - b[k] + 1000000000)] rfl rfl (one_new _ _ _) ?c2 ?c3 ?c4 ?c5 ?_)
          case c2 => first | (intro u hu; simp at hu; subst hu; rfl) | rfl
          case c3 => unfold maxLen; omega
          case c4 => omega
          case c5 => have := hb1.size; simp; omega
          intro v1 w1 hown1 hg1 _
          have hb2 := below_push hb1 (Nat.le_refl _) hown hg1
          go_wp2
          exact ⟨sub_step (by omega) (by omega) (by omega) HOL.out (by rw [← HS2.out]; exact HE.out) hown1 hb2, by simp [intOf]; omega⟩
        · have HS2 : Hid (subL (a.drop k) (b.drop k) cr = (a[k] - cr - b[k]) :: subL (a.drop (k + 1)) (b.drop (k + 1)) 0) := Lib.hid (by rw [HS.out, HG.out, if_neg h3])
          go_wp2_with (at_builtin; refine wpList_append_own _ rfl (.tmp 35) (.tmp 37) 23 rfl w.heap.size 3 i0 (.int .i64 0) 1 8 Tryz.underlying23 hi hz0 hz1 hz2 rfl (by decide) _ _ _ rfl (own_alloc hown _) ⟨wr.heap.size, 0, none⟩ 1 1 [.int .i64 (a[k] - cr - b[k])] rfl rfl (one_new _ _ _) ?c2 ?c3 ?c4 ?c5 ?_)
          case c2 => first | (intro u hu; simp at hu; subst hu; rfl) | rfl
          case c3 => unfold maxLen; omega
          case c4 => omega
          case c5 => have := hb1.size; simp; omega
          intro v1 w1 hown1 hg1 _
          have hb2 := below_push hb1 (Nat.le_refl _) hown hg1
          go_wp2
          exact ⟨sub_step (by omega) (by omega) (by omega) HOL.out (by rw [← HS2.out]; exact HE.out) hown1 hb2, by simp [intOf]; omega⟩
      · have HG := Lib.hid (getD_out b k h2)
        by_cases h3 : a[k] - cr < 0
        · have HS2 : Hid (subL (a.drop k) (b.drop k) cr = (a[k] - cr + 1000000000) :: subL (a.drop (k + 1)) (b.drop (k + 1)) 1) := Lib.hid (by rw [HS.out, HG.out, if_pos (by omega), show a[k] - cr - 0 = a[k] - cr from by omega])
          go_wp2_with (at_builtin; refine wpList_append_own _ rfl (.tmp 35) (.tmp 37) 23 rfl w.heap.size 3 i0 (.int .i64 0) 1 8 Tryz.underlying23 hi hz0 hz1 hz2 rfl (by decide) _ _ _ rfl (own_alloc hown _) ⟨wr.heap.size, 0, none⟩ 1 1 [.int .i64 (a[k] - cr + 1000000000)] rfl rfl (one_new _ _ _) ?c2 ?c3 ?c4 ?c5 ?_)
          case c2 => first | (intro u hu; simp at hu; subst hu; rfl) | rfl
          case c3 => unfold maxLen; omega
          case c4 => omega
          case c5 => have := hb1.size; simp; omega
          intro v1 w1 hown1 hg1 _
          have hb2 := below_push hb1 (Nat.le_refl _) hown hg1
          go_wp2
          exact ⟨sub_step (by omega) (by omega) (by omega) HOL.out (by rw [← HS2.out]; exact HE.out) hown1 hb2, by simp [intOf]; omega⟩
        · have HS2 : Hid (subL (a.drop k) (b.drop k) cr = (a[k] - cr) :: subL (a.drop (k + 1)) (b.drop (k + 1)) 0) := Lib.hid (by rw [HS.out, HG.out, if_neg (by omega), show a[k] - cr - 0 = a[k] - cr from by omega])
          go_wp2_with (at_builtin; refine wpList_append_own _ rfl (.tmp 35) (.tmp 37) 23 rfl w.heap.size 3 i0 (.int .i64 0) 1 8 Tryz.underlying23 hi hz0 hz1 hz2 rfl (by decide) _ _ _ rfl (own_alloc hown _) ⟨wr.heap.size, 0, none⟩ 1 1 [.int .i64 (a[k] - cr)] rfl rfl (one_new _ _ _) ?c2 ?c3 ?c4 ?c5 ?_)
          case c2 => first | (intro u hu; simp at hu; subst hu; rfl) | rfl
          case c3 => unfold maxLen; omega
          case c4 => omega
          case c5 => have := hb1.size; simp; omega
          intro v1 w1 hown1 hg1 _
          have hb2 := below_push hb1 (Nat.le_refl _) hown hg1
          go_wp2
          exact ⟨sub_step (by omega) (by omega) (by omega) HOL.out (by rw [← HS2.out]; exact HE.out) hown1 hb2, by simp [intOf]; omega⟩
    · have HF : Hid (out = subL a b 0) := Lib.hid (by have e1 := HE.out; rwa [List.drop_of_length_le (l := a) (by omega), subL, List.append_nil] at e1)
      have hown2 : wr.ownsRow w.heap.size 3 1 u5 (subL a b 0).length (intsV (subL a b 0)) := by rw [← HF.out]; exact hown
      go_wp2_with fail
      refine (specTrim_any _ _ _ _ (by rw [HSL.out]; exact hal) hown2).mono ?_
      rintro e w' ⟨rfl, v2, rfl, o2⟩
      go_wp2
      go_ret
      exact ⟨v2, rfl, o2, hb1⟩

theorem capL_trim_sub (a b : List Int) (h : (subL a b 0).length ≤ 50) : capL (trimL (subL a b 0)) = trimL (subL a b 0) := by
  have := trimL_length (subL a b 0)
  unfold capL
  rw [if_neg (by omega)]
theorem natRes_neg (n : Int) (h : n < 0) : natRes n = [] := by
  unfold natRes
  rw [show n.toNat = 0 from by omega, limbs, dif_pos rfl]
  rfl
theorem len_of_le (a b : List Int) (ha : DigN a) (hb : DigN b ∧ b.getLastD 1 ≠ 0) (h : nval b ≤ nval a) : b.length ≤ a.length := by
  rcases Nat.lt_or_ge a.length b.length with hl | hl
  · have := nval_short a b ha hb.1 hl hb.2
    omega
  · exact hl
end Go.Proofs.YtcenmdiblbooeaaGreatDoor

namespace Go.Proofs.YtcenmdiblbooeaaGreatDoor
open Go.RowKit

/-- one row of the school method: x times b added into R -/
def rowL (x : Int) : List Int → List Int → Int → List Int
  | [], _ :: R, c => c :: R
  | [], [], _ => []
  | y :: b, r :: R, c => (r + x * y + c) % 1000000000 :: rowL x b R ((r + x * y + c) / 1000000000)
  | _ :: _, [], _ => []
/-- all rows -/
def mulL : List Int → List Int → List Int → List Int
  | [], _, R => R
  | x :: a, b, R => (rowL x b R 0).headD 0 :: mulL a b (rowL x b R 0).tail
theorem mul_bound (x y : Int) (hx0 : 0 ≤ x) (hx1 : x ≤ 999999999) (hy0 : 0 ≤ y) (hy1 : y ≤ 999999999) : 0 ≤ x * y ∧ x * y ≤ 999999998000000001 := by
  refine ⟨Int.mul_nonneg hx0 hy0, ?_⟩
  have h : x * y ≤ 999999999 * 999999999 := Int.mul_le_mul hx1 hy1 hy0 (by omega)
  omega
theorem rowL_val (x : Int) (hx0 : 0 ≤ x) (hx1 : x ≤ 999999999) : ∀ (b R : List Int) (c : Int), DigN b → DigN R → b.length < R.length → (∀ d ∈ R.drop b.length, d = 0) → 0 ≤ c → c ≤ 999999999 →
    nval (rowL x b R c) = nval R + x * nval b + c ∧ DigN (rowL x b R c) ∧ (rowL x b R c).length = R.length ∧ ∀ d ∈ (rowL x b R c).drop (b.length + 1), d = 0 := by
  intro b
  induction b with
  | nil =>
    intro R c _ hR hl hz h0 h1
    cases R with
    | nil => simp at hl
    | cons r R =>
      have hr : r = 0 := hz r (by simp)
      subst hr
      refine ⟨?_, DigN.cons h0 h1 hR.tail, rfl, fun d hd => hz d (by simp at hd ⊢; exact .inr hd)⟩
      show c + 1000000000 * nval R = (0 + 1000000000 * nval R) + x * 0 + c
      omega
  | cons y b ih =>
    intro R c hb hR hl hz h0 h1
    cases R with
    | nil => simp at hl
    | cons r R =>
      have hm := mul_bound x y hx0 hx1 hb.head.1 hb.head.2
      have hr := hR.head
      have hy := hb.head
      obtain ⟨i1, i2, i3, i4⟩ := ih R ((r + x * y + c) / 1000000000) hb.tail hR.tail (by simpa using hl) (fun d hd => hz d (by simpa using hd)) (by omega) (by omega)
      refine ⟨?_, DigN.cons (by omega) (by omega) i2, by simp [rowL, i3], fun d hd => i4 d (by simpa [rowL] using hd)⟩
      show (r + x * y + c) % 1000000000 + 1000000000 * nval (rowL x b R ((r + x * y + c) / 1000000000)) = (r + 1000000000 * nval R) + x * (y + 1000000000 * nval b) + c
      have hd : x * (y + 1000000000 * nval b) = x * y + 1000000000 * (x * nval b) := by rw [Int.mul_add, Int.mul_left_comm]
      rw [hd, i1]
      omega
theorem mulL_val (b : List Int) (hb : DigN b) : ∀ (a R : List Int), DigN a → DigN R → R.length = a.length + b.length → (∀ d ∈ R.drop b.length, d = 0) →
    nval (mulL a b R) = nval R + nval a * nval b ∧ DigN (mulL a b R) ∧ (mulL a b R).length = R.length := by
  intro a
  induction a with
  | nil =>
    intro R _ hR _ _
    refine ⟨?_, hR, rfl⟩
    show nval R = nval R + 0 * nval b
    omega
  | cons x a ih =>
    intro R ha hR hl hz
    obtain ⟨i1, i2, i3, i4⟩ := rowL_val x ha.head.1 ha.head.2 b R 0 hb hR (by simp at hl; omega) hz (by omega) (by omega)
    unfold mulL
    cases hrow : rowL x b R 0 with
    | nil => rw [hrow] at i3; simp at hl i3; omega
    | cons h T =>
      rw [hrow] at i1 i2 i3 i4
      obtain ⟨j1, j2, j3⟩ := ih T ha.tail i2.tail (by simp at i3 hl; omega) (fun d hd => i4 d (by simpa using hd))
      refine ⟨?_, DigN.cons i2.head.1 i2.head.2 j2, by simp [j3]; simpa using i3⟩
      show h + 1000000000 * nval (mulL a b T) = nval R + (x + 1000000000 * nval a) * nval b
      have hd : (x + 1000000000 * nval a) * nval b = x * nval b + 1000000000 * (nval a * nval b) := by rw [Int.add_mul, Int.mul_assoc]
      have i1' : h + 1000000000 * nval T = nval R + x * nval b + 0 := i1
      rw [hd, j1]
      omega

theorem rowL_drop (x : Int) (b O : List Int) (j m : Nat) (c : Int) (hj : j < b.length) (hm : m < O.length) : rowL x (b.drop j) (O.drop m) c = (O[m] + x * b[j] + c) % 1000000000 :: rowL x (b.drop (j + 1)) (O.drop (m + 1)) ((O[m] + x * b[j] + c) / 1000000000) := by
  rw [List.drop_eq_getElem_cons hj, List.drop_eq_getElem_cons hm, rowL]
theorem set_split (O : List Int) (m : Nat) (u : Int) (h : m < O.length) : (O.set m u).take (m + 1) = O.take m ++ [u] ∧ (O.set m u).drop (m + 1) = O.drop (m + 1) ∧ O.set m u = O.take m ++ u :: O.drop (m + 1) := by
  refine ⟨?_, ?_, List.set_eq_take_append_cons_drop .. |>.trans (by rw [if_pos h])⟩
  · rw [List.take_succ_eq_append_getElem (by simpa using h), List.take_set_of_le (Nat.le_refl _), List.getElem_set_self]
  · rw [List.drop_set_of_lt (by omega)]
theorem intsV_set (O : List Int) (m : Nat) (u : Int) : (intsV O).set m (.int .i64 u) = intsV (O.set m u) := by simp [intsV, List.map_set]
theorem DigN.setM {O : List Int} (h : DigN O) (m : Nat) (u : Int) (h0 : 0 ≤ u) (h1 : u ≤ 999999999) : DigN (O.set m u) := by
  intro d hd
  rcases List.mem_or_eq_of_mem_set hd with hd | rfl
  · exact h d hd
  · exact ⟨h0, h1⟩

theorem make_sum (m n : Nat) (hm : m ≤ 1048576) (hn : n ≤ 1048576) (W : World) :
    (Instr.makeSlice 23 (.int .i64 ((m : Int) + (n : Int))) (.int .i64 ((m : Int) + (n : Int)))).run Tryz.prog W = .ok (.slice (some ⟨W.heap.size, 0, none⟩) (m + n) (m + n)) (W.alloc (.cells (madeCells #[.int .i64 0] (m + n)) 3)) := by
  have h := make_ints (m + n) (by omega) W
  rwa [Int.natCast_add] at h

/-- what the outer loop of l02Mul knows: O is what has been written -/
def MulRel (a b : List Int) (w : World) (i : Value) (wr : World) : Prop :=
  ∃ (k : Nat) (O : List Int), k ≤ a.length ∧ i = .int .i64 k ∧ O.length = a.length + b.length ∧ DigN O ∧ O.take k ++ mulL (a.drop k) b (O.drop k) = mulL a b (List.replicate (a.length + b.length) 0) ∧
    wr.ownsRow w.heap.size 3 1 (.slice (some ⟨w.heap.size, 0, none⟩) (a.length + b.length) (a.length + b.length)) (a.length + b.length) (intsV O) ∧ Below w.heap.size w wr
theorem rowL_nil (x : Int) (O : List Int) (m : Nat) (c : Int) (h : m < O.length) : rowL x [] (O.drop m) c = c :: O.drop (m + 1) := by
  rw [List.drop_eq_getElem_cons h, rowL]
/-- what the inner loop knows: T is what the row comes to -/
def RowRel (b : List Int) (x : Int) (k n : Nat) (T : List Int) (w : World) (cr i : Value) (wr : World) : Prop :=
  ∃ (j : Nat) (c : Int) (O : List Int), j ≤ b.length ∧ i = .int .i64 j ∧ cr = .int .i64 c ∧ 0 ≤ c ∧ c ≤ 999999999 ∧ O.length = n ∧ DigN O ∧ O.take (k + j) ++ rowL x (b.drop j) (O.drop (k + j)) c = T ∧
    wr.ownsRow w.heap.size 3 1 (.slice (some ⟨w.heap.size, 0, none⟩) n n) n (intsV O) ∧ Below w.heap.size w wr
theorem mul_next (a b O T : List Int) (k : Nat) (hk : k < a.length) (hO : k < O.length) (hT : O.take k ++ rowL a[k] b (O.drop k) 0 = T) (hr : 0 < (rowL a[k] b (O.drop k) 0).length) :
    T.take (k + 1) ++ mulL (a.drop (k + 1)) b (T.drop (k + 1)) = O.take k ++ mulL (a.drop k) b (O.drop k) := by
  have hlt : (O.take k).length = k := by rw [List.length_take]; omega
  rw [List.drop_eq_getElem_cons hk, mulL]
  cases hrow : rowL a[k] b (O.drop k) 0 with
  | nil => rw [hrow] at hr; simp at hr
  | cons h R =>
    rw [hrow] at hT
    have e1 : (O.take k ++ h :: R).take (k + 1) = O.take k ++ [h] := by
      rw [List.take_append, hlt, show k + 1 - k = 1 from by omega, List.take_of_length_le (l := O.take k) (by omega)]
      rfl
    have e2 : (O.take k ++ h :: R).drop (k + 1) = R := by
      rw [List.drop_append, hlt, show k + 1 - k = 1 from by omega, List.drop_of_length_le (l := O.take k) (by omega)]
      rfl
    rw [← hT, e1, e2, List.append_assoc]
    rfl

set_option maxHeartbeats 4000000 in
set_option maxRecDepth 100000 in
theorem specMul_any (va vb : Value) (a b : List Int) (la ha lb hb : Nat) (w : World) (hal : a.length ≤ 50) (hbl : b.length ≤ 50) (ha0 : 0 < a.length) (hb0 : 0 < b.length) (hha : ha ≤ w.heap.size) (hhb : hb ≤ w.heap.size) (oa : DigN a) (ob : DigN b)
    (hra : Row w la ha va (intsV a)) (hrb : Row w lb hb vb (intsV b)) :
    Calls Tryz.prog 169 #[va, vb] w (NewInts (trimL (mulL a b (List.replicate (a.length + b.length) 0))) w) := by
  obtain ⟨A, c, rfl, hA⟩ := hra
  obtain ⟨B, d, rfl, hB⟩ := hrb
  rw [intsV_length, intsV_length]
  have HA := Lib.hid hA
  have HB := Lib.hid hB
  have OA := Lib.hid oa
  have OB := Lib.hid ob
  have hmk := make_sum a.length b.length (by omega) (by omega)
  have hza : ((a.length : Int) == 0) = false := by rw [beq_eq_false_iff_ne]; omega
  have hzb : ((b.length : Int) == 0) = false := by rw [beq_eq_false_iff_ne]; omega
  clear hA hB oa ob
  go_enter Tryz.func169, Tryz.ntmps169
  go_wp2
  go_loopw [28] (fun i wr => MulRel a b w i wr) (fun i _ => a.length - (intOf i).toNat)
  case atStart =>
    refine ⟨0, List.replicate (a.length + b.length) 0, Nat.zero_le _, rfl, by simp, fun d hd => by rw [(List.mem_replicate.1 hd).2]; omega, by simp, ?_, (Below.refl _ _).alloc (Nat.le_refl _) _⟩
    have h := World.ownsRow_lit (e := 3) (size := 1) (base := w.heap.size) w (madeCells #[.int .i64 0] (a.length + b.length)) (a.length + b.length) (Nat.le_refl _) (by unfold maxLen; omega) (by rw [size_madeCells, Nat.mul_one])
    rw [toList_madeCells_one] at h
    simpa [intsV] using h
  case round =>
    obtain ⟨k, O, hk, rfl, hOl, hOd, hev, hown, hb1⟩ := hrel
    obtain ⟨wo, rfl⟩ : ∃ wo : World, wo = wr := ⟨_, rfl⟩
    have HE := Lib.hid hev
    have HOL := Lib.hid hOl
    have HOD := Lib.hid hOd
    clear hev hOl hOd
    by_cases h1 : k < a.length
    · obtain ⟨p, rfl, _, hpb, hca⟩ := HA.out k _ (intsV_at a k h1)
      have hca' : wo.cell? (p.add k) = some (.int .i64 a[k]) := (hb1.cell (by rw [block_add]; omega)).trans hca
      have hda := OA.out.at_ k h1
      clear hca
      have hOk : k < O.length := by have := HOL.out; omega
      obtain ⟨T, HT⟩ : ∃ T, Hid (O.take k ++ rowL a[k] b (O.drop k) 0 = T) := ⟨_, Lib.hid rfl⟩
      go_wp2
      go_loopw [8, 35] (fun cr i wi => RowRel b a[k] k (a.length + b.length) T w cr i wi) (fun _ i _ => b.length - (intOf i).toNat)
      case atStart => exact ⟨0, 0, O, Nat.zero_le _, rfl, rfl, by omega, by omega, HOL.out, HOD.out, HT.out, hown, hb1⟩
      case round =>
        obtain ⟨j, cr, O1, hj, rfl, rfl, hc0, hc1, hl1, hd1, he1, hown1, hb2⟩ := hrel
        have HL1 := Lib.hid hl1
        have HD1 := Lib.hid hd1
        have HE1 := Lib.hid he1
        clear hl1 hd1 he1 hown
        have hlen1 : O1.length ≤ a.length + b.length := by have := HL1.out; omega
        by_cases h2 : j < b.length
        · obtain ⟨r, rfl, _, hrb, hcb⟩ := HB.out j _ (intsV_at b j h2)
          have hcb' : wr.cell? (r.add j) = some (.int .i64 b[j]) := (hb2.cell (by rw [block_add]; omega)).trans hcb
          have hdb := OB.out.at_ j h2
          clear hcb
          have hm : k + j < O1.length := by have := HL1.out; omega
          have hdo := HD1.out.at_ (k + j) hm
          have hmul := mul_bound a[k] b[j] hda.1 hda.2 hdb.1 hdb.2
          have hcell := hown1.cellAt (k + j) (by omega)
          rw [intsV_at O1 (k + j) hm] at hcell
          have hfr := hown1.frozenAt (k + j)
          obtain ⟨ho2, hg2⟩ := hown1.stored (k + j) (.int .i64 ((O1[k + j] + a[k] * b[j] + cr) % 1000000000))
          rw [intsV_set] at ho2
          have hb3 := hb2.grown hg2 hb2.size (fun g hg => by cases hg; exact Nat.le_refl _)
          have HS := Lib.hid (rowL_drop a[k] b O1 j (k + j) cr h2 hm)
          have HSS := Lib.hid (set_split O1 (k + j) ((O1[k + j] + a[k] * b[j] + cr) % 1000000000) hm)
          clear hown1 hg2
          go_wp2
          refine ⟨⟨j + 1, (O1[k + j] + a[k] * b[j] + cr) / 1000000000, _, by omega, by go_num, rfl, by omega, by omega, by rw [List.length_set]; exact HL1.out, HD1.out.setM (k + j) _ (by omega) (by omega), ?_, ho2, hb3⟩, by simp [intOf]; omega⟩
          rw [show k + (j + 1) = k + j + 1 from by omega, HSS.out.1, HSS.out.2.1, List.append_assoc]
          have e1 := HE1.out
          rw [HS.out] at e1
          exact e1
        · obtain rfl : j = b.length := by omega
          have hm : k + b.length < O1.length := by have := HL1.out; omega
          have hcell := hown1.cellAt (k + b.length) (by omega)
          rw [intsV_at O1 (k + b.length) hm] at hcell
          have hfr := hown1.frozenAt (k + b.length)
          obtain ⟨ho2, hg2⟩ := hown1.stored (k + b.length) (.int .i64 cr)
          rw [intsV_set] at ho2
          have hb3 := hb2.grown hg2 hb2.size (fun g hg => by cases hg; exact Nat.le_refl _)
          have HTT : Hid (O1.set (k + b.length) cr = T) := Lib.hid (by
            have e1 := HE1.out
            rw [List.drop_of_length_le (l := b) (Nat.le_refl _), rowL_nil _ _ _ _ hm] at e1
            rw [(set_split O1 (k + b.length) cr hm).2.2]
            exact e1)
          have HDT := Lib.hid (HD1.out.setM (k + b.length) cr hc0 hc1)
          have HLT : Hid ((O1.set (k + b.length) cr).length = a.length + b.length) := Lib.hid (by rw [List.length_set]; exact HL1.out)
          have HNX : Hid (T.take (k + 1) ++ mulL (a.drop (k + 1)) b (T.drop (k + 1)) = O.take k ++ mulL (a.drop k) b (O.drop k)) := Lib.hid (mul_next a b O T k h1 hOk HT.out (by
            have e1 := congrArg List.length HT.out
            have e2 := HLT.out
            rw [HTT.out] at e2
            have e3 : (O.take k).length = k := by rw [List.length_take]; omega
            rw [List.length_append, e3, e2] at e1
            omega))
          clear hown1 hg2
          go_wp2
          refine ⟨⟨k + 1, _, by omega, by go_num, HLT.out, HDT.out, ?_, ho2, hb3⟩, by simp [intOf]; omega⟩
          rw [HTT.out, HNX.out]
          exact HE.out
    · obtain rfl : k = a.length := by omega
      have HF : Hid (O = mulL a b (List.replicate (a.length + b.length) 0)) := Lib.hid (by
        have e1 := HE.out
        rwa [List.drop_of_length_le (l := a) (Nat.le_refl _), mulL, List.take_append_drop] at e1)
      have hown2 : wo.ownsRow w.heap.size 3 1 (.slice (some ⟨w.heap.size, 0, none⟩) (a.length + b.length) (a.length + b.length)) O.length (intsV O) := by rw [HOL.out]; exact hown
      have hOl : O.length ≤ 1048576 := by have := HOL.out; omega
      go_wp2_with fail
      refine (specTrim_any _ O _ _ hOl hown2).mono ?_
      rintro e w' ⟨rfl, v2, rfl, o2⟩
      go_wp2
      go_ret
      exact ⟨v2, rfl, by rw [← HF.out]; exact o2, hb1⟩

theorem limbs_zero : limbs 0 = [] := by rw [limbs, dif_pos rfl]
theorem mul_val' (a b : List Int) (ha : DigN a) (hb : DigN b) : nval (mulL a b (List.replicate (a.length + b.length) 0)) = nval a * nval b ∧ DigN (mulL a b (List.replicate (a.length + b.length) 0)) ∧ (mulL a b (List.replicate (a.length + b.length) 0)).length = a.length + b.length := by
  have hz : ∀ n, nval (List.replicate n 0) = 0 := by
    intro n
    induction n with
    | zero => rfl
    | succ n ih => rw [List.replicate_succ]; show (0 : Int) + 1000000000 * nval (List.replicate n 0) = 0; omega
  have h := mulL_val b hb a (List.replicate (a.length + b.length) 0) ha (fun d hd => by rw [(List.mem_replicate.1 hd).2]; omega) (by simp) (fun d hd => (List.mem_replicate.1 (List.mem_of_mem_drop hd)).2)
  rw [hz, List.length_replicate] at h
  exact ⟨by rw [h.1]; omega, h.2⟩
theorem trim_trim (xs : List Int) (h : DigN xs) : trimL (trimL xs) = trimL xs ∧ DigN (trimL xs) := by
  induction xs with
  | nil => exact ⟨rfl, h⟩
  | cons d r ih =>
    obtain ⟨i1, i2⟩ := ih h.tail
    by_cases hc : trimL r = [] ∧ d = 0
    · have e : trimL (d :: r) = [] := by show (if _ then _ else _) = _; rw [if_pos hc]
      rw [e]
      exact ⟨rfl, fun x hx => by cases hx⟩
    · have e : trimL (d :: r) = d :: trimL r := by show (if _ then _ else _) = _; rw [if_neg hc]
      rw [e]
      refine ⟨?_, DigN.cons h.head.1 h.head.2 i2⟩
      show (if _ then _ else _) = _
      rw [i1, if_neg hc]

set_option maxHeartbeats 400000 in
set_option maxRecDepth 100000 in
theorem specMul_nil (va vb : Value) (a b : List Int) (la ha lb hb : Nat) (w : World) (hal : a.length ≤ 50) (hbl : b.length ≤ 50) (h0 : a.length = 0 ∨ b.length = 0)
    (hra : Row w la ha va (intsV a)) (hrb : Row w lb hb vb (intsV b)) : Calls Tryz.prog 169 #[va, vb] w (NewInts [] w) := by
  obtain ⟨A, c, rfl, _⟩ := hra
  obtain ⟨B, d, rfl, _⟩ := hrb
  rw [intsV_length, intsV_length]
  by_cases hz : a.length = 0
  · have hza : ((a.length : Int) == 0) = true := by rw [beq_iff_eq]; omega
    clear h0 hz
    go_enter Tryz.func169, Tryz.ntmps169
    go_wp2
    go_ret
    exact new_nil (Below.refl _ _)
  · have hza : ((a.length : Int) == 0) = false := by rw [beq_eq_false_iff_ne]; omega
    have hzb : ((b.length : Int) == 0) = true := by rw [beq_iff_eq]; omega
    clear h0 hz
    go_enter Tryz.func169, Tryz.ntmps169
    go_wp2
    go_ret
    exact new_nil (Below.refl _ _)

end Go.Proofs.YtcenmdiblbooeaaGreatDoor

namespace Go.Proofs.YtcenmdiblbooeaaGreatDoor
open Go.RowKit

theorem limbs_pos (n : Nat) (h : n ≠ 0) : limbs n = ((n % 1000000000 : Nat) : Int) :: limbs (n / 1000000000) := by rw [limbs, dif_neg h]
theorem limbs_none : limbs 0 = [] := by rw [limbs, dif_pos rfl]
theorem Row.lit (w : World) (cs : Array Value) (t : TypeId) : Row (w.alloc (.cells cs t)) w.heap.size (w.heap.size + 1) (.slice (some ⟨w.heap.size, 0, none⟩) cs.size cs.size) cs.toList := by
  refine ⟨_, _, rfl, fun j u hu => ⟨_, rfl, Nat.le_refl _, Nat.lt_succ_self _, ?_⟩⟩
  have e1 : (Addr.add ⟨w.heap.size, 0, none⟩ j) = ⟨w.heap.size, j, none⟩ := by
    unfold Addr.add
    split
    · simp_all
    · simp
  rw [e1, World.cell?_alloc_at _ _ _ _ rfl]
  simpa using hu

set_option maxHeartbeats 400000 in
set_option maxRecDepth 100000 in
theorem specNatOf_any (n : Int) (w : World) (h1 : n ≤ 9223372036854775807) :
    Calls Tryz.prog 98 #[.int .i64 n] w (NewInts (limbs n.toNat) w) := by
  obtain ⟨i0, hi, hz0, hz1, hz2⟩ := info_parts intInfo
  go_enter Tryz.func98, Tryz.ntmps98
  go_wp2
  go_loopw [0, 3] (fun a v wr => ∃ (m : Int) (out : List Int) (f : Nat), m ≤ 9223372036854775807 ∧ out.length + f ≤ 3 ∧ m < 1000000000 ^ f ∧ a = .int .i64 m ∧ Hid (out ++ limbs m.toNat = limbs n.toNat) ∧ wr.ownsRow w.heap.size 3 1 v out.length (intsV out) ∧ Below w.heap.size w wr) (fun a _ _ => (intOf a).toNat)
  case atStart => exact ⟨n, [], 3, h1, by simp, by omega, rfl, Lib.hid rfl, ⟨rfl, .inr ⟨w.heap.size, 0, #[], rfl, Nat.le_refl _, heap_alloc_new w _, Nat.le_refl _, Nat.zero_le _, rfl, rfl⟩⟩, (Below.refl _ _).alloc (Nat.le_refl _) _⟩
  case round =>
    obtain ⟨m, out, f, hm, hol, hmf, rfl, HE, hown, hb1⟩ := hrel
    by_cases h0 : 0 < m
    · obtain ⟨g, rfl⟩ : ∃ g, f = g + 1 := by
        cases f with
        | zero => simp at hmf; omega
        | succ g => exact ⟨g, rfl⟩
      have hmg : m / 1000000000 < 1000000000 ^ g := by
        rw [Int.pow_succ] at hmf
        exact Int.ediv_lt_of_lt_mul (by omega) hmf
      have HS : Hid (out ++ [m % 1000000000] ++ limbs (m / 1000000000).toNat = limbs n.toNat) := Lib.hid (by
        have e := HE.out
        rw [limbs_pos m.toNat (by omega)] at e
        rw [List.append_assoc, ← e, show ((m.toNat % 1000000000 : Nat) : Int) = m % 1000000000 from by omega, show m.toNat / 1000000000 = (m / 1000000000).toNat from by omega]
        rfl)
      clear hmf
      go_wp2_with (at_builtin; refine wpList_append_own _ rfl (.tmp 7) (.tmp 10) 23 rfl w.heap.size 3 i0 (.int .i64 0) 1 8 Tryz.underlying23 hi hz0 hz1 hz2 rfl (by decide) _ _ _ rfl (own_alloc hown _) ⟨wr.heap.size, 0, none⟩ 1 1 [.int .i64 (m % 1000000000)] rfl rfl (one_new _ _ _) ?c2 ?c3 ?c4 ?c5 ?_)
      case c2 => first | (intro u hu; simp at hu; subst hu; rfl) | rfl
      case c3 => unfold maxLen; omega
      case c4 => omega
      case c5 => have := hb1.size; simp; omega
      intro v1 w1 hown1 hg1 _
      have hb2 := below_push hb1 (Nat.le_refl _) hown hg1
      go_wp2
      exact ⟨⟨m / 1000000000, out ++ [m % 1000000000], g, by omega, by simp; omega, hmg, rfl, HS, by simpa [intsV] using hown1, hb2⟩, by simp [intOf]; omega⟩
    · have HF : Hid (out = limbs n.toNat) := Lib.hid (by have e := HE.out; rwa [show m.toNat = 0 from by omega, limbs_none, List.append_nil] at e)
      go_wp2
      go_ret
      exact ⟨_, rfl, by rw [← HF.out]; exact hown, hb1⟩

/-- what NatInt answers -/
def natIntN (a : List Int) : Int × Bool := if natOkB a = true ∧ nval a ≤ 9223372036854775807 then (nval a, true) else (0, false)
def TwoPost (r : Int × Bool) (w : World) (e : Ending) (w' : World) : Prop := e = .returned (.tuple #[.int .i64 r.1, .bool r.2]) ∧ Below w.heap.size w w'
theorem nval_drop_le (a : List Int) (ha : DigN a) (k : Nat) : nval (a.drop k) ≤ nval a := by
  induction k with
  | zero => simp
  | succ k ih =>
    by_cases h : k < a.length
    · have h1 := nval_drop a k h
      have h2 := ha.at_ k h
      have h3 := nval_nonneg (a.drop (k + 1)) (ha.drop _)
      omega
    · rw [List.drop_of_length_le (by omega)]
      exact nval_nonneg a ha
theorem max_nat : nval [854775807, 223372036, 9] = 9223372036854775807 := by simp [nval]
theorem max_dig : DigN [854775807, 223372036, 9] ∧ [854775807, 223372036, (9 : Int)].getLastD 1 ≠ 0 := by
  refine ⟨fun d hd => ?_, by decide⟩
  simp at hd
  omega

end Go.Proofs.YtcenmdiblbooeaaGreatDoor
