/-
  Plain facts behind the law FnDec: what it reckons of right decimal numbers of at most two limbs and a scale of at most nine.
  Values of type impl.Dec: what laws.toDec, eqDec, markDec, heldDec and szDec return; results that lie in their boxes.
  Decimal numbers that a law draws: they are right, and short.
  A limb of a nat, or 0 beyond its ends.
  Contracts of library functions, laid over this program: each is one application of a theorem of the library.
  What spec.IntText and impl.IntText return: the decimal numeral.
  What (*strings.Builder).copyCheck and WriteString do to a builder of the call's own.
  What impl.joinAll, impl.Join and spec.Join return: the same text.
  What spec.Pad and impl.Pad return.
  Chapter 3: NatText and NatDigits of package spec.
  What spec.l01All, impl.IsDigits, IsWord, IsCode and their spec twins return, as walks over the program.
  Plain facts on texts of decimal digits.
  What TextNat of package spec returns.
  What spec.TextInt and impl.TextInt return: the int whose numeral the text is, if there is one.
  Plain facts: the text of limbs is the decimal numeral of their number; when a text of digits is a numeral.
-/
import Derived.Deep.DeepCutAuto
import Derived.Shelf.Bits.Mul64
import Derived.Shelf.Small.Bits
import Derived.Shelf.Small.Wraps
import Derived.Shelf.Strconv.Itoa3
import Derived.Shelf.Strings.BuilderK
import Derived.Shelf.Strings.Repeat
import Derived.Shelf.Strings.Search2
import Derived.Shelf.Strings.Trim
import Derived.Test.YtbfolegllhpkjaaGreatDoorProg
import Derived.Deep.RegionWith
import Derived.Lib.ItoaNum
import Derived.IntWalk
import Derived.Lib.FrozenHead2
import Derived.Lib.OthersKept
import Derived.Deep.RegionHeld3
import Derived.Lib.IndexBytes
import Derived.Test.YtbfolegllhpkjaaGreatDoorJF3
namespace Go.Proofs.YtbfolegllhpkjaaGreatDoor
open Go.RowKit

theorem pt_split {j k : Int} (h0 : 0 ≤ j) (h1 : 0 ≤ k) : pt (j + k) = pt j * pt k := by
  unfold pt
  rw [show (j + k).toNat = j.toNat + k.toNat by omega, Int.pow_add]
/-- a number lifted to a greater scale stands for the same fraction -/
theorem lift_val {d : DI} {s : Int} (h : okD d = true) (hs : d.2 ≤ s) : (liftD d s : Rat) / (pt s : Rat) = ratV (ratD d) := by
  have p := partsD h
  have t := (ten_bd h).2.2
  rw [t]
  have e : pt s = pt (s - d.2) * pt d.2 := by rw [← pt_split (by omega) p.lo]; congr 1; omega
  have n1 := rat_ne (pt_pos d.2)
  have n2 := rat_ne (pt_pos (s - d.2))
  have e2 : (pt s : Rat) = (pt (s - d.2) : Rat) * (pt d.2 : Rat) := by exact_mod_cast e
  have e3 : (liftD d s : Rat) = (numD d : Rat) * (pt (s - d.2) : Rat) := by
    have : liftD d s = numD d * pt (s - d.2) := rfl
    exact_mod_cast this
  rw [e2, e3]
  grind
theorem cmpD_eq {d e : DI} (hd : okD d = true) (he : okD e = true) : cmpD d e = cmpQ (ratD d) (ratD e) := by
  have bd := ten_bd hd
  have be := ten_bd he
  have t := topD_le (partsD hd) (partsD he)
  have v1 := lift_val hd t.1
  have v2 := lift_val he t.2.1
  have hP := pt_pos (topD d e)
  have n0 := rat_ne hP
  have p1 := bd.2.1.pos
  have p2 := be.2.1.pos
  have n1 := rat_ne p1
  have n2 := rat_ne p2
  unfold cmpD cmpQ
  rw [if_pos ⟨hd, he⟩, if_pos ⟨bd.2.1.ok, be.2.1.ok⟩]
  generalize liftD d (topD d e) = X at *
  generalize liftD e (topD d e) = Y at *
  generalize pt (topD d e) = P at *
  unfold ratV at v1 v2
  have k1 : X * denQ (ratD d) = numQ (ratD d) * P := by
    have : (X : Rat) * ((denQ (ratD d) : Int) : Rat) = (numQ (ratD d) : Rat) * (P : Rat) := by grind
    exact_mod_cast this
  have k2 : Y * denQ (ratD e) = numQ (ratD e) * P := by
    have : (Y : Rat) * ((denQ (ratD e) : Int) : Rat) = (numQ (ratD e) : Rat) * (P : Rat) := by grind
    exact_mod_cast this
  generalize numQ (ratD d) = A at *
  generalize numQ (ratD e) = B at *
  generalize (denQ (ratD d) : Int) = D at *
  generalize (denQ (ratD e) : Int) = E at *
  have c1 : (A * E) * P = X * (D * E) := by rw [← Int.mul_assoc, k1]; ac_rfl
  have c2 : (B * D) * P = Y * (D * E) := by rw [Int.mul_comm D E, ← Int.mul_assoc, k2]; ac_rfl
  have hDE : 0 < D * E := Int.mul_pos p1 p2
  have l1 : X < Y ↔ A * E < B * D := by
    constructor
    · intro h
      have := Int.mul_lt_mul_of_pos_right h hDE
      rw [← c1, ← c2] at this
      exact Int.lt_of_mul_lt_mul_right this (Int.le_of_lt hP)
    · intro h
      have := Int.mul_lt_mul_of_pos_right h hP
      rw [c1, c2] at this
      exact Int.lt_of_mul_lt_mul_right this (Int.le_of_lt hDE)
  have l2 : Y < X ↔ B * D < A * E := by
    constructor
    · intro h
      have := Int.mul_lt_mul_of_pos_right h hDE
      rw [← c1, ← c2] at this
      exact Int.lt_of_mul_lt_mul_right this (Int.le_of_lt hP)
    · intro h
      have := Int.mul_lt_mul_of_pos_right h hP
      rw [c1, c2] at this
      exact Int.lt_of_mul_lt_mul_right this (Int.le_of_lt hDE)
  unfold cmpI
  by_cases h1 : X < Y
  · rw [if_pos h1, if_pos (l1.1 h1)]
  · rw [if_neg h1, if_neg (fun h => h1 (l1.2 h))]
    by_cases h2 : Y < X
    · rw [if_pos h2, if_pos (l2.1 h2)]
    · rw [if_neg h2, if_neg (fun h => h2 (l2.2 h))]
theorem cmpD_same {d e : DI} (hd : okD d = true) (he : okD e = true) (h : ratV (ratD d) = ratV (ratD e)) : cmpD d e = 0 := by
  rw [cmpD_eq hd he]
  exact cmp_same (ten_bd hd).2.1 (ten_bd he).2.1 h
/-- a number as FnDec draws it -/
structure ShortD (d : DI) : Prop where
  ok : okD d = true
  num : ((numD d).natAbs : Int) < bp 2
  hi : d.2 ≤ 9
theorem bp_two : bp 2 = 1000000000000000000 := rfl
theorem bp_one : bp 1 = 1000000000 := rfl
theorem pt_nine {k : Int} (h : k ≤ 9) : pt k ≤ 1000000000 := by
  have := pt_mono h
  have e : pt 9 = 1000000000 := rfl
  omega
theorem short_lift {d : DI} (h : ShortD d) {s : Int} (hs : s ≤ 9) : ((liftD d s).natAbs : Int) < bp 4 := by
  have p := partsD h.ok
  have h1 := pt_pos (s - d.2)
  have h2 := pt_nine (k := s - d.2) (by have := p.lo; omega)
  have h3 : bp 1 < bp 2 := bp_step 1
  have e := bp_one
  have := mulZ_lt (j := 2) (k := 2) h.num (b := pt (s - d.2)) (by omega)
  exact this
theorem val_of {z k : Int} (h : (z.natAbs : Int) < bp 6) (h0 : 0 ≤ k) (h1 : k ≤ 30) : ratV (ratD (ofZ z, k)) = (z : Rat) / (pt k : Rat) := by
  have y := decZ_yes h h0 h1
  rw [(ten_bd y.2.1).2.2, y.2.2]
/-- all that FnDec reckons -/
structure DecAll (d e s m : DI) : Prop where
  okd : okD d = true
  oke : okD e = true
  oks : okD s = true
  okm : okD m = true
  lo : okD (lowD d) = true
  lohi : (lowD d).2 ≤ d.2
  loat : atD (lowD d) d.2 = (d, true)
  locmp : cmpD (lowD d) d = 0
  self : cmpD d d = 0
  es : addD d e = (s, true)
  em : mulD d e = (m, true)
  et : subD s e = ((subD s e).1, true)
  okt : okD (subD s e).1 = true
  tcmp : cmpD (subD s e).1 d = 0
  ea : addQ (ratD d) (ratD e) = ((addQ (ratD d) (ratD e)).1, true)
  ep : mulQ (ratD d) (ratD e) = ((mulQ (ratD d) (ratD e)).1, true)
  scmp : cmpQ (ratD s) (addQ (ratD d) (ratD e)).1 = 0
  mcmp : cmpQ (ratD m) (mulQ (ratD d) (ratD e)).1 = 0
  decmp : cmpD d e = cmpQ (ratD d) (ratD e)
theorem add_val {P X Y : Int} (hP : 0 < P) : ((X + Y : Int) : Rat) / (P : Rat) = (X : Rat) / (P : Rat) + (Y : Rat) / (P : Rat) := by
  have n := rat_ne hP
  have : ((X + Y : Int) : Rat) = (X : Rat) + (Y : Rat) := by exact_mod_cast rfl
  rw [this]
  grind
theorem sub_val {P X Y : Int} (hP : 0 < P) : ((X - Y : Int) : Rat) / (P : Rat) = (X : Rat) / (P : Rat) - (Y : Rat) / (P : Rat) := by
  have n := rat_ne hP
  have : ((X - Y : Int) : Rat) = (X : Rat) - (Y : Rat) := by exact_mod_cast rfl
  rw [this]
  grind
theorem sum_shortD {X Y : Int} (hx : (X.natAbs : Int) < bp 4) (hy : (Y.natAbs : Int) < bp 4) : ((X + Y).natAbs : Int) < bp 5 := by
  have : bp 4 + bp 4 ≤ bp 5 := bp_next 4
  omega
theorem dec_all {d e : DI} (hd : ShortD d) (he : ShortD e) : ∃ s m, DecAll d e s m := by
  have pd := partsD hd.ok
  have pe := partsD he.ok
  have t := topD_le pd pe
  have t9 : topD d e ≤ 9 := by unfold topD; split; exact he.hi; exact hd.hi
  have ld := short_lift hd t9
  have le := short_lift he t9
  have h56 : bp 5 ≤ bp 6 := bp_mono (by omega)
  have h46 : bp 4 ≤ bp 6 := bp_mono (by omega)
  have bd := ten_bd hd.ok
  have be := ten_bd he.ok
  have hs5 := sum_shortD ld le
  -- the sum
  have ys := decZ_yes (z := liftD d (topD d e) + liftD e (topD d e)) (k := topD d e) (by omega) t.2.2.1 t.2.2.2
  have es : addD d e = ((ofZ (liftD d (topD d e) + liftD e (topD d e)), topD d e), true) := by unfold addD; rw [if_pos ⟨hd.ok, he.ok⟩]; exact ys.1
  have vs : ratV (ratD (ofZ (liftD d (topD d e) + liftD e (topD d e)), topD d e)) = ratV (ratD d) + ratV (ratD e) := by
    rw [val_of (by omega) t.2.2.1 t.2.2.2, add_val (pt_pos _), lift_val hd.ok t.1, lift_val he.ok t.2.1]
  -- the product
  have hm4 := mulZ_lt (j := 2) (k := 2) hd.num he.num
  have hm4' : ((numD d * numD e).natAbs : Int) < bp 4 := hm4
  have hlo := pd.lo
  have elo := pe.lo
  have dhi := hd.hi
  have ehi := he.hi
  have ym := decZ_yes (z := numD d * numD e) (k := d.2 + e.2) (by omega) (by omega) (by omega)
  have em : mulD d e = ((ofZ (numD d * numD e), d.2 + e.2), true) := by unfold mulD; rw [if_pos ⟨hd.ok, he.ok⟩]; exact ym.1
  have vm : ratV (ratD (ofZ (numD d * numD e), d.2 + e.2)) = ratV (ratD d) * ratV (ratD e) := by
    rw [val_of (by omega) (by omega) (by omega), bd.2.2, be.2.2, pt_split hlo elo]
    have n1 := rat_ne (pt_pos d.2)
    have n2 := rat_ne (pt_pos e.2)
    have e1 : ((numD d * numD e : Int) : Rat) = (numD d : Rat) * (numD e : Rat) := by exact_mod_cast rfl
    have e2 : ((pt d.2 * pt e.2 : Int) : Rat) = (pt d.2 : Rat) * (pt e.2 : Rat) := by exact_mod_cast rfl
    rw [e1, e2]
    grind
  generalize hS : ((ofZ (liftD d (topD d e) + liftD e (topD d e)), topD d e) : DI) = s at *
  generalize hM : ((ofZ (numD d * numD e), d.2 + e.2) : DI) = m at *
  have s2 : s.2 = topD d e := by rw [← hS]
  have ns : numD s = liftD d (topD d e) + liftD e (topD d e) := ys.2.2
  have oks := ys.2.1
  -- the difference
  have te : topD s e = topD d e := by
    have := t.2.1
    unfold topD
    rw [s2]
    unfold topD at this ⊢
    split <;> split at this <;> simp_all <;> omega
  have l1 : liftD s (topD s e) = liftD d (topD d e) + liftD e (topD d e) := by
    have : liftD s (topD s e) = numD s * pt (topD s e - s.2) := rfl
    rw [this, te, s2, Int.sub_self, pt_zero, Int.mul_one, ns]
  have hl : liftD s (topD s e) - liftD e (topD s e) = liftD d (topD d e) := by rw [l1, te]; omega
  have yt := decZ_yes (z := liftD d (topD d e)) (k := topD d e) (by omega) t.2.2.1 t.2.2.2
  have et : subD s e = ((ofZ (liftD d (topD d e)), topD d e), true) := by
    unfold subD
    rw [if_pos ⟨oks, he.ok⟩, hl, te]
    exact yt.1
  have vt : ratV (ratD (ofZ (liftD d (topD d e)), topD d e)) = ratV (ratD d) := by
    rw [val_of (by omega) t.2.2.1 t.2.2.2]
    exact lift_val hd.ok t.1
  have a := add_bd bd.2.1 be.2.1 (by omega)
  have p := mul_bd bd.2.1 be.2.1 (by omega)
  have lw := lowD_ok hd.ok
  have vl : ratV (ratD (lowD d)) = ratV (ratD d) := by
    rw [← lift_val lw.1 lw.2.1, lw.2.2.1, bd.2.2]
  refine ⟨s, m, ⟨hd.ok, he.ok, oks, ym.2.1, lw.1, lw.2.1, lw.2.2.2, cmpD_same lw.1 hd.ok vl, cmpD_same hd.ok hd.ok rfl, es, em, ?_, ?_, ?_, pair_eq a.1, pair_eq p.1, ?_, ?_, cmpD_eq hd.ok he.ok⟩⟩
  · rw [et]
  · rw [et]; exact yt.2.1
  · rw [et]; exact cmpD_same yt.2.1 hd.ok vt
  · exact cmp_same (ten_bd oks).2.1 a.2.1 (by rw [vs, a.2.2])
  · exact cmp_same (ten_bd ym.2.1).2.1 p.2.1 (by rw [vm, p.2.2])
end Go.Proofs.YtbfolegllhpkjaaGreatDoor

namespace Go.Proofs.YtbfolegllhpkjaaGreatDoor
open Go.RowKit

/-- a value that stands for it, its limbs of the call's own -/
def OwnD (v : Value) (q : DI) (w : World) : Prop := ∃ u, v = .agg #[.bool q.1.1, u, .int .i64 q.2] ∧ OwnI u q.1.2 w
def MarkD (v : Value) (q : DI) (m : Int) (w : World) : Prop := ∃ u, v = .agg #[.bool q.1.1, u, .int .i64 q.2] ∧ MarkI u q.1.2 m w
/-- a value that reads as it -/
def RdD (w : World) (v : Value) (q : DI) : Prop := ∃ u, v = .agg #[.bool q.1.1, u, .int .i64 q.2] ∧ Row w 0 w.heap.size u (intsV q.1.2)
theorem OwnD.rd {v : Value} {q : DI} {w : World} (h : OwnD v q w) : RdD w v q := by
  obtain ⟨u, rfl, o⟩ := h
  exact ⟨u, rfl, o.row⟩
theorem OwnD.mk {u : Value} {q : DI} {w : World} (h : OwnI u q.1.2 w) : OwnD (.agg #[.bool q.1.1, u, .int .i64 q.2]) q w := ⟨u, rfl, h⟩
theorem OwnD.below {w W : World} {v : Value} {q : DI} (h : OwnD v q w) (hb : Below w.heap.size w W) : OwnD v q W := by
  obtain ⟨u, rfl, o⟩ := h
  exact ⟨u, rfl, own_below o hb⟩
theorem RdD.below {w W : World} {v : Value} {q : DI} (h : RdD w v q) (hb : Below w.heap.size w W) : RdD W v q := by
  obtain ⟨u, rfl, o⟩ := h
  exact ⟨u, rfl, (o.below hb (Nat.le_refl _)).wide (Nat.le_refl _) hb.size⟩
def capD (q : DI) : Prop := q.1.2.length ≤ 9223372036854775807
theorem szD_nonneg (q : DI) : 0 ≤ szD q := by unfold szD szS szI; omega
theorem szD_len {q : DI} (h : szD q ≤ 1048576) : q.1.2.length ≤ 1048576 := by unfold szD szS szI at h; omega
theorem capD_of {q : DI} (h : szD q ≤ 1048576) : capD q := by have := szD_len h; unfold capD; omega
theorem ownD_form {v : Value} {q : DI} {w : World} (h : OwnD v q w) : ∃ A c, v = .agg #[.bool q.1.1, .slice A q.1.2.length c, .int .i64 q.2] := by
  obtain ⟨u, rfl, o⟩ := h
  obtain ⟨A, c, rfl⟩ := own_len o
  exact ⟨A, c, rfl⟩
theorem rdD_form {v : Value} {q : DI} {w : World} (h : RdD w v q) : ∃ A c, v = .agg #[.bool q.1.1, .slice A q.1.2.length c, .int .i64 q.2] := by
  obtain ⟨u, rfl, o⟩ := h
  obtain ⟨A, c, rfl⟩ := row_form o
  rw [intsV_length]
  exact ⟨A, c, rfl⟩
theorem ownD_open {u c s : Value} {q : DI} {w : World} (h : OwnD (.agg #[c, u, s]) q w) : OwnI u q.1.2 w := by
  obtain ⟨u', e, hu⟩ := h
  injection e with e
  simp at e
  obtain ⟨_, e2, _⟩ := e
  subst e2
  exact hu
theorem ownS_openD {u c : Value} {x : SI} {w : World} (h : OwnS (.agg #[c, u]) x w) : OwnI u x.2 w := by
  obtain ⟨u', e, hu⟩ := h
  injection e with e
  simp at e
  obtain ⟨_, e2⟩ := e
  subst e2
  exact hu
/-- a value whose blocks stay while others are written -/
theorem newV_chg {φ : Value → World → Prop} {S T : List Nat} {v : Value} {w W : World} (o : At S (φ v) W) (hd : ∀ i ∈ S, i ∉ T) (hT : ∀ i ∈ T, w.heap.size ≤ i) (l : ∀ i ∈ S, w.heap.size ≤ i) (hW : Below w.heap.size w W) :
    ∀ W', Chg T W W' → NewV φ w (.returned v) W' :=
  fun _ hc => ⟨v, S, rfl, o.chg hc hd, fun i hi => ⟨l i hi, Nat.lt_of_lt_of_le (o.lt i hi) hc.size⟩, below_chg hW hc hW.size hT⟩
/-- what a call answers: a new decimal number and a bool -/
def PostDb (R0 : DI) (R1 : Bool) (w : World) (e : Ending) (w' : World) : Prop :=
  ∃ (v : Value) (S : List Nat), e = .returned (.tuple #[v, .bool R1]) ∧ At S (OwnD v R0) w' ∧ Within S w.heap.size w'.heap.size ∧ Below w.heap.size w w'
theorem postDb_is {q : DI × Bool} {X : DI} {b : Bool} (e : q = (X, b)) {w w' : World} {n : Ending} (h : PostDb q.1 q.2 w n w') : PostDb X b w n w' := by rw [e] at h; exact h
theorem postDb_eq {q p : DI × Bool} (e : q = p) {w w' : World} {n : Ending} (h : PostDb q.1 q.2 w n w') : PostDb p.1 p.2 w n w' := by rw [e] at h; exact h
theorem postn_eqD {a b : Int} (h : a = b) {w w' : World} {e : Ending} (k : Postn a w e w') : Postn b w e w' := h ▸ k
theorem newVD_eq {a b : DI} (e : a = b) {w w' : World} {n : Ending} (h : NewV (fun v => OwnD v a) w n w') : NewV (fun v => OwnD v b) w n w' := e ▸ h
theorem postDb_chg {S T : List Nat} {v : Value} {x : DI} {b : Bool} {w W : World} (o : At S (OwnD v x) W) (hd : ∀ i ∈ S, i ∉ T) (hT : ∀ i ∈ T, w.heap.size ≤ i) (l : ∀ i ∈ S, w.heap.size ≤ i) (hW : Below w.heap.size w W) :
    ∀ W', Chg T W W' → PostDb x b w (.returned (.tuple #[v, .bool b])) W' :=
  fun _ hc => ⟨v, S, rfl, o.chg hc hd, fun i hi => ⟨l i hi, Nat.lt_of_lt_of_le (o.lt i hi) hc.size⟩, below_chg hW hc hW.size hT⟩
theorem chg_set3 {r : Nat} {c0 c1 c2 : Value} {W : World} : Chg [r] W (((W.setCell ⟨r, 0, none⟩ c0).setCell ⟨r, 1, none⟩ c1).setCell ⟨r, 2, none⟩ c2) := (((Chg.refl _ _).setCell (by simp) _).setCell (by simp) _).setCell (by simp) _
/-- results that lie in their cells at block r -/
theorem newD_at {r B : Nat} {S : List Nat} {c0 c1 c2 : Value} {x : DI} {w W : World} (o : At S (OwnD (.agg #[c0, c1, c2]) x) W) (l : Within S B W.heap.size) (hrB : r < B) (hr : w.heap.size ≤ r) (hW : Below w.heap.size w W) :
    NewV (fun v => OwnD v x) w (.returned (.agg #[c0, c1, c2])) (((W.setCell ⟨r, 0, none⟩ c0).setCell ⟨r, 1, none⟩ c1).setCell ⟨r, 2, none⟩ c2) :=
  newV_chg o (fun i hi hm => by have := l i hi; simp at hm; omega) (fun i hi => by simp at hi; omega) (fun i hi => by have := l i hi; omega) hW _ chg_set3
theorem newDb_at {r B : Nat} {S : List Nat} {c0 c1 c2 : Value} {x : DI} {b : Bool} {w W : World} (o : At S (OwnD (.agg #[c0, c1, c2]) x) W) (l : Within S B W.heap.size) (hrB : r < B) (hr : w.heap.size ≤ r) (hW : Below w.heap.size w W) :
    PostDb x b w (.returned (.tuple #[.agg #[c0, c1, c2], .bool b])) (((W.setCell ⟨r, 0, none⟩ c0).setCell ⟨r, 1, none⟩ c1).setCell ⟨r, 2, none⟩ c2) :=
  postDb_chg o (fun i hi hm => by have := l i hi; simp at hm; omega) (fun i hi => by simp at hi; omega) (fun i hi => by have := l i hi; omega) hW _ chg_set3
theorem ownD_zero (w : World) : OwnD (.agg #[.bool false, .slice none 0 0, .int .i64 0]) zeroD w := ⟨_, rfl, World.ownsRow_nil _ _ _ _⟩
theorem atD_zero (w : World) : At [] (OwnD (.agg #[.bool false, .slice none 0 0, .int .i64 0]) zeroD) w := ⟨ownD_zero _, fun _ hg => absurd hg List.not_mem_nil, fun w' _ => ownD_zero w'⟩
theorem newDb_zero {w W : World} (b : Bool) (hW : Below w.heap.size w W) : PostDb zeroD b w (.returned (.tuple #[.agg #[.bool false, .slice none 0 0, .int .i64 0], .bool b])) W :=
  ⟨_, [], rfl, atD_zero _, fun _ hg => absurd hg List.not_mem_nil, hW⟩
theorem newD_zero {w W : World} (hW : Below w.heap.size w W) : NewV (fun v => OwnD v zeroD) w (.returned (.agg #[.bool false, .slice none 0 0, .int .i64 0])) W :=
  ⟨_, [], rfl, atD_zero _, fun _ hg => absurd hg List.not_mem_nil, hW⟩
end Go.Proofs.YtbfolegllhpkjaaGreatDoor

namespace Go.Proofs.YtbfolegllhpkjaaGreatDoor
open Go.RowKit

theorem short_of {x : SI} {k : Int} (h1 : okS x = true) (h2 : x.2.length ≤ 2) (hk : 0 ≤ k ∧ k ≤ 9) : ShortD (x, k) := by
  have hx := okS_parts h1
  have l1 := nval_lt x.2 (natOk_parts hx.1).1
  have m1 := bp_mono h2
  have n1 := nval_ok hx.1
  refine ⟨?_, ?_, hk.2⟩
  · unfold okD
    rw [h1, decide_eq_true (show (x, k).1.2.length ≤ 6 by show x.2.length ≤ 6; omega), decide_eq_true (show 0 ≤ (x, k).2 ∧ (x, k).2 ≤ 30 by show 0 ≤ k ∧ k ≤ 30; omega)]
    rfl
  · show ((valS x).natAbs : Int) < bp 2
    unfold valS
    split <;> omega
theorem pick_scale {k : Int} (h : k ∈ [0, 0, 1, 2, 2, 3, 5, 9]) : 0 ≤ k ∧ k ≤ 9 := by
  simp at h
  omega
/-- what a drawn decimal number is -/
def DrawDPost (g : Nat) (v : Value) (n : Nat) (w : World) (e : Ending) (w' : World) : Prop :=
  ∃ (u : Value) (d : DI) (S : List Nat), e = .returned u ∧ ShortD d ∧ At S (OwnD u d) w' ∧ (∀ i ∈ S, w.heap.size < i ∧ i < w'.heap.size) ∧ Cur w' g v n ∧ Chg [g] w w'
theorem drawD_at {w wx : World} {g n : Nat} {v c0 c1 c2 : Value} {q : DI} {S : List Nat} (hgl : g < w.heap.size) (hq : ShortD q) (o : At S (OwnD (.agg #[c0, c1, c2]) q) wx) (l : ∀ i ∈ S, w.heap.size < i ∧ i < wx.heap.size) (hc : Cur wx g v n) (hk : Chg [g] w wx) :
    DrawDPost g v n w (.returned (.agg #[c0, c1, c2])) (((wx.setCell ⟨w.heap.size, 0, none⟩ c0).setCell ⟨w.heap.size, 1, none⟩ c1).setCell ⟨w.heap.size, 2, none⟩ c2) := by
  have hc3 : Chg [w.heap.size] wx (((wx.setCell ⟨w.heap.size, 0, none⟩ c0).setCell ⟨w.heap.size, 1, none⟩ c1).setCell ⟨w.heap.size, 2, none⟩ c2) := (((Chg.refl _ _).setCell (by simp) _).setCell (by simp) _).setCell (by simp) _
  have hz := hc3.size
  have h1 := hk.size
  exact ⟨_, q, S, rfl, hq, o.chg hc3 (fun i hi hm => by have := (l i hi).1; simp at hm; omega), fun i hi => by have := l i hi; exact ⟨by omega, by omega⟩,
    ((hc.put (by omega)).put (by omega)).put (by omega), ((hk.setNew (p := ⟨w.heap.size, 0, none⟩) (Nat.le_refl _) _).setNew (p := ⟨w.heap.size, 1, none⟩) (Nat.le_refl _) _).setNew (p := ⟨w.heap.size, 2, none⟩) (Nat.le_refl _) _⟩
set_option maxHeartbeats 1000000 in
set_option maxRecDepth 100000 in
theorem l07Draw_any (g lo hi : Nat) (v : Value) (bs : List Nat) (w : World) (hb : ∀ b ∈ bs, b < 256) (hn : bs.length ≤ 1048576) (hc : Cur w g v bs.length) (hr : Row w lo hi v (bytesV bs)) (hg : hi ≤ g) :
    Calls Tryz.prog 19 #[.pointer (some ⟨g, 0, none⟩)] w (DrawDPost g v bs.length w) := by
  have HB := Lib.hid hb
  have hgl := hc.lt
  clear hb
  have hbb : Below w.heap.size w (w.alloc (.cells #[.bool false, .slice none 0 0, .int .i64 0] 27)) := below_al (Below.refl _ _) _
  have kr := box_new w #[.bool false, .slice none 0 0, .int .i64 0] 27
  obtain ⟨W0, hW0⟩ : ∃ W0, W0 = w.alloc (.cells #[.bool false, .slice none 0 0, .int .i64 0] 27) := ⟨_, rfl⟩
  rw [← hW0] at hbb kr
  have HW := Lib.hid hW0
  have hc0 := hc.below hbb
  have hr0 := hr.below hbb (by omega)
  have hk0 : Chg [g] w W0 := Chg.of_below hbb
  have hzr := kr.lt w.heap.size (by simp)
  clear hW0 hc hr
  go_enter Tryz.func19, Tryz.ntmps19
  go_wp2_with fail
  rw [← HW.out]
  refine (l04Draw_any g lo hi v bs _ HB.out hn hc0 hr0 hg).mono ?_
  rintro e w1 ⟨u1, x, rfl, okx, hlx, ox, hc1, hg1⟩
  obtain ⟨A1, c1, rfl⟩ := own_len ox
  have hr1 : Row w1 lo hi v (bytesV bs) := hr0.stays (fun p hp => World.cell?_of_block (hg1.block _ (by omega) (by simp; omega)))
  have hk1 := hk0.trans hg1
  have kr1 := kr.chg hg1 (fun i hi hm => by simp at hi hm; omega)
  have al := below_al (Below.refl w1.heap.size w1) (.cells #[.int .i64 0, .int .i64 0, .int .i64 1, .int .i64 2, .int .i64 2, .int .i64 3, .int .i64 5, .int .i64 9] 3)
  have lx := own_within ox
  have o1 := (own_at' ox).below al
  have hcl := hc1.lt
  clear ox hc0 hr0 hk0 kr hg1
  go_wp2_with fail
  refine (l01Pick_any [0, 0, 1, 2, 2, 3, 5, 9] _ w1.heap.size (w1.heap.size + 1) g lo hi v bs _ (by simp) (by simp) HB.out hn (hc1.alloc _) (hr1.below al (by omega)) hg (Row.lit w1 #[.int .i64 0, .int .i64 0, .int .i64 1, .int .i64 2, .int .i64 2, .int .i64 3, .int .i64 5, .int .i64 9] _) (.inr hcl)).mono ?_
  rintro e w2 ⟨p, hp, rfl, hc2, hg2⟩
  have HS := Lib.hid (short_of okx hlx (pick_scale hp))
  have hk2 := Chg.of_cur hg2
  have o2 := (o1.chg hk2 (fun i hi hm => by have := (lx i hi).1; simp at hm; omega)).imp (fun _ h => (OwnD.mk (q := (x, p)) h : OwnD (.agg #[.bool x.1, .slice A1 x.2.length c1, .int .i64 p]) (x, p) _))
  have kr2 := (kr1.below al).chg hk2 (fun i hi hm => by simp at hi hm; omega)
  have hk3 := (hk1.belowNext al).trans hk2
  have hl2 : ∀ i ∈ (Value.slice A1 x.2.length c1).ownBlock.toList, w.heap.size < i ∧ i < w2.heap.size := fun i hi => ⟨by have := (lx i hi).1; omega, o2.lt i hi⟩
  have HF := Lib.hid (drawD_at hgl HS.out o2 hl2 hc2 hk3)
  have cz0 := kr2.here.cell 0 _ rfl
  have cz1 := kr2.here.cell 1 _ rfl
  have cz2 := kr2.here.cell 2 _ rfl
  have fz0 := Lib.frozen_of_heap kr2.here 0
  have fz1 := Lib.frozen_of_heap kr2.here 1
  have fz2 := Lib.frozen_of_heap kr2.here 2
  clear hr1 hk1 kr1 o1 lx hc1 hc2 hg2 hk2 o2 kr2 hk3 hl2 hp okx al
  go_wp2
  refine bodyPost_ret (v := .agg #[.bool x.1, .slice A1 x.2.length c1, .int .i64 p]) (by simp [results, Tryz.results19, go_sem, cz0, cz1, cz2]) rfl ?_
  exact HF.out
/-- what MakeDecs gives -/
def DecsPost (w : World) (e : Ending) (w' : World) : Prop :=
  ∃ (u0 u1 : Value) (d x : DI) (S0 S1 : List Nat), e = .returned (.tuple #[u0, u1]) ∧ ShortD d ∧ ShortD x ∧ At S0 (OwnD u0 d) w' ∧ At S1 (OwnD u1 x) w' ∧ Below w.heap.size w w'
theorem set3_sameD {b : Nat} {x0 x1 x2 c0 c1 c2 : Value} {T : TypeId} {W : World} (hb : BoxAt b #[x0, x1, x2] T W) : BoxAt b #[c0, c1, c2] T (((W.setCell ⟨b, 0, none⟩ c0).setCell ⟨b, 1, none⟩ c1).setCell ⟨b, 2, none⟩ c2) := by
  have hb' : W.heap[b]? = some (.cells #[x0, x1, x2] T (0, 0)) := hb
  simp [BoxAt, World.setCell, Array.getElem?_modify, hb']
theorem set3_chgD (b : Nat) (c0 c1 c2 : Value) (W : World) : Chg [b] W (((W.setCell ⟨b, 0, none⟩ c0).setCell ⟨b, 1, none⟩ c1).setCell ⟨b, 2, none⟩ c2) := (((Chg.refl _ _).setCell (by simp) _).setCell (by simp) _).setCell (by simp) _
/-- the two results lie in their boxes -/
theorem decs_laid {s : Nat} {a0 a1 a2 b0 b1 b2 : Value} {r1 r2 : DI} {S1 S2 : List Nat} {w W : World} (hw : s = w.heap.size)
    (k0 : At [s] (BoxAt s #[.bool false, .slice none 0 0, .int .i64 0] 27) W) (k1 : At [s + 1] (BoxAt (s + 1) #[.bool false, .slice none 0 0, .int .i64 0] 27) W)
    (o1 : At S1 (OwnD (.agg #[a0, a1, a2]) r1) W) (o2 : At S2 (OwnD (.agg #[b0, b1, b2]) r2) W)
    (l1 : ∀ i ∈ S1, s + 1 < i) (l2 : ∀ i ∈ S2, s + 1 < i) (hW : Below w.heap.size w W) :
    ∃ F, F = ((((((W.setCell ⟨s, 0, none⟩ a0).setCell ⟨s, 1, none⟩ a1).setCell ⟨s, 2, none⟩ a2).setCell ⟨s + 1, 0, none⟩ b0).setCell ⟨s + 1, 1, none⟩ b1).setCell ⟨s + 1, 2, none⟩ b2) ∧
      BoxAt s #[a0, a1, a2] 27 F ∧ BoxAt (s + 1) #[b0, b1, b2] 27 F ∧ At S1 (OwnD (.agg #[a0, a1, a2]) r1) F ∧ At S2 (OwnD (.agg #[b0, b1, b2]) r2) F ∧ Below w.heap.size w F := by
  subst hw
  have h1 := set3_chgD w.heap.size a0 a1 a2 W
  have e1 := (box_at (set3_sameD (c0 := a0) (c1 := a1) (c2 := a2) k0.here))
  have k1a := k1.chg h1 (fun i hi hm => by simp at hi hm; omega)
  have o1a := o1.chg h1 (fun i hi hm => by have := l1 i hi; simp at hm; omega)
  have o2a := o2.chg h1 (fun i hi hm => by have := l2 i hi; simp at hm; omega)
  have ba := below_chg hW h1 hW.size (fun i hi => by simp at hi; omega)
  generalize (((W.setCell ⟨w.heap.size, 0, none⟩ a0).setCell ⟨w.heap.size, 1, none⟩ a1).setCell ⟨w.heap.size, 2, none⟩ a2) = X at *
  have h2 := set3_chgD (w.heap.size + 1) b0 b1 b2 X
  have e2 := set3_sameD (c0 := b0) (c1 := b1) (c2 := b2) k1a.here
  exact ⟨_, rfl, (e1.chg h2 (fun i hi hm => by simp at hi hm; omega)).here, e2,
    o1a.chg h2 (fun i hi hm => by have := l1 i hi; simp at hm; omega), o2a.chg h2 (fun i hi hm => by have := l2 i hi; simp at hm; omega), below_chg ba h2 ba.size (fun i hi => by simp at hi; omega)⟩
set_option maxHeartbeats 4000000 in
set_option maxRecDepth 100000 in
theorem makeDecs_any (v : Value) (bs : List Nat) (w : World) (hb : ∀ b ∈ bs, b < 256) (hn : bs.length ≤ 1048576) (hr : Row w 0 w.heap.size v (bytesV bs)) :
    Calls Tryz.prog 4 #[v] w (DecsPost w) := by
  have HB := Lib.hid hb
  clear hb
  have hbb : Below w.heap.size w ((w.alloc (.cells #[.bool false, .slice none 0 0, .int .i64 0] 27)).alloc (.cells #[.bool false, .slice none 0 0, .int .i64 0] 27)) := below_al (below_al (Below.refl _ _) _) _
  have ka := (box_new w #[.bool false, .slice none 0 0, .int .i64 0] 27).below (below_al (Below.refl _ _) (.cells #[.bool false, .slice none 0 0, .int .i64 0] 27))
  have kb := box_new (w.alloc (.cells #[.bool false, .slice none 0 0, .int .i64 0] 27)) #[.bool false, .slice none 0 0, .int .i64 0] 27
  rw [show (w.alloc (.cells #[.bool false, .slice none 0 0, .int .i64 0] 27)).heap.size = w.heap.size + 1 by simp] at kb
  obtain ⟨W0, hW0⟩ : ∃ W0, W0 = ((w.alloc (.cells #[.bool false, .slice none 0 0, .int .i64 0] 27)).alloc (.cells #[.bool false, .slice none 0 0, .int .i64 0] 27)) := ⟨_, rfl⟩
  rw [← hW0] at hbb ka kb
  have HW := Lib.hid hW0
  have hz0 := kb.lt (w.heap.size + 1) (by simp)
  have hr0 := hr.below hbb (Nat.le_refl _)
  clear hW0 hr
  go_enter Tryz.func4, Tryz.ntmps4
  go_wp2_with fail
  rw [← HW.out]
  refine (l01New_any 0 w.heap.size v bs _ HB.out hn hr0).mono ?_
  rintro e w1 ⟨g, hg, rfl, hc1, b1⟩
  have hr1 := hr0.below b1 (by omega)
  replace ka := ka.below b1
  replace kb := kb.below b1
  have bb1 := Below.next hbb b1
  have hgl := hc1.lt
  clear hr0 hbb
  go_wp2_with fail
  refine (l07Draw_any g 0 w.heap.size v bs _ HB.out hn hc1 hr1 (by omega)).mono ?_
  rintro e w2 ⟨u1, d, Sd, rfl, hbd, o_d, l_d, hc2, hk2⟩
  obtain ⟨Ad, cd, rfl⟩ := ownD_form o_d.here
  have HBD := Lib.hid hbd
  have hr2 : Row w2 0 w.heap.size v (bytesV bs) := hr1.stays (fun p hp => World.cell?_of_block (hk2.block _ (by omega) (by simp; omega)))
  replace ka := ka.chg hk2 (fun i hi hm => by simp at hi hm; omega)
  replace kb := kb.chg hk2 (fun i hi hm => by simp at hi hm; omega)
  have bb2 := below_chg bb1 hk2 bb1.size (fun i hi => by simp at hi; omega)
  have hz2 := hk2.size
  have hx := below_al (Below.refl w2.heap.size w2) (.cells #[.bool d.1.1, .slice Ad d.1.2.length cd, .int .i64 d.2] 27)
  have k6 := box_new w2 #[.bool d.1.1, .slice Ad d.1.2.length cd, .int .i64 d.2] 27
  obtain ⟨W2, hW2⟩ : ∃ W2, W2 = w2.alloc (.cells #[.bool d.1.1, .slice Ad d.1.2.length cd, .int .i64 d.2] 27) := ⟨_, rfl⟩
  rw [← hW2] at hx k6
  have HW2 := Lib.hid hW2
  replace o_d := o_d.below hx
  replace ka := ka.below hx
  replace kb := kb.below hx
  have hc3 := hc2.below hx
  have hr3 := hr2.below hx (by have := bb2.size; omega)
  have bb3 := Below.next bb2 hx
  have hz3 := k6.lt w2.heap.size (by simp)
  have LD := Lib.hid (show ∀ i ∈ Sd, g < i ∧ w.heap.size + 1 < i from fun i hi => by have := (l_d i hi).1; omega)
  clear hW2 hbd hr1 hr2 hc1 hc2 hk2 hx bb1 bb2 l_d
  have cx0 := k6.here.cell 0 _ rfl
  have cx1 := k6.here.cell 1 _ rfl
  have cx2 := k6.here.cell 2 _ rfl
  go_upto_region 3 with fail
  rw [← HW2.out]
  go_cut [] (fun wx => ∃ (t : DI) (At_ : Option Addr) (ct : Nat) (St : List Nat), ShortD t ∧ BoxAt w.heap.size #[.bool d.1.1, .slice Ad d.1.2.length cd, .int .i64 d.2] 27 wx ∧ BoxAt (w.heap.size + 1) #[.bool t.1.1, .slice At_ t.1.2.length ct, .int .i64 t.2] 27 wx ∧ At Sd (OwnD (.agg #[.bool d.1.1, .slice Ad d.1.2.length cd, .int .i64 d.2]) d) wx ∧ At St (OwnD (.agg #[.bool t.1.1, .slice At_ t.1.2.length ct, .int .i64 t.2]) t) wx ∧ Below w.heap.size w wx)
  case first =>
    have HC := Lib.hid (show Cur W2.drew g v bs.length from hc3)
    have HR := Lib.hid (show Row W2.drew 0 w.heap.size v (bytesV bs) from hr3)
    have H6 := Lib.hid (k6.drewN 1)
    have HA := Lib.hid (ka.drewN 1)
    have HBx := Lib.hid (kb.drewN 1)
    have HOD := Lib.hid (o_d.drewN 1)
    have HBB := Lib.hid (show Below w.heap.size w W2.drew from bb3.drew)
    have hwz : W2.drew.heap.size = W2.heap.size := rfl
    clear hc3 hr3 k6 ka kb o_d bb3
    go_region_with (go_at_call 19; refine (l07Draw_any g 0 w.heap.size v bs _ HB.out hn HC.out HR.out (by omega)).mono ?_; rintro e w4 ⟨u3, t, St, rfl, hbt, o_t, l_t, hc6, hk6⟩; obtain ⟨At_, ct, rfl⟩ := ownD_form o_t.here; have k6b := H6.out.chg hk6 (fun i hi hm => by simp at hi hm; omega); have kab := HA.out.chg hk6 (fun i hi hm => by simp at hi hm; omega); have kbb := HBx.out.chg hk6 (fun i hi hm => by simp at hi hm; omega); (have dx0 := k6b.here.cell 0 _ rfl); (have dx1 := k6b.here.cell 1 _ rfl); (have dx2 := k6b.here.cell 2 _ rfl); (have da0 := kab.here.cell 0 _ rfl); (have da1 := kab.here.cell 1 _ rfl); (have da2 := kab.here.cell 2 _ rfl); (have db0 := kbb.here.cell 0 _ rfl); (have db1 := kbb.here.cell 1 _ rfl); (have db2 := kbb.here.cell 2 _ rfl); (have fa0 := Lib.frozen_of_heap kab.here 0); (have fa1 := Lib.frozen_of_heap kab.here 1); (have fa2 := Lib.frozen_of_heap kab.here 2); (have fb0 := Lib.frozen_of_heap kbb.here 0); (have fb1 := Lib.frozen_of_heap kbb.here 1); (have fb2 := Lib.frozen_of_heap kbb.here 2); have HOT := Lib.hid (And.intro hbt o_t); have HLT := Lib.hid l_t; have HK := Lib.hid hk6; have HKA := Lib.hid kab; have HKB := Lib.hid kbb; clear k6b kab kbb o_t l_t hc6 hk6 hbt)
    all_goals
      go_wp2_with fail
      go_meet
      obtain ⟨F, hF, f1, f2, f4, f5, f7⟩ := decs_laid (w := w) rfl HKA.out HKB.out (HOD.out.chg HK.out (fun i hi hm => by have := (LD.out i hi).1; simp at hm; omega)) HOT.out.2 (fun i hi => (LD.out i hi).2) (fun i hi => by have := (HLT.out i hi).1; omega) (below_chg HBB.out HK.out HBB.out.size (fun i hi => by rw [List.mem_singleton.1 hi]; omega))
      rw [← hF]
      exact ⟨t, At_, ct, St, HOT.out.1, f1, f2, f4, f5, f7⟩
  rename World => w5
  obtain ⟨t, At_, ct, St, hbt, k1, k2, o1, o2, bb6⟩ := hcut
  have ca0 := k1.cell 0 _ rfl
  have ca1 := k1.cell 1 _ rfl
  have ca2 := k1.cell 2 _ rfl
  have cb0 := k2.cell 0 _ rfl
  have cb1 := k2.cell 1 _ rfl
  have cb2 := k2.cell 2 _ rfl
  have HFIN := Lib.hid (show DecsPost w (.returned (.tuple #[.agg #[.bool d.1.1, .slice Ad d.1.2.length cd, .int .i64 d.2], .agg #[.bool t.1.1, .slice At_ t.1.2.length ct, .int .i64 t.2]])) w5 from ⟨_, _, d, t, Sd, St, rfl, HBD.out, hbt, o1, o2, bb6⟩)
  clear cx0 cx1 cx2 k1 k2 o1 o2 bb6
  go_wp2
  refine bodyPost_ret (v := .tuple #[.agg #[.bool d.1.1, .slice Ad d.1.2.length cd, .int .i64 d.2], .agg #[.bool t.1.1, .slice At_ t.1.2.length ct, .int .i64 t.2]]) (by simp [results, Tryz.results4, go_sem, ca0, ca1, ca2, cb0, cb1, cb2]) rfl ?_
  exact HFIN.out
end Go.Proofs.YtbfolegllhpkjaaGreatDoor

namespace Go.Proofs.YtbfolegllhpkjaaGreatDoor
open Go.RowKit

set_option maxHeartbeats 400000 in
set_option maxRecDepth 100000 in
theorem limbAt_any (v : Value) (xs : List Int) (p : Int) (lo hi : Nat) (w : World) (_hl : xs.length ≤ 1048576) (hr : Row w lo hi v (intsV xs)) :
    Calls Tryz.prog 145 #[v, .int .i64 p] w fun e w' => e = .returned (.int .i64 (if p < 0 then 0 else xs.getD p.toNat 0)) ∧ w = w' := by
  obtain ⟨A, c, rfl, hA⟩ := hr
  rw [intsV_length]
  by_cases h0 : p < 0
  · rw [if_pos h0]
    go_enter Tryz.func145, Tryz.ntmps145
    go_wp2
    go_ret
    exact ⟨rfl, rfl⟩
  · rw [if_neg h0]
    obtain ⟨n, rfl⟩ := Int.eq_ofNat_of_zero_le (show 0 ≤ p by omega)
    rw [Int.toNat_natCast]
    by_cases h1 : n < xs.length
    · obtain ⟨a, rfl, _, _, hca⟩ := hA n _ (intsV_at xs n h1)
      rw [List.getD_eq_getElem?_getD, List.getElem?_eq_getElem h1, Option.getD_some]
      clear h0
      generalize xs[n] = x at *
      go_enter Tryz.func145, Tryz.ntmps145
      go_wp2
      go_ret
      exact ⟨rfl, rfl⟩
    · rw [List.getD_eq_getElem?_getD, List.getElem?_eq_none (by omega)]
      clear h0
      go_enter Tryz.func145, Tryz.ntmps145
      go_wp2
      go_ret
      exact ⟨rfl, rfl⟩
theorem TwoRows.postII {xs ys : List Int} {w w' : World} {e : Ending} (h : TwoRows xs ys w e w') : PostII xs ys w e w' := by
  obtain ⟨v1, v2, rfl, o1, o2, ap, b⟩ := h
  exact ⟨v1, _, v2, _, rfl, own_at o1, own_at o2, own_within o1, own_within o2, fun g h1 h2 => ap g g (by simpa using h1) (by simpa using h2) rfl, b⟩
end Go.Proofs.YtbfolegllhpkjaaGreatDoor

namespace Go.Proofs
open Go.Shelf
def Tryz.lays169_ren : Go.Shelf.Ren := ⟨fun | 169 => 65 | n => n, fun | 70 => 96 | 9 => 9 | 0 => 0 | 72 => 98 | 37 => 22 | 127 => 140 | 3 => 3 | 5 => 5 | n => n, fun | n => n⟩
theorem Tryz.lays169 : Go.Proofs.Lays.n169 Tryz.prog Tryz.lays169_ren := {
  mixed := by kernel_rfl
  f169 := Tryz.func65.trans (congrArg some (by kernel_rfl))
  t0 := Tryz.underlying0
  a0 := Tryz.isAgg0
  z0 := Tryz.sizeOf0
  v0 := Tryz.zeroValue0
  t3 := Tryz.underlying3
  a3 := Tryz.isAgg3
  z3 := Tryz.sizeOf3
  v3 := Tryz.zeroValue3
  t9 := Tryz.underlying9
  a9 := Tryz.isAgg9
  z9 := Tryz.sizeOf9
  v9 := Tryz.zeroValue9
  t37 := Tryz.underlying22
  a37 := Tryz.isAgg22
  z37 := Tryz.sizeOf22
  v37 := Tryz.zeroValue22
  t70 := Tryz.underlying96
  a70 := Tryz.isAgg96
  z70 := Tryz.sizeOf96
  v70 := Tryz.zeroValue96
  t72 := Tryz.underlying98
  a72 := Tryz.isAgg98
  z72 := Tryz.sizeOf98
  v72 := Tryz.zeroValue98
  t127 := Tryz.underlying140
  a127 := Tryz.isAgg140
  z127 := Tryz.sizeOf140
  v127 := Tryz.zeroValue140 }
theorem Tryz.Builder_Extra_169 : Builder.Extra Tryz.prog Tryz.lays169_ren := {
  sizeBuilder := by kernel_rfl
  liesBuilder := by kernel_rfl
  t5 := Tryz.underlying5
  a5 := Tryz.isAgg5
  z5 := Tryz.sizeOf5
  v5 := Tryz.zeroValue5
  infoByte := by kernel_rfl
  cellsByte := by kernel_rfl
  sizeByte := by kernel_rfl
  neB5 := by decide }
def Tryz.lays231_ren : Go.Shelf.Ren := ⟨fun | 231 => 55 | n => n, fun | 9 => 9 | 5 => 5 | 3 => 3 | 4 => 4 | n => n, fun | n => n⟩
theorem Tryz.lays231 : Go.Proofs.Lays.n231 Tryz.prog Tryz.lays231_ren := {
  mixed := by kernel_rfl
  f231 := Tryz.func55.trans (congrArg some (by kernel_rfl))
  t3 := Tryz.underlying3
  a3 := Tryz.isAgg3
  z3 := Tryz.sizeOf3
  v3 := Tryz.zeroValue3
  t4 := Tryz.underlying4
  a4 := Tryz.isAgg4
  z4 := Tryz.sizeOf4
  v4 := Tryz.zeroValue4
  t5 := Tryz.underlying5
  a5 := Tryz.isAgg5
  z5 := Tryz.sizeOf5
  v5 := Tryz.zeroValue5
  t9 := Tryz.underlying9
  a9 := Tryz.isAgg9
  z9 := Tryz.sizeOf9
  v9 := Tryz.zeroValue9 }
open Go.RowKit in
theorem Tryz.strings_trimLeftByte (s : ByteArray) (c : UInt8) (w : World) :
    Calls Tryz.prog 55 #[.string s, .int .u8 c.toNat] w fun e w' => e = .returned (.string ⟨(Lib.trimLeftB s.data.toList c).toArray⟩) ∧ w' = w := Any.strings_trimLeftByte Tryz.lays231 s c w
def Tryz.lays134_ren : Go.Shelf.Ren := ⟨fun | 134 => 159 | 129 => 155 | n => n, fun | 53 => 160 | 3 => 3 | 4 => 4 | 46 => 135 | 5 => 5 | 9 => 9 | n => n, fun | n => n⟩
theorem Tryz.lays134 : Go.Proofs.Lays.n134 Tryz.prog Tryz.lays134_ren := {
  mixed := by kernel_rfl
  f129 := Tryz.func155.trans (congrArg some (by kernel_rfl))
  f134 := Tryz.func159.trans (congrArg some (by kernel_rfl))
  t3 := Tryz.underlying3
  a3 := Tryz.isAgg3
  z3 := Tryz.sizeOf3
  v3 := Tryz.zeroValue3
  t4 := Tryz.underlying4
  a4 := Tryz.isAgg4
  z4 := Tryz.sizeOf4
  v4 := Tryz.zeroValue4
  t5 := Tryz.underlying5
  a5 := Tryz.isAgg5
  z5 := Tryz.sizeOf5
  v5 := Tryz.zeroValue5
  t9 := Tryz.underlying9
  a9 := Tryz.isAgg9
  z9 := Tryz.sizeOf9
  v9 := Tryz.zeroValue9
  t46 := Tryz.underlying135
  a46 := Tryz.isAgg135
  z46 := Tryz.sizeOf135
  v46 := Tryz.zeroValue135
  t53 := Tryz.underlying160
  a53 := Tryz.isAgg160
  z53 := Tryz.sizeOf160
  v53 := Tryz.zeroValue160 }
theorem Tryz.bits_LeadingZeros64 (x : Int) (w : World) (h0 : 0 ≤ x) (h1 : x ≤ 18446744073709551615) :
    Calls Tryz.prog 159 #[.int .u64 x] w fun e w' => e = .returned (.int .i64 (64 - (Lib.bitLen x.toNat : Int))) ∧ w' = w := Any.bits_LeadingZeros64 Tryz.lays134 x w h0 h1
def Tryz.lays103_ren : Go.Shelf.Ren := ⟨fun | 103 => 20 | 210 => 50 | 206 => 86 | n => n, fun | 9 => 9 | 4 => 4 | 24 => 48 | 3 => 3 | n => n, fun | n => n⟩
theorem Tryz.lays103 : Go.Proofs.Lays.n103 Tryz.prog Tryz.lays103_ren := {
  mixed := by kernel_rfl
  f103 := Tryz.func20.trans (congrArg some (by kernel_rfl))
  f206 := Tryz.func86.trans (congrArg some (by kernel_rfl))
  f210 := Tryz.func50.trans (congrArg some (by kernel_rfl))
  t3 := Tryz.underlying3
  a3 := Tryz.isAgg3
  z3 := Tryz.sizeOf3
  v3 := Tryz.zeroValue3
  t4 := Tryz.underlying4
  a4 := Tryz.isAgg4
  z4 := Tryz.sizeOf4
  v4 := Tryz.zeroValue4
  t9 := Tryz.underlying9
  a9 := Tryz.isAgg9
  z9 := Tryz.sizeOf9
  v9 := Tryz.zeroValue9
  t24 := Tryz.underlying48
  a24 := Tryz.isAgg48
  z24 := Tryz.sizeOf48
  v24 := Tryz.zeroValue48 }
open Go.RowKit in
theorem Tryz.strings_CutPrefix (s p : ByteArray) (w : World) :
    Calls Tryz.prog 20 #[.string s, .string p] w fun e w' => e = .returned (.tuple #[.string ⟨(Lib.trimPrefix s.data.toList p.data.toList).toArray⟩, .bool (Lib.hasPrefix s.data.toList p.data.toList)]) ∧ w' = w := Any.strings_CutPrefix Tryz.lays103 s p w
open Go.RowKit in
theorem Tryz.Builder_String_any_k (B b : Nat) (l : List UInt8) (w : World) (h : Lib.IsBuilderF 98 5 B b (Lib.byteCells l) w) (hBw : B ≤ w.heap.size) :
    Calls Tryz.prog 65 #[.pointer (some ⟨b, 0, none⟩)] w fun e w' => e = .returned (.string ⟨l.toArray⟩) ∧ (Lib.IsBuilderF 98 5 B b (Lib.byteCells l) w' ∧ Below B w w' ∧ Lib.OthersKept 5 (some b) w w') := Any.Builder_String_any_k Tryz.lays169 Tryz.Builder_Extra_169 B b l w h hBw
def Tryz.laysM171_ren : Go.Shelf.Ren := ⟨fun | 171 => 96 | 243 => 123 | 246 => 144 | 283 => 148 | 284 => 149 | 285 => 150 | 286 => 151 | 129 => 155 | 317 => 154 | 318 => 156 | 319 => 157 | 320 => 158 | 337 => 160 | 338 => 161 | n => n, fun | 3 => 3 | 9 => 9 | 2 => 2 | 4 => 4 | 171 => 190 | 0 => 0 | 53 => 160 | 37 => 22 | 5 => 5 | 173 => 193 | 212 => 197 | 51 => 157 | 20 => 20 | 213 => 198 | 46 => 135 | 232 => 201 | 233 => 202 | n => n, fun | 17 => 4 | 18 => 7 | 19 => 8 | n => n⟩
theorem Tryz.laysM171 : Go.Proofs.LaysM.n171 Tryz.prog Tryz.laysM171_ren := {
  mixed := by kernel_rfl
  f129 := Tryz.func155.trans (congrArg some (by kernel_rfl))
  f171 := Tryz.func96.trans (congrArg some (by kernel_rfl))
  f243 := Tryz.func123.trans (congrArg some (by kernel_rfl))
  f246 := Tryz.func144.trans (congrArg some (by kernel_rfl))
  f283 := Tryz.func148.trans (congrArg some (by kernel_rfl))
  f284 := Tryz.func149.trans (congrArg some (by kernel_rfl))
  f285 := Tryz.func150.trans (congrArg some (by kernel_rfl))
  f286 := Tryz.func151.trans (congrArg some (by kernel_rfl))
  f317 := Tryz.func154.trans (congrArg some (by kernel_rfl))
  f318 := Tryz.func156.trans (congrArg some (by kernel_rfl))
  f319 := Tryz.func157.trans (congrArg some (by kernel_rfl))
  f320 := Tryz.func158.trans (congrArg some (by kernel_rfl))
  f337 := Tryz.func160.trans (congrArg some (by kernel_rfl))
  f338 := Tryz.func161.trans (congrArg some (by kernel_rfl))
  t0 := Tryz.underlying0
  a0 := Tryz.isAgg0
  z0 := Tryz.sizeOf0
  v0 := Tryz.zeroValue0
  t2 := Tryz.underlying2
  a2 := Tryz.isAgg2
  z2 := Tryz.sizeOf2
  v2 := Tryz.zeroValue2
  t3 := Tryz.underlying3
  a3 := Tryz.isAgg3
  z3 := Tryz.sizeOf3
  v3 := Tryz.zeroValue3
  t4 := Tryz.underlying4
  a4 := Tryz.isAgg4
  z4 := Tryz.sizeOf4
  v4 := Tryz.zeroValue4
  t5 := Tryz.underlying5
  a5 := Tryz.isAgg5
  z5 := Tryz.sizeOf5
  v5 := Tryz.zeroValue5
  t9 := Tryz.underlying9
  a9 := Tryz.isAgg9
  z9 := Tryz.sizeOf9
  v9 := Tryz.zeroValue9
  t20 := Tryz.underlying20
  a20 := Tryz.isAgg20
  z20 := Tryz.sizeOf20
  v20 := Tryz.zeroValue20
  t37 := Tryz.underlying22
  a37 := Tryz.isAgg22
  z37 := Tryz.sizeOf22
  v37 := Tryz.zeroValue22
  t46 := Tryz.underlying135
  a46 := Tryz.isAgg135
  z46 := Tryz.sizeOf135
  v46 := Tryz.zeroValue135
  t51 := Tryz.underlying157
  a51 := Tryz.isAgg157
  z51 := Tryz.sizeOf157
  v51 := Tryz.zeroValue157
  t53 := Tryz.underlying160
  a53 := Tryz.isAgg160
  z53 := Tryz.sizeOf160
  v53 := Tryz.zeroValue160
  t171 := Tryz.underlying190
  a171 := Tryz.isAgg190
  z171 := Tryz.sizeOf190
  v171 := Tryz.zeroValue190
  t173 := Tryz.underlying193
  a173 := Tryz.isAgg193
  z173 := Tryz.sizeOf193
  v173 := Tryz.zeroValue193
  t212 := Tryz.underlying197
  a212 := Tryz.isAgg197
  z212 := Tryz.sizeOf197
  v212 := Tryz.zeroValue197
  t213 := Tryz.underlying198
  a213 := Tryz.isAgg198
  z213 := Tryz.sizeOf198
  t232 := Tryz.underlying201
  a232 := Tryz.isAgg201
  z232 := Tryz.sizeOf201
  v232 := Tryz.zeroValue201
  t233 := Tryz.underlying202
  a233 := Tryz.isAgg202
  z233 := Tryz.sizeOf202
  v233 := Tryz.zeroValue202
  g17 := by kernel_rfl
  g18 := by kernel_rfl
  g19 := by kernel_rfl
  i0 := by kernel_rfl
  i2 := by kernel_rfl
  i3 := by kernel_rfl
  i4 := by kernel_rfl
  i5 := by kernel_rfl
  i9 := by kernel_rfl
  i20 := by kernel_rfl
  i37 := by kernel_rfl
  i46 := by kernel_rfl
  i51 := by kernel_rfl
  i53 := by kernel_rfl
  i171 := by kernel_rfl
  i173 := by kernel_rfl
  i212 := by kernel_rfl
  i232 := by kernel_rfl
  i233 := by kernel_rfl
  m17 := by kernel_rfl
  m18 := by kernel_rfl
  m19 := by kernel_rfl }
open Go.RowKit Go.Sort Go.Lib in
theorem Tryz.strconv_Itoa (n : Int) (h0 : -9223372036854775808 ≤ n) (h1 : n ≤ 9223372036854775807) (w : World) (htab : Lib.TabIs Tryz.prog w "internal/strconv.uint64pow10" .u64 Lib.pow10Tab) :
    Calls Tryz.prog 96 #[.int .i64 n] w fun e w' => e = .returned (.string ⟨(Lib.itoa n).toArray⟩) ∧ ∃ k os, w' = grow (w.drewN k) os := Any.strconv_Itoa Tryz.laysM171 n h0 h1 w htab
def Tryz.lays219_ren : Go.Shelf.Ren := ⟨fun | 219 => 87 | 217 => 114 | 225 => 115 | 224 => 116 | 267 => 117 | 266 => 139 | 314 => 140 | n => n, fun | 9 => 9 | 3 => 3 | 4 => 4 | 5 => 5 | 46 => 135 | 146 => 158 | 51 => 157 | n => n, fun | 1 => 1 | n => n⟩
theorem Tryz.lays219 : Go.Proofs.Lays.n219 Tryz.prog Tryz.lays219_ren := {
  mixed := by kernel_rfl
  f217 := Tryz.func114.trans (congrArg some (by kernel_rfl))
  f219 := Tryz.func87.trans (congrArg some (by kernel_rfl))
  f224 := Tryz.func116.trans (congrArg some (by kernel_rfl))
  f225 := Tryz.func115.trans (congrArg some (by kernel_rfl))
  f266 := Tryz.func139.trans (congrArg some (by kernel_rfl))
  f267 := Tryz.func117.trans (congrArg some (by kernel_rfl))
  f314 := Tryz.func140.trans (congrArg some (by kernel_rfl))
  t3 := Tryz.underlying3
  a3 := Tryz.isAgg3
  z3 := Tryz.sizeOf3
  v3 := Tryz.zeroValue3
  t4 := Tryz.underlying4
  a4 := Tryz.isAgg4
  z4 := Tryz.sizeOf4
  v4 := Tryz.zeroValue4
  t5 := Tryz.underlying5
  a5 := Tryz.isAgg5
  z5 := Tryz.sizeOf5
  v5 := Tryz.zeroValue5
  t9 := Tryz.underlying9
  a9 := Tryz.isAgg9
  z9 := Tryz.sizeOf9
  v9 := Tryz.zeroValue9
  t46 := Tryz.underlying135
  a46 := Tryz.isAgg135
  z46 := Tryz.sizeOf135
  v46 := Tryz.zeroValue135
  t51 := Tryz.underlying157
  a51 := Tryz.isAgg157
  z51 := Tryz.sizeOf157
  v51 := Tryz.zeroValue157
  t146 := Tryz.underlying158
  a146 := Tryz.isAgg158
  z146 := Tryz.sizeOf158
  v146 := Tryz.zeroValue158
  g1 := by kernel_rfl }
open Go.RowKit Go.Lib in
theorem Tryz.stringslite_Index_one (s : ByteArray) (c : UInt8) (w : World) :
    Calls Tryz.prog 87 #[.string s, .string ⟨#[c]⟩] w fun e w' => e = .returned (.int .i64 (Lib.indexByte s.data.toList c)) ∧ w' = w := Any.stringslite_Index_one Tryz.lays219 s c w
def Tryz.lays264_ren : Go.Shelf.Ren := ⟨fun | 264 => 121 | n => n, fun | 53 => 160 | 46 => 135 | n => n, fun | n => n⟩
theorem Tryz.lays264 : Go.Proofs.Lays.n264 Tryz.prog Tryz.lays264_ren := {
  mixed := by kernel_rfl
  f264 := Tryz.func121.trans (congrArg some (by kernel_rfl))
  t46 := Tryz.underlying135
  a46 := Tryz.isAgg135
  z46 := Tryz.sizeOf135
  v46 := Tryz.zeroValue135
  t53 := Tryz.underlying160
  a53 := Tryz.isAgg160
  z53 := Tryz.sizeOf160
  v53 := Tryz.zeroValue160 }
open Go.RowKit Go.Lib in
theorem Tryz.bits_Mul64 (x y : Nat) (hx : x < 18446744073709551616) (hy : y < 18446744073709551616) (w : World) :
    Calls Tryz.prog 121 #[.int .u64 x, .int .u64 y] w fun e w' => e = .returned (.tuple #[.int .u64 ((x * y / 18446744073709551616 : Nat) : Int), .int .u64 ((x * y % 18446744073709551616 : Nat) : Int)]) ∧ w' = w := Any.bits_Mul64 Tryz.lays264 x y hx hy w
def Tryz.lays105_ren : Go.Shelf.Ren := ⟨fun | 105 => 60 | 212 => 92 | 99 => 93 | 165 => 94 | 166 => 64 | 170 => 95 | 169 => 65 | 263 => 120 | 264 => 121 | 206 => 86 | 240 => 97 | 241 => 122 | 276 => 124 | 277 => 143 | n => n, fun | 9 => 9 | 3 => 3 | 4 => 4 | 20 => 20 | 0 => 0 | 46 => 135 | 109 => 136 | 5 => 5 | 72 => 98 | 76 => 101 | 51 => 157 | 146 => 158 | 53 => 160 | 148 => 161 | 70 => 96 | 37 => 22 | 75 => 100 | 127 => 140 | 164 => 163 | 80 => 103 | n => n, fun | n => n⟩
theorem Tryz.lays105 : Go.Proofs.Lays.n105 Tryz.prog Tryz.lays105_ren := {
  mixed := by kernel_rfl
  f99 := Tryz.func93.trans (congrArg some (by kernel_rfl))
  f105 := Tryz.func60.trans (congrArg some (by kernel_rfl))
  f165 := Tryz.func94.trans (congrArg some (by kernel_rfl))
  f166 := Tryz.func64.trans (congrArg some (by kernel_rfl))
  f169 := Tryz.func65.trans (congrArg some (by kernel_rfl))
  f170 := Tryz.func95.trans (congrArg some (by kernel_rfl))
  f206 := Tryz.func86.trans (congrArg some (by kernel_rfl))
  f212 := Tryz.func92.trans (congrArg some (by kernel_rfl))
  f240 := Tryz.func97.trans (congrArg some (by kernel_rfl))
  f241 := Tryz.func122.trans (congrArg some (by kernel_rfl))
  f263 := Tryz.func120.trans (congrArg some (by kernel_rfl))
  f264 := Tryz.func121.trans (congrArg some (by kernel_rfl))
  f276 := Tryz.func124.trans (congrArg some (by kernel_rfl))
  f277 := Tryz.func143.trans (congrArg some (by kernel_rfl))
  t0 := Tryz.underlying0
  a0 := Tryz.isAgg0
  z0 := Tryz.sizeOf0
  v0 := Tryz.zeroValue0
  t3 := Tryz.underlying3
  a3 := Tryz.isAgg3
  z3 := Tryz.sizeOf3
  v3 := Tryz.zeroValue3
  t4 := Tryz.underlying4
  a4 := Tryz.isAgg4
  z4 := Tryz.sizeOf4
  v4 := Tryz.zeroValue4
  t5 := Tryz.underlying5
  a5 := Tryz.isAgg5
  z5 := Tryz.sizeOf5
  v5 := Tryz.zeroValue5
  t9 := Tryz.underlying9
  a9 := Tryz.isAgg9
  z9 := Tryz.sizeOf9
  v9 := Tryz.zeroValue9
  t20 := Tryz.underlying20
  a20 := Tryz.isAgg20
  z20 := Tryz.sizeOf20
  v20 := Tryz.zeroValue20
  t37 := Tryz.underlying22
  a37 := Tryz.isAgg22
  z37 := Tryz.sizeOf22
  v37 := Tryz.zeroValue22
  t46 := Tryz.underlying135
  a46 := Tryz.isAgg135
  z46 := Tryz.sizeOf135
  v46 := Tryz.zeroValue135
  t51 := Tryz.underlying157
  a51 := Tryz.isAgg157
  z51 := Tryz.sizeOf157
  v51 := Tryz.zeroValue157
  t53 := Tryz.underlying160
  a53 := Tryz.isAgg160
  z53 := Tryz.sizeOf160
  v53 := Tryz.zeroValue160
  t70 := Tryz.underlying96
  a70 := Tryz.isAgg96
  z70 := Tryz.sizeOf96
  v70 := Tryz.zeroValue96
  t72 := Tryz.underlying98
  a72 := Tryz.isAgg98
  z72 := Tryz.sizeOf98
  v72 := Tryz.zeroValue98
  t75 := Tryz.underlying100
  a75 := Tryz.isAgg100
  z75 := Tryz.sizeOf100
  v75 := Tryz.zeroValue100
  t76 := Tryz.underlying101
  a76 := Tryz.isAgg101
  z76 := Tryz.sizeOf101
  v76 := Tryz.zeroValue101
  t109 := Tryz.underlying136
  a109 := Tryz.isAgg136
  z109 := Tryz.sizeOf136
  v109 := Tryz.zeroValue136
  t127 := Tryz.underlying140
  a127 := Tryz.isAgg140
  z127 := Tryz.sizeOf140
  v127 := Tryz.zeroValue140
  t146 := Tryz.underlying158
  a146 := Tryz.isAgg158
  z146 := Tryz.sizeOf158
  v146 := Tryz.zeroValue158
  t148 := Tryz.underlying161
  a148 := Tryz.isAgg161
  z148 := Tryz.sizeOf161
  v148 := Tryz.zeroValue161
  t164 := Tryz.underlying163
  a164 := Tryz.isAgg163
  z164 := Tryz.sizeOf163
  v164 := Tryz.zeroValue163 }
theorem Tryz.Builder_Extra_105 : Builder.Extra Tryz.prog Tryz.lays105_ren := {
  sizeBuilder := by kernel_rfl
  liesBuilder := by kernel_rfl
  t5 := Tryz.underlying5
  a5 := Tryz.isAgg5
  z5 := Tryz.sizeOf5
  v5 := Tryz.zeroValue5
  infoByte := by kernel_rfl
  cellsByte := by kernel_rfl
  sizeByte := by kernel_rfl
  neB5 := by decide }
open Go.RowKit Go.Lib in
theorem Tryz.strings_Repeat (s : ByteArray) (c : Nat) (w : World) (hc : c ≤ 9223372036854775807) (hlen : s.size * c ≤ 140737488355328) :
    Calls Tryz.prog 60 #[.string s, .int .i64 c] w fun e w' => e = .returned (.string ⟨(Lib.repeatL s.data.toList c).toArray⟩) ∧ Below w.heap.size w w' := Any.strings_Repeat Tryz.lays105 Tryz.Builder_Extra_105 s c w hc hlen
end Go.Proofs

namespace Go.Proofs.YtbfolegllhpkjaaGreatDoor
open Go.RowKit

/-- the decimal numeral of an int -/
def numB (n : Int) : ByteArray := ⟨(Lib.itoa n).toArray⟩
/-- one byte as a text -/
def byteB (c : Int) : ByteArray := ⟨#[UInt8.ofNat c.toNat]⟩

/-- string([]byte{c}), the cell known -/
theorem conv_cell (W : World) (b : Nat) (c : Int) (h : W.cell? ⟨b, 0, none⟩ = some (.int .u8 c)) : (convert 22 9 (.slice (some ⟨b, 0, none⟩) 1 1)).run Tryz.prog W = .ok (.string (byteB c)) W := by
  rw [run_convert_bytes_string _ 22 9 5 _ _ _ Tryz.underlying22 Tryz.underlying5 Tryz.underlying9]
  rw [run_bytesToString _ _ 1 1 [c] ?_]
  · rfl
  · simp [loadCells, loadCellsFrom, go_sem, Addr.add, h]

theorem dec_small (u : Nat) (h : u < 10) : Lib.decDigits u = [UInt8.ofNat (48 + u)] := by rw [Lib.decDigits, dif_pos h]
theorem dec_big (u : Nat) (h : ¬ u < 10) : Lib.decDigits u = Lib.decDigits (u / 10) ++ [UInt8.ofNat (48 + u % 10)] := by rw [Lib.decDigits, dif_neg h]
theorem num_neg_small (n : Int) (h : n < 0) (h1 : -10 < n) : (⟨#[45]⟩ : ByteArray) ++ byteB (48 - n) = numB n := by
  unfold numB byteB Lib.itoa
  rw [if_pos h, dec_small _ (by omega), show (48 - n).toNat = 48 + n.natAbs from by omega]
  apply ByteArray.ext
  simp
theorem num_neg_big (n : Int) (h : n ≤ -10) : numB (n.tdiv 10) ++ byteB (48 - n.tmod 10) = numB n := by
  have hq : n.tdiv 10 = -((n.natAbs / 10 : Nat) : Int) := by
    obtain ⟨m, rfl⟩ : ∃ m : Nat, n = -(m : Int) := ⟨n.natAbs, by omega⟩
    rw [Int.neg_tdiv, Int.natAbs_neg, Int.natAbs_natCast]
    rfl
  have hr : n.tmod 10 = -((n.natAbs % 10 : Nat) : Int) := by
    obtain ⟨m, rfl⟩ : ∃ m : Nat, n = -(m : Int) := ⟨n.natAbs, by omega⟩
    rw [Int.neg_tmod, Int.natAbs_neg, Int.natAbs_natCast]
    rfl
  unfold numB byteB Lib.itoa
  rw [hq, hr, if_pos (by omega), if_pos (by omega), dec_big n.natAbs (by omega), show (48 - -((n.natAbs % 10 : Nat) : Int)).toNat = 48 + n.natAbs % 10 from by omega, show (-((n.natAbs / 10 : Nat) : Int)).natAbs = n.natAbs / 10 from by omega]
  apply ByteArray.ext
  simp
theorem numB_size (n : Int) (k : Nat) (h : n.natAbs < 10 ^ (k + 1)) : (numB n).size ≤ k + 2 := by
  have hd : ∀ (k u : Nat), u < 10 ^ (k + 1) → (Lib.decDigits u).length ≤ k + 1 := by
    intro k
    induction k with
    | zero => intro u hu; rw [dec_small u (by simpa using hu)]; simp
    | succ k ih =>
      intro u hu
      by_cases hs : u < 10
      · rw [dec_small u hs]; simp
      · rw [dec_big u hs, List.length_append]
        have := ih (u / 10) (by rw [Nat.pow_succ] at hu; omega)
        simp; omega
  have e : (numB n).size = (Lib.itoa n).length := rfl
  rw [e]
  unfold Lib.itoa
  split
  · have := hd k n.natAbs h; simp; omega
  · have := hd k n.toNat (by omega); omega

theorem quo_small (n : Int) (h : n < 0) (h1 : -10 < n) : (n.tdiv 10 == 0) = true := by
  rw [beq_iff_eq]
  obtain ⟨m, rfl⟩ : ∃ m : Nat, n = -(m : Int) := ⟨n.natAbs, by omega⟩
  rw [Int.neg_tdiv, Int.tdiv_eq_zero_of_lt (by omega) (by omega)]
  rfl
theorem quo_rem (n : Int) (h : n ≤ 0) : n.tdiv 10 * 10 + n.tmod 10 = n ∧ -9 ≤ n.tmod 10 ∧ n.tmod 10 ≤ 0 := by
  obtain ⟨m, rfl⟩ : ∃ m : Nat, n = -(m : Int) := ⟨n.natAbs, by omega⟩
  have hq : (-(m : Int)).tdiv 10 = -((m / 10 : Nat) : Int) := by rw [Int.neg_tdiv]; rfl
  have hr : (-(m : Int)).tmod 10 = -((m % 10 : Nat) : Int) := by rw [Int.neg_tmod]; rfl
  rw [hq, hr]
  omega


/-- the table that the library reads is at hand -/
def Tab (w : World) : Prop := Lib.TabIs Tryz.prog w "internal/strconv.uint64pow10" .u64 Lib.pow10Tab
theorem powGlobal : Tryz.prog.globalNamed "internal/strconv.uint64pow10" = some 4 := by kernel_rfl
theorem Tab.lt {w : World} (h : Tab w) : 4 < w.heap.size := by
  unfold Tab Lib.TabIs World.var? at h
  rw [powGlobal] at h
  simp only [Option.bind_some] at h
  split at h
  · rename_i hh; exact (Array.getElem?_eq_some_iff.1 hh).1
  · cases h
theorem Tab.below {w w' : World} (h : Tab w) (hb : Below w.heap.size w w') : Tab w' := by
  have hl := h.lt
  unfold Tab Lib.TabIs World.var? at h ⊢
  rw [powGlobal] at h ⊢
  simp only [Option.bind_some] at h ⊢
  rw [hb.block _ hl]
  exact h
theorem Tab.drewN {w : World} (h : Tab w) (n : Nat) : Tab (w.drewN n) := h

theorem below_grow (w : World) (k : Nat) (os : Array Obj) : Below w.heap.size w (Sort.grow (w.drewN k) os) :=
  ⟨rfl, rfl, rfl, by show w.heap.size ≤ (w.heap ++ os).size; simp, fun i hi => by show (w.heap ++ os)[i]? = _; rw [Array.getElem?_append_left hi]⟩

theorem itoa_any (n : Int) (w : World) (h0 : -9223372036854775808 ≤ n) (h1 : n ≤ 9223372036854775807) (ht : Tab w) :
    Calls Tryz.prog 96 #[.int .i64 n] w fun e w' => e = .returned (.string (numB n)) ∧ Below w.heap.size w w' := by
  refine (Tryz.strconv_Itoa n h0 h1 w ht).mono ?_
  rintro e w' ⟨rfl, k, os, rfl⟩
  exact ⟨rfl, below_grow w k os⟩

set_option maxHeartbeats 400000 in
set_option maxRecDepth 100000 in
theorem implIntText_any (n : Int) (w : World) (h0 : -9223372036854775808 ≤ n) (h1 : n ≤ 9223372036854775807) (ht : Tab w) :
    Calls Tryz.prog 62 #[.int .i64 n] w fun e w' => e = .returned (.string (numB n)) ∧ Below w.heap.size w w' := by
  go_enter Tryz.func62, Tryz.ntmps62
  go_wp2_with fail
  refine (itoa_any n _ h0 h1 ht).mono ?_
  rintro e w1 ⟨rfl, hb⟩
  go_wp2
  go_ret
  exact ⟨rfl, hb⟩
end Go.Proofs.YtbfolegllhpkjaaGreatDoor

namespace Go.Proofs.YtbfolegllhpkjaaGreatDoor
open Go.RowKit

theorem sizeBuilder : (Tryz.prog.info? 98).map (fun i => i.size) = some 2 := by kernel_rfl
theorem liesBuilder : liesAt Tryz.prog Tryz.prog.depth 98 (2 / Tryz.prog.cellsOf 98) 0 98 1 = true := by kernel_rfl
theorem byteInfo : (Tryz.prog.info? 5).map (fun i => (i.zero, i.size, i.bytes)) = some (some (.int .u8 0), 1, 1) := by kernel_rfl

set_option maxHeartbeats 400000 in
set_option maxRecDepth 100000 in
theorem copyCheck_used (b : Nat) (w : World) (h0 : w.cell? ⟨b, 0, none⟩ = some (.pointer (some ⟨b, 0, none⟩))) :
    Calls Tryz.prog 97 #[.pointer (some ⟨b, 0, none⟩)] w fun e w' => e = .returned (.tuple #[]) ∧ w = w' := by
  obtain ⟨j, hj, _⟩ := Option.map_eq_some_iff.1 sizeBuilder
  go_enter Tryz.func97, Tryz.ntmps97
  go_wp2
  rw [Lib.run_neq_ptr_same w _ Tryz.underlying96 hj]
  go_wp2
  go_end0
  exact ⟨rfl, rfl⟩

set_option maxHeartbeats 400000 in
set_option maxRecDepth 100000 in
theorem copyCheck_fresh (b : Nat) (w : World) (h0 : w.cell? ⟨b, 0, none⟩ = some (.pointer none)) (hsh : w.shape? b = some (98, 2)) (hfz : w.frozen? ⟨b, 0, none⟩ = false) :
    Calls Tryz.prog 97 #[.pointer (some ⟨b, 0, none⟩)] w fun e w' => e = .returned (.tuple #[]) ∧ w.setCell ⟨b, 0, none⟩ (.pointer (some ⟨b, 0, none⟩)) = w' := by
  obtain ⟨j, hj, hjs⟩ := Option.map_eq_some_iff.1 sizeBuilder
  go_enter Tryz.func97, Tryz.ntmps97
  go_wp2
  rw [Lib.run_to_unsafe w ⟨b, 0, none⟩ Tryz.underlying96 Tryz.underlying163 hj (by rw [hjs]; decide) hsh (Nat.zero_lt_succ 1)]
  simp only [Result.andThen]
  rw [Oper.upon_value]
  go_wp2
  rw [run_callFunc_extern Tryz.func124 (by kernel_rfl) (by kernel_rfl) (by kernel_rfl) (e := Extern.AbiNoEscape.same) (by kernel_rfl)]
  rw [Lib.run_noEscape]
  simp only [Result.andThen]
  rw [Oper.upon_value]
  go_wp2
  rw [Lib.run_from_unsafe w ⟨b, 0, none⟩ Tryz.underlying163 Tryz.underlying96 hj hsh liesBuilder]
  simp only [Result.andThen]
  rw [Oper.upon_value]
  go_wp2
  go_end0
  exact ⟨rfl, rfl⟩

/-- a builder of the call's own, with what it holds, and the frame above it -/
def Built (B b : Nat) (bs : List Value) (w w' : World) : Prop := Lib.IsBuilderF 98 5 B b bs w' ∧ Below B w w' ∧ Lib.OthersKept 5 (some b) w w'

theorem copyCheck_any (B b : Nat) (bs : List Value) (w : World) (h : Lib.IsBuilderF 98 5 B b bs w) :
    Calls Tryz.prog 97 #[.pointer (some ⟨b, 0, none⟩)] w fun e w' => e = .returned (.tuple #[]) ∧ Lib.BuilderAtF 98 5 B b (.pointer (some ⟨b, 0, none⟩)) bs w' ∧ Below B w w' ∧ Lib.OthersKept 5 (some b) w w' := by
  rcases h with h | h
  · refine (copyCheck_fresh b w h.cell0 h.shape h.frozen0).mono ?_
    rintro e w' ⟨rfl, rfl⟩
    exact ⟨rfl, h.used _, (Below.refl B w).setCell (p := ⟨b, 0, none⟩) h.1 _, (Lib.OthersKept.refl _ _ w).setCell ⟨b, 0, none⟩ rfl _⟩
  · refine (copyCheck_used b w h.cell0).mono ?_
    rintro e w' ⟨rfl, rfl⟩
    exact ⟨rfl, h, Below.refl B _, Lib.OthersKept.refl _ _ _⟩

set_option maxHeartbeats 1000000 in
set_option maxRecDepth 100000 in
theorem writeString_any (B b : Nat) (bs : List Value) (s : ByteArray) (w : World) (h : Lib.IsBuilderF 98 5 B b bs w) (hlen : bs.length + s.size ≤ 140737488355328) (hBw : B ≤ w.heap.size) :
    Calls Tryz.prog 64 #[.pointer (some ⟨b, 0, none⟩), .string s] w fun e w' => e = .returned (.tuple #[.int .i64 s.size, .nilIface]) ∧ Built B b (bs ++ Lib.strCells s) w w' := by
  obtain ⟨i0, hi, hz0, hz1, hz2⟩ := info_parts byteInfo
  go_enter Tryz.func64, Tryz.ntmps64
  go_wp2_with fail
  refine (copyCheck_any B b bs _ h).mono ?_
  rintro e w1 ⟨rfl, h1, hb1, hk1⟩
  obtain ⟨hB, v, hbk, hown, hne⟩ := h1
  have c1 : w1.cell? ⟨b, 1, none⟩ = some v := by rw [Lib.cell_of_heap hbk]; rfl
  go_wp2_with (at_builtin; refine Lib.wpList_append_own_stringF _ rfl _ _ 22 9 rfl B 5 i0 Tryz.underlying22 Tryz.underlying9 hi hz0 hz1 hz2 _ _ _ rfl hown s rfl ?c3 ?c4 ?c5 ?_)
  case c3 => unfold maxLen; omega
  case c4 => omega
  case c5 => have := hb1.size; omega
  intro v' w2 hown' hgrow _
  have hlt : b < w1.heap.size := (Array.getElem?_eq_some_iff.1 hbk).1
  have hb2 : w2.heap[b]? = some (.cells #[.pointer (some ⟨b, 0, none⟩), v] 98 (0, 0)) := by
    rw [hgrow.block b hlt (fun e => hne e.symm)]
    exact hbk
  have d1 : w2.cell? ⟨b, 1, none⟩ = some v := by rw [Lib.cell_of_heap hb2]; rfl
  have f1 : w2.frozen? ⟨b, 1, none⟩ = false := Lib.frozen_of_heap hb2 1
  obtain ⟨ao, n', cap, rfl⟩ : ∃ ao n' cap, v' = .slice ao n' cap := by
    rcases hown'.2 with ⟨hv, _⟩ | ⟨g, cap, cur, fz, hv, _⟩
    · exact ⟨_, _, _, hv⟩
    · exact ⟨_, _, _, hv⟩
  go_wp2
  go_ret2
  refine ⟨rfl, .inr ?_, ?_, (hk1.grown hgrow (Lib.ownsRowF_kind hown)).setCell ⟨b, 1, none⟩ rfl _⟩
  · exact Lib.BuilderAtF.put hB hb2 (bs' := bs ++ Lib.strCells s) (by simpa [Lib.strCells_length] using hown') (by decide)
  · exact (hb1.grown hgrow (by have := hb1.size; omega) (fun k hk => (hown.lt k hk).1)).setCell (p := ⟨b, 1, none⟩) hB _
end Go.Proofs.YtbfolegllhpkjaaGreatDoor

namespace Go.Proofs.YtbfolegllhpkjaaGreatDoor
open Go.RowKit

/-- the first k parts with by between them -/
def joinTo (by_ : ByteArray) (ss : List ByteArray) : Nat → List UInt8
  | 0 => []
  | k + 1 => joinTo by_ ss k ++ (if 0 < k then by_.data.toList else []) ++ (ss.getD k ByteArray.empty).data.toList
def joinB (by_ : ByteArray) (ss : List ByteArray) : ByteArray := ⟨(joinTo by_ ss ss.length).toArray⟩

theorem joinTo_length (by_ : ByteArray) (ss : List ByteArray) (hy : by_.size ≤ 1048576) (hs : ∀ s ∈ ss, s.size ≤ 1048576) (k : Nat) : (joinTo by_ ss k).length ≤ k * 2097152 := by
  induction k with
  | zero => simp [joinTo]
  | succ k ih =>
    have h1 : (ss.getD k ByteArray.empty).data.toList.length ≤ 1048576 := by
      rw [List.getD_eq_getElem?_getD]
      by_cases hk : k < ss.length
      · rw [List.getElem?_eq_getElem hk]
        exact hs _ (List.getElem_mem hk)
      · rw [List.getElem?_eq_none (by omega)]
        exact Nat.zero_le _
    have h2 : (if 0 < k then by_.data.toList else []).length ≤ 1048576 := by
      split
      · exact hy
      · exact Nat.zero_le _
    unfold joinTo
    rw [List.length_append, List.length_append]
    omega

theorem joinTo_more (by_ : ByteArray) (ss : List ByteArray) (k : Nat) (h0 : 0 < k) (h : k < ss.length) : joinTo by_ ss (k + 1) = joinTo by_ ss k ++ by_.data.toList ++ ss[k].data.toList := by
  rw [joinTo, if_pos h0, List.getD_eq_getElem?_getD, List.getElem?_eq_getElem h]
  rfl
theorem joinTo_first (by_ : ByteArray) (ss : List ByteArray) (k : Nat) (h0 : ¬ 0 < k) (h : k < ss.length) : joinTo by_ ss (k + 1) = joinTo by_ ss k ++ ss[k].data.toList := by
  rw [joinTo, if_neg h0, List.getD_eq_getElem?_getD, List.getElem?_eq_getElem h, List.append_nil]
  rfl

set_option maxHeartbeats 1000000 in
set_option maxRecDepth 100000 in
theorem joinAll_any (by_ : ByteArray) (v : Value) (ss : List ByteArray) (lo hi : Nat) (w : World) (hhi : hi ≤ w.heap.size) (hn : ss.length ≤ 1048576) (hy : by_.size ≤ 1048576) (hs : ∀ s ∈ ss, s.size ≤ 1048576)
    (hr : Row w lo hi v (ss.map Value.string)) :
    Calls Tryz.prog 28 #[.string by_, v] w fun e w' => e = .returned (.string (joinB by_ ss)) ∧ Below w.heap.size w w' := by
  obtain ⟨A, c, rfl, hA⟩ := hr
  rw [List.length_map]
  have HA := Lib.hid hA
  have HS := Lib.hid hs
  clear hA hs
  go_enter Tryz.func28, Tryz.ntmps28
  go_wp2
  go_loopw [10] (fun i wr => ∃ k : Nat, k ≤ ss.length ∧ i = .int .i64 k ∧ Lib.IsBuilderF 98 5 w.heap.size w.heap.size (Lib.byteCells (joinTo by_ ss k)) wr ∧ Below w.heap.size w wr) (fun i _ => ss.length - (intOf i).toNat)
  case atStart => exact ⟨0, Nat.zero_le _, rfl, .inl ⟨Nat.le_refl _, .slice none 0 0, heap_alloc_new w _, ⟨rfl, .inl ⟨rfl, rfl⟩⟩, by simp [Value.ownBlock]⟩, (Below.refl _ _).alloc (Nat.le_refl _) _⟩
  case round =>
    obtain ⟨k, hk, rfl, hB, hb⟩ := hrel
    have hjl := joinTo_length by_ ss hy HS.out k
    by_cases hlt : k < ss.length
    · obtain ⟨a, rfl, _, hab, hca⟩ := HA.out k (.string ss[k]) (by simp [hlt])
      have hca' : wr.cell? (a.add k) = some (.string ss[k]) := (hb.cell (by rw [block_add]; omega)).trans hca
      clear hca
      have hsk : ss[k].size ≤ 1048576 := HS.out _ (List.getElem_mem hlt)
      by_cases h0 : 0 < k
      · have HJ := Lib.hid (joinTo_more by_ ss k h0 hlt)
        go_wp2_with fail
        refine (writeString_any w.heap.size w.heap.size _ by_ _ hB (by rw [Lib.byteCells_length]; omega) hb.size).mono ?_
        rintro e w1 ⟨rfl, hB1, hb1, _⟩
        go_wp2_with fail
        refine (writeString_any w.heap.size w.heap.size _ ss[k] _ hB1 (by rw [List.length_append, Lib.byteCells_length, Lib.strCells_length]; omega) (by have := hb.size; have := hb1.size; omega)).mono ?_
        rintro e w2 ⟨rfl, hB2, hb2, _⟩
        rw [Lib.strCells_eq, Lib.strCells_eq, ← Lib.byteCells_append, ← Lib.byteCells_append] at hB2
        go_wp2
        go_roundw
        case rel => exact ⟨k + 1, by omega, by go_num, by rw [HJ.out]; exact hB2, (hb.trans hb1).trans hb2⟩
        case measure => simp [intOf]; omega
      · have HJ := Lib.hid (joinTo_first by_ ss k h0 hlt)
        go_wp2_with fail
        refine (writeString_any w.heap.size w.heap.size _ ss[k] _ hB (by rw [Lib.byteCells_length]; omega) hb.size).mono ?_
        rintro e w1 ⟨rfl, hB1, hb1, _⟩
        rw [Lib.strCells_eq, ← Lib.byteCells_append] at hB1
        go_wp2
        go_roundw
        case rel => exact ⟨k + 1, by omega, by go_num, by rw [HJ.out]; exact hB1, hb.trans hb1⟩
        case measure => simp [intOf]; omega
    · obtain rfl : k = ss.length := by omega
      go_wp2_with fail
      refine (Tryz.Builder_String_any_k w.heap.size w.heap.size _ _ hB hb.size).mono ?_
      rintro e w1 ⟨rfl, _, hb1, _⟩
      go_wp2
      go_ret
      exact ⟨rfl, hb.trans hb1⟩

theorem app_one (acc : List UInt8) (b : ByteArray) : (⟨acc.toArray⟩ : ByteArray) ++ b = ⟨(acc ++ b.data.toList).toArray⟩ := by
  apply ByteArray.ext
  simp
theorem app_two (acc : List UInt8) (a b : ByteArray) : (⟨acc.toArray⟩ : ByteArray) ++ a ++ b = ⟨(acc ++ a.data.toList ++ b.data.toList).toArray⟩ := by
  rw [app_one, app_one]

set_option maxHeartbeats 400000 in
set_option maxRecDepth 100000 in
theorem implJoin_any (v : Value) (by_ : ByteArray) (ss : List ByteArray) (lo hi : Nat) (w : World) (hhi : hi ≤ w.heap.size) (hn : ss.length ≤ 1048576) (hy : by_.size ≤ 1048576) (hs : ∀ s ∈ ss, s.size ≤ 1048576)
    (hr : Row w lo hi v (ss.map Value.string)) :
    Calls Tryz.prog 63 #[v, .string by_] w fun e w' => e = .returned (.string (joinB by_ ss)) ∧ Below w.heap.size w w' := by
  have HS := Lib.hid hs
  clear hs
  go_enter Tryz.func63, Tryz.ntmps63
  go_wp2_with fail
  refine (joinAll_any by_ v ss lo hi _ hhi hn hy HS.out hr).mono ?_
  rintro e w1 ⟨rfl, hb⟩
  go_wp2
  go_ret
  exact ⟨rfl, hb⟩

end Go.Proofs.YtbfolegllhpkjaaGreatDoor

namespace Go.Proofs.YtbfolegllhpkjaaGreatDoor
open Go.RowKit

/-- zeros ahead of a text -/
def padB (s : ByteArray) (n : Int) : ByteArray := ⟨(List.replicate (n.toNat - s.size) (48 : UInt8) ++ s.data.toList).toArray⟩

theorem padB_same (s : ByteArray) (n : Int) (h : n ≤ s.size) : padB s n = s := by
  unfold padB
  rw [show n.toNat - s.size = 0 from by omega]
  apply ByteArray.ext
  simp
theorem padB_step (s : ByteArray) (n : Int) (h : (s.size : Int) < n) : padB ((⟨#[48]⟩ : ByteArray) ++ s) n = padB s n := by
  have e : n.toNat - s.size = (n.toNat - (s.size + 1)) + 1 := by omega
  have hsz : ((⟨#[48]⟩ : ByteArray) ++ s).size = s.size + 1 := by rw [ByteArray.size_append]; show 1 + s.size = _; omega
  unfold padB
  rw [hsz, e, List.replicate_succ']
  apply ByteArray.ext
  simp
theorem repeat_zero (c : Nat) : Lib.repeatL [48] c = List.replicate c 48 := by
  induction c with
  | zero => rfl
  | succ c ih => rw [Lib.repeatL, ih, List.replicate_succ]; rfl
/-- so many zeros -/
def zerosB (m : Int) : ByteArray := ⟨(List.replicate m.toNat (48 : UInt8)).toArray⟩
theorem zerosB_size (m : Int) : (zerosB m).size = m.toNat := by
  unfold zerosB
  show (List.replicate m.toNat (48 : UInt8)).toArray.size = _
  simp
def strSize : Value → Nat
  | .string t => t.size
  | _ => 0
theorem size_zero_app (t : ByteArray) : ((⟨#[48]⟩ : ByteArray) ++ t).size = t.size + 1 := by
  rw [ByteArray.size_append]
  show 1 + t.size = _
  omega
theorem repeat_any (m : Int) (w : World) (h0 : 0 ≤ m) (h1 : m ≤ 2000) :
    Calls Tryz.prog 60 #[.string ⟨#[48]⟩, .int .i64 m] w fun e w' => e = .returned (.string (zerosB m)) ∧ Below w.heap.size w w' := by
  obtain ⟨c, rfl⟩ := Int.eq_ofNat_of_zero_le h0
  refine (Tryz.strings_Repeat ⟨#[48]⟩ c w (by omega) (by show 1 * c ≤ _; omega)).mono fun e w' ⟨he, hb⟩ => ⟨?_, hb⟩
  rw [he]
  exact ret_str (by rw [zerosB, Int.toNat_natCast, ← repeat_zero])
theorem join_pad (s : ByteArray) (n : Int) (h : (s.size : Int) < n) : joinB ⟨#[]⟩ [zerosB (n - s.size), s] = padB s n := by
  unfold joinB padB zerosB
  rw [show (n - s.size).toNat = n.toNat - s.size from by omega]
  simp [joinTo]


set_option maxHeartbeats 400000 in
set_option maxRecDepth 100000 in
theorem implPad_any (s : ByteArray) (n : Int) (w : World) (hs : s.size ≤ 1048576) (hn : n ≤ 2000) (h63 : -9223372036854775808 ≤ n) :
    Calls Tryz.prog 26 #[.string s, .int .i64 n] w fun e w' => e = .returned (.string (padB s n)) ∧ Below w.heap.size w w' := by
  by_cases hlt : (s.size : Int) < n
  · go_enter Tryz.func26, Tryz.ntmps26
    go_wp2_with fail
    refine (repeat_any _ _ (by omega) (by omega)).mono ?_
    rintro e w1 ⟨rfl, hb1⟩
    have hz1 := hb1.size
    have hzs := Lib.hid (zerosB_size (n - s.size))
    go_wp2_with fail
    refine (joinAll_any ⟨#[]⟩ _ [zerosB (n - s.size), s] w1.heap.size (w1.heap.size + 1) _ (by simp) (by simp) (by decide) ?_ (Row.lit2 _ _ _ _)).mono ?_
    · intro x hx
      rcases List.mem_cons.1 hx with rfl | hx
      · rw [hzs.out]; omega
      · rw [List.mem_singleton.1 hx]; exact hs
    rintro e w2 ⟨rfl, hb2⟩
    go_wp2
    go_ret
    exact ⟨ret_str (join_pad s n hlt), Below.next (hb1.alloc (by omega) _) hb2⟩
  · go_enter Tryz.func26, Tryz.ntmps26
    go_wp2
    go_ret
    exact ⟨ret_str (padB_same s n (by omega)).symm, Below.refl _ _⟩

set_option maxHeartbeats 400000 in
set_option maxRecDepth 100000 in
theorem implPad_big (s : ByteArray) (n : Int) (w : World) (_hs : s.size ≤ 1048576) (hn : 2000 < n) :
    Calls Tryz.prog 26 #[.string s, .int .i64 n] w fun e w' => e = .returned (.string s) ∧ w = w' := by
  by_cases hlt : (s.size : Int) < n
  · go_enter Tryz.func26, Tryz.ntmps26
    go_wp2
    go_ret
    exact ⟨rfl, rfl⟩
  · go_enter Tryz.func26, Tryz.ntmps26
    go_wp2
    go_ret
    exact ⟨rfl, rfl⟩

end Go.Proofs.YtbfolegllhpkjaaGreatDoor

namespace Go.Proofs.YtbfolegllhpkjaaGreatDoor
open Go.RowKit

/-- the decimal text of limbs, the least first -/
def natT : List Int → ByteArray
  | [] => ⟨#[48]⟩
  | [d] => numB d
  | d :: e :: r => natT (e :: r) ++ padB (numB d) 9
/-- what NatText answers -/
def natTextB (a : List Int) : ByteArray := if natOkB a = true then natT a else ⟨#[]⟩
theorem padB_size (s : ByteArray) (n : Nat) (h : s.size ≤ n) (n9 : (9 : Int) ≤ n) : (padB s 9).size ≤ n := by
  unfold padB
  show (List.toArray _).size ≤ n
  rw [List.size_toArray, List.length_append, List.length_replicate]
  have : s.data.toList.length = s.size := rfl
  omega
theorem limb_size {d : Int} (h : 0 ≤ d ∧ d ≤ 999999999) : (numB d).size ≤ 10 := numB_size d 8 (by omega)
theorem natT_size (a : List Int) (h : DigN a) : (natT a).size ≤ 10 * a.length + 1 := by
  induction a with
  | nil => unfold natT; decide
  | cons d r ih =>
    have hd := limb_size (h d (by simp))
    cases r with
    | nil => unfold natT; simp; omega
    | cons e r =>
      have hp := padB_size _ 10 hd (by omega)
      have := ih (fun x hx => h x (by simp at hx ⊢; exact .inr hx))
      unfold natT
      rw [ByteArray.size_append]
      simp only [List.length_cons] at *
      omega
theorem natT_step (a : List Int) (i : Nat) (h : i + 1 < a.length) : natT (a.drop i) = natT (a.drop (i + 1)) ++ padB (numB a[i]) 9 := by
  rw [List.drop_eq_getElem_cons (show i < a.length by omega), List.drop_eq_getElem_cons h]
  rfl
theorem natT_last (a : List Int) (h : 0 < a.length) : natT (a.drop (a.length - 1)) = numB (a[a.length - 1]) := by
  rw [List.drop_eq_getElem_cons (show a.length - 1 < a.length by omega), List.drop_eq_nil_of_le (by omega)]
  rfl


/-- what NatDigits answers -/
def natDigB (a : List Int) : Int := if natOkB a = true ∧ a.length ≠ 0 then (natTextB a).size else 0
theorem natTextB_size (a : List Int) : (natTextB a).size ≤ 501 := by
  unfold natTextB
  split
  · rename_i h
    have hp := natOk_parts h
    have := natT_size a hp.1
    omega
  · show 0 ≤ 501
    omega
end Go.Proofs.YtbfolegllhpkjaaGreatDoor

namespace Go.Proofs.YtbfolegllhpkjaaGreatDoor
open Go.RowKit

/-- one byte in one of two ranges -/
def inTwo (lo hi low high : Nat) (c : UInt8) : Bool := decide ((lo ≤ c.toNat ∧ c.toNat ≤ hi) ∨ (low ≤ c.toNat ∧ c.toNat ≤ high))
/-- every byte from place k on is in one of two ranges -/
def allFrom (s : ByteArray) (lo hi low high k : Nat) : Bool := (s.data.toList.drop k).all (inTwo lo hi low high)

theorem allFrom_step (s : ByteArray) (lo hi low high k : Nat) (h : k < s.size) : allFrom s lo hi low high k = (inTwo lo hi low high s[k] && allFrom s lo hi low high (k + 1)) := by
  unfold allFrom
  rw [List.drop_eq_getElem_cons (by simpa using h)]
  rfl
theorem allFrom_end (s : ByteArray) (lo hi low high k : Nat) (h : ¬ k < s.size) : allFrom s lo hi low high k = true := by
  unfold allFrom
  rw [List.drop_eq_nil_of_le (by simp; omega)]
  rfl

theorem allFrom_yes (s : ByteArray) (lo hi low high k : Nat) (h : k < s.size) (hb : (lo ≤ s[k].toNat ∧ s[k].toNat ≤ hi) ∨ (low ≤ s[k].toNat ∧ s[k].toNat ≤ high)) : allFrom s lo hi low high (k + 1) = allFrom s lo hi low high k := by
  rw [allFrom_step s lo hi low high k h]
  simp [inTwo, hb]
theorem allFrom_no (s : ByteArray) (lo hi low high k : Nat) (h : k < s.size) (hb : ¬ ((lo ≤ s[k].toNat ∧ s[k].toNat ≤ hi) ∨ (low ≤ s[k].toNat ∧ s[k].toNat ≤ high))) : allFrom s lo hi low high k = false := by
  rw [allFrom_step s lo hi low high k h]
  simp [inTwo, hb]


/-- what IsDigits, IsWord and IsCode of the document ask -/
def digitsB (s : ByteArray) : Bool := allFrom s 48 57 48 57 0 && decide (0 < s.size)
def wordB (s : ByteArray) : Bool := allFrom s 97 122 48 57 0 && decide (0 < s.size) && decide (s.size ≤ 12) && decide (97 ≤ (s.data.toList.headD 0).toNat)
def codeB (s : ByteArray) : Bool := allFrom s 65 90 65 90 0 && decide (s.size = 3)


/-- a rune in a range -/
def bet (lo hi r : Int) : Bool := decide (lo ≤ r ∧ r ≤ hi)
theorem bet_yes {lo hi r : Int} (h1 : lo ≤ r) (h2 : r ≤ hi) : bet lo hi r = true := by simp [bet, h1, h2]
theorem bet_no {lo hi r : Int} (h : ¬ (lo ≤ r ∧ r ≤ hi)) : bet lo hi r = false := by simpa [bet] using h

set_option maxHeartbeats 400000 in
set_option maxRecDepth 100000 in
theorem isDigit_any (r : Int) (b : Bool) (w : World) (hb : bet 48 57 r = b) :
    Calls Tryz.prog 88 #[.int .i32 r] w fun e w' => e = .returned (.bool b) ∧ w = w' := by
  subst hb
  go_enter Tryz.func88, Tryz.ntmps88
  go_wp2
  all_goals go_ret
  · exact ⟨by simp [bet, *], rfl⟩
  · exact ⟨by simp [bet]; omega, rfl⟩

/-- a byte that is no ASCII is in no range below 128 -/
theorem allFrom_high (s : ByteArray) (lo hi low high k : Nat) (h : k < s.size) (hh : 128 ≤ s[k].toNat) (h1 : hi < 128) (h2 : high < 128) : allFrom s lo hi low high k = false :=
  allFrom_no s lo hi low high k h (by omega)

theorem isEmpty_size (s : ByteArray) : s.toList.isEmpty = decide (s.size = 0) := by
  rw [ByteArray.toList_eq]
  obtain ⟨⟨l⟩⟩ := s
  cases l with
  | nil => rfl
  | cons a r => simp [ByteArray.size]


theorem fin_digits (s : ByteArray) (h : allFrom s 48 57 48 57 0 = true) : (!s.toList.isEmpty) = digitsB s := by
  rw [isEmpty_size, digitsB, h, Bool.true_and, ← decide_not]
  exact decide_eq_decide.2 (by omega)
theorem no_digits (s : ByteArray) (h : allFrom s 48 57 48 57 0 = false) : false = digitsB s := by rw [digitsB, h]; rfl
theorem int_beq (n k : Nat) : ((n : Int) == (k : Int)) = decide (n = k) := by
  by_cases h : n = k
  · subst h; simp
  · rw [decide_eq_false h, beq_eq_false_iff_ne]; omega
theorem fin_code (s : ByteArray) (h : allFrom s 65 90 65 90 0 = true) : ((s.size : Int) == 3) = codeB s := by
  rw [codeB, h, Bool.true_and]
  exact int_beq s.size 3
theorem no_code (s : ByteArray) (h : allFrom s 65 90 65 90 0 = false) : false = codeB s := by rw [codeB, h]; rfl

set_option maxHeartbeats 400000 in
set_option maxRecDepth 100000 in
theorem implIsDigits_any (s : ByteArray) (w : World) :
    Calls Tryz.prog 52 #[.string s] w fun e w' => e = .returned (.bool (digitsB s)) ∧ Below w.heap.size w w' := by
  go_enter Tryz.func52, Tryz.ntmps52
  go_wp2
  go_loopw [] (fun w' => ∃ pos : Nat, w' = w.iter s pos ∧ Hid (allFrom s 48 57 48 57 pos = allFrom s 48 57 48 57 0)) (fun w' => s.size - w'.iterPos w.heap.size)
  case atStart => exact ⟨0, rfl, Lib.hid rfl⟩
  case round =>
    obtain ⟨pos, rfl, HA⟩ := hrel
    by_cases hp : pos < s.size
    · by_cases ha : (s[pos]'hp).toNat < 128
      · have hnx : ∀ ty, (Instr.next (.pointer (some ⟨w.heap.size, 0, none⟩)) true ty).run Tryz.prog (w.iter s pos) = _ := fun ty => run_next_ascii w s pos ty hp ha
        by_cases hd : 48 ≤ (s[pos]'hp).toNat ∧ (s[pos]'hp).toNat ≤ 57
        · go_wp2_with (go_at_call 88; refine (isDigit_any _ true _ (bet_yes (by omega) (by omega))).mono ?_; rintro e w' ⟨rfl, rfl⟩)
          go_roundw
          case rel => exact ⟨pos + 1, rfl, Lib.hid ((allFrom_yes s 48 57 48 57 pos hp (by omega)).trans HA.out)⟩
          case measure => simp; omega
        · go_wp2_with (go_at_call 88; refine (isDigit_any _ false _ (bet_no (by omega))).mono ?_; rintro e w' ⟨rfl, rfl⟩)
          go_ret
          exact ⟨ret_bool (no_digits s (by rw [← HA.out]; exact allFrom_no s 48 57 48 57 pos hp (by omega))), (Below.refl _ _).alloc (Nat.le_refl _) _⟩
      · have hnx : ∀ ty, (Instr.next (.pointer (some ⟨w.heap.size, 0, none⟩)) true ty).run Tryz.prog (w.iter s pos) = _ := fun ty => run_next_any w s pos ty hp
        have hhi := (decode_high s pos hp (by omega)).1
        go_wp2_with (go_at_call 88; refine (isDigit_any _ false _ (bet_no (by omega))).mono ?_; rintro e w' ⟨rfl, rfl⟩)
        go_ret
        exact ⟨ret_bool (no_digits s (by rw [← HA.out]; exact allFrom_no s 48 57 48 57 pos hp (by omega))), (Below.refl _ _).alloc (Nat.le_refl _) _⟩
    · have hnx : ∀ ty, (Instr.next (.pointer (some ⟨w.heap.size, 0, none⟩)) true ty).run Tryz.prog (w.iter s pos) = _ := fun ty => run_next_end w s pos ty hp
      go_wp2
      go_ret
      exact ⟨ret_bool (fin_digits s (by rw [← HA.out]; exact allFrom_end s 48 57 48 57 pos hp)), (Below.refl _ _).alloc (Nat.le_refl _) _⟩


theorem no_code2 (s : ByteArray) (h : (allFrom s 65 90 65 90 0 && decide (0 < s.size)) = false) : false = codeB s := by
  rcases Bool.and_eq_false_iff.1 h with h | h
  · exact no_code s h
  · have h' := of_decide_eq_false h
    rw [codeB, decide_eq_false (show ¬ s.size = 3 by omega), Bool.and_false]
theorem yes_code2 (s : ByteArray) (h : (allFrom s 65 90 65 90 0 && decide (0 < s.size)) = true) : allFrom s 65 90 65 90 0 = true := (Bool.and_eq_true_iff.1 h).1


theorem head_get (s : ByteArray) (h : 0 < s.size) : s.data.toList.headD 0 = s[0] := by
  obtain ⟨⟨l⟩⟩ := s
  cases l with
  | nil => simp [ByteArray.size] at h
  | cons a r => rfl
theorem no_word_all (s : ByteArray) (h : allFrom s 97 122 48 57 0 = false) : false = wordB s := by simp [wordB, h]
theorem no_word_two (s : ByteArray) (h : (allFrom s 97 122 48 57 0 && decide (0 < s.size)) = false) : false = wordB s := by simp only [wordB, h, Bool.false_and]
theorem no_word_len (s : ByteArray) (h : ¬ s.size ≤ 12) : false = wordB s := by simp [wordB, h]
theorem no_word_nil (s : ByteArray) (h : ¬ 0 < s.size) : false = wordB s := by simp [wordB, h]
theorem no_word_head (s : ByteArray) (h0 : 0 < s.size) (h : ¬ 97 ≤ s[0].toNat) : false = wordB s := by
  rw [wordB, head_get s h0, decide_eq_false h, Bool.and_false]
theorem word_head (s : ByteArray) (h0 : 0 < s.size) (h1 : s.size ≤ 12) (h : allFrom s 97 122 48 57 0 = true) : decide (97 ≤ s[0].toNat) = wordB s := by
  rw [wordB, head_get s h0, h, decide_eq_true h0, decide_eq_true h1]
  simp
theorem word_head' (s : ByteArray) (h0 : 0 < s.size) (h1 : s.size ≤ 12) (h : allFrom s 97 122 48 57 0 = true) : decide ((97 : Int) ≤ (s[0].toNat : Int)) = wordB s := by
  rw [← word_head s h0 h1 h]
  exact decide_eq_decide.2 (by omega)
theorem yes_word (s : ByteArray) (h0 : 0 < s.size) (h1 : s.size ≤ 12) (h : allFrom s 97 122 48 57 0 = true) (hh : 97 ≤ s[0].toNat) : true = wordB s := by
  rw [← word_head s h0 h1 h, decide_eq_true hh]


end Go.Proofs.YtbfolegllhpkjaaGreatDoor

namespace Go.Proofs.YtbfolegllhpkjaaGreatDoor
open Go.RowKit

/-- the number that digits spell -/
def valL : List UInt8 → Int := List.foldl (fun a c => a * 10 + ((c.toNat : Int) - 48)) 0
theorem valL_snoc (l : List UInt8) (c : UInt8) : valL (l ++ [c]) = valL l * 10 + ((c.toNat : Int) - 48) := by
  unfold valL
  rw [List.foldl_append]
  rfl
/-- all are digits -/
def DigL (l : List UInt8) : Prop := ∀ c ∈ l, 48 ≤ c.toNat ∧ c.toNat ≤ 57
theorem fold_ge (l : List UInt8) : ∀ a : Int, DigL l → 0 ≤ a → a ≤ List.foldl (fun a c => a * 10 + ((c.toNat : Int) - 48)) a l := by
  induction l with
  | nil => intro a _ _; exact Int.le_refl _
  | cons c l ih =>
    intro a h h0
    have hc := h c (by simp)
    have h1 := ih (a * 10 + ((c.toNat : Int) - 48)) (fun x hx => h x (by simp [hx])) (by omega)
    rw [List.foldl_cons]
    omega
theorem valL_nonneg (l : List UInt8) (h : DigL l) : 0 ≤ valL l := fold_ge l 0 h (Int.le_refl _)
theorem valL_mono (l r : List UInt8) (h : DigL (l ++ r)) : valL l ≤ valL (l ++ r) := by
  have h0 := valL_nonneg l (fun x hx => h x (by simp [hx]))
  have h1 := fold_ge r (valL l) (fun x hx => h x (by simp [hx])) h0
  unfold valL at h1 ⊢
  rw [List.foldl_append]
  exact h1
theorem allFrom_dig (s : ByteArray) : allFrom s 48 57 48 57 0 = true ↔ DigL s.data.toList := by
  unfold allFrom DigL
  rw [List.drop_zero, List.all_eq_true]
  constructor
  · intro h c hc
    have := h c hc
    simp [inTwo] at this
    omega
  · intro h c hc
    have := h c hc
    simp [inTwo]
    omega
theorem digitsB_iff (s : ByteArray) : digitsB s = true ↔ DigL s.data.toList ∧ s.data.toList ≠ [] := by
  unfold digitsB
  rw [Bool.and_eq_true, allFrom_dig, decide_eq_true_eq]
  constructor
  · intro ⟨h1, h2⟩
    exact ⟨h1, fun e => by have : s.data.toList.length = s.size := rfl; rw [e] at this; simp at this; omega⟩
  · intro ⟨h1, h2⟩
    refine ⟨h1, ?_⟩
    have : s.data.toList.length = s.size := rfl
    have := List.length_pos_iff.2 h2
    omega

theorem take_val (s : ByteArray) (k : Nat) (h : k < s.size) : valL (s.data.toList.take (k + 1)) = valL (s.data.toList.take k) * 10 + ((s[k].toNat : Int) - 48) := by
  rw [List.take_succ_eq_append_getElem (by simpa using h), valL_snoc]
  rfl
theorem dig_at (s : ByteArray) (k : Nat) (h : k < s.size) (hd : DigL s.data.toList) : 48 ≤ s[k].toNat ∧ s[k].toNat ≤ 57 := hd _ (by simp [ByteArray.getElem_eq_getElem_data])
end Go.Proofs.YtbfolegllhpkjaaGreatDoor

namespace Go.Proofs.YtbfolegllhpkjaaGreatDoor
open Go.RowKit

theorem fold_lt (l : List UInt8) : ∀ a : Int, DigL l → 0 ≤ a → List.foldl (fun a c => a * 10 + ((c.toNat : Int) - 48)) a l + 1 ≤ (a + 1) * 10 ^ l.length := by
  induction l with
  | nil => intro a _ _; simp
  | cons c l ih =>
    intro a h h0
    have hc := h c (by simp)
    have h1 := ih (a * 10 + ((c.toNat : Int) - 48)) (fun x hx => h x (by simp [hx])) (by omega)
    have hp : (0 : Int) ≤ 10 ^ l.length := Int.le_of_lt (Int.pow_pos (by omega))
    have h2 : (a * 10 + ((c.toNat : Int) - 48) + 1) * 10 ^ l.length ≤ ((a + 1) * 10) * 10 ^ l.length := Int.mul_le_mul_of_nonneg_right (by omega) hp
    rw [List.foldl_cons, List.length_cons, Int.pow_succ, Int.mul_comm (10 ^ l.length) 10, ← Int.mul_assoc]
    omega
theorem valL_nine (l : List UInt8) (h : DigL l) (hl : l.length ≤ 9) : valL l ≤ 999999999 := by
  have h1 := fold_lt l 0 h (by omega)
  have h2 : (10 : Int) ^ l.length ≤ 10 ^ 9 := by
    have : (10 : Nat) ^ l.length ≤ 10 ^ 9 := Nat.pow_le_pow_right (by omega) hl
    exact_mod_cast this
  unfold valL
  omega
theorem fold_app (l : List UInt8) : ∀ a : Int, List.foldl (fun a c => a * 10 + ((c.toNat : Int) - 48)) a l = a * 10 ^ l.length + valL l := by
  induction l with
  | nil => intro a; simp [valL]
  | cons c l ih =>
    intro a
    have e : valL (c :: l) = ((c.toNat : Int) - 48) * 10 ^ l.length + valL l := by
      show List.foldl _ (0 * 10 + ((c.toNat : Int) - 48)) l = _
      rw [ih, Int.zero_mul, Int.zero_add]
    rw [List.foldl_cons, ih, e, Int.add_mul, List.length_cons, Int.pow_succ, Int.mul_comm (10 ^ l.length) 10, Int.mul_assoc]
    omega
theorem valL_app (x g : List UInt8) : valL (x ++ g) = valL x * 10 ^ g.length + valL g := by
  show List.foldl _ 0 (x ++ g) = _
  rw [List.foldl_append, fold_app]
  rfl
/-- nine digits at once, from the end -/
def groups (l : List UInt8) (e : Nat) : List Int := if h : e = 0 then [] else valL ((l.take e).drop (e - 9)) :: groups l (e - 9)
termination_by e
decreasing_by omega
theorem groups_zero (l : List UInt8) : groups l 0 = [] := by rw [groups, dif_pos rfl]
theorem groups_pos (l : List UInt8) (e : Nat) (h : e ≠ 0) : groups l e = valL ((l.take e).drop (e - 9)) :: groups l (e - 9) := by rw [groups, dif_neg h]
theorem dig_part (l : List UInt8) (h : DigL l) (a b : Nat) : DigL ((l.take a).drop b) := fun c hc => h c (List.mem_of_mem_take (List.mem_of_mem_drop hc))
theorem groups_val (l : List UInt8) (h : DigL l) (e : Nat) : e ≤ l.length → nval (groups l e) = valL (l.take e) ∧ DigN (groups l e) ∧ (groups l e).length ≤ e := by
  induction e using Nat.strongRecOn with
  | _ e ih =>
    intro he
    by_cases h0 : e = 0
    · subst h0
      rw [groups_zero]
      exact ⟨by simp [nval, valL], (fun x hx => by cases hx), Nat.le_refl _⟩
    · rw [groups_pos l e h0]
      obtain ⟨i1, i2, i3⟩ := ih (e - 9) (by omega) (by omega)
      have hlen : ((l.take e).drop (e - 9)).length = e - (e - 9) := by rw [List.length_drop, List.length_take]; omega
      have hd := dig_part l h e (e - 9)
      have hv := valL_nine _ hd (by omega)
      have hn := valL_nonneg _ hd
      refine ⟨?_, DigN.cons hn hv i2, by simp; omega⟩
      show valL _ + 1000000000 * nval (groups l (e - 9)) = _
      rw [i1]
      have hsplit : l.take e = l.take (e - 9) ++ (l.take e).drop (e - 9) := by
        have h1 := (List.take_append_drop (e - 9) (l.take e)).symm
        rwa [List.take_take, show min (e - 9) e = e - 9 from by omega] at h1
      by_cases h9 : 9 ≤ e
      · conv => rhs; rw [hsplit, valL_app, hlen, show e - (e - 9) = 9 from by omega]
        omega
      · rw [show e - 9 = 0 from by omega]
        simp [valL]
theorem part_step (s : ByteArray) (i from_ : Nat) (h : i < s.size) (hf : from_ ≤ i) : valL ((s.data.toList.take (i + 1)).drop from_) = valL ((s.data.toList.take i).drop from_) * 10 + (s[i].toNat : Int) - 48 := by
  rw [List.take_succ_eq_append_getElem (by simpa using h), List.drop_append_of_le_length (by rw [List.length_take]; simp; omega), valL_snoc]
  show _ * 10 + ((s[i].toNat : Int) - 48) = _
  omega

/-- is s the decimal notation of a nat -/
def decOk (s : ByteArray) : Bool := digitsB s && decide (s.size ≤ 450) && !(decide (1 < s.size) && decide (s.data.toList.headD 0 = 48))
def TNPost (s : ByteArray) (w : World) (e : Ending) (w' : World) : Prop :=
  Below w.heap.size w w' ∧ ((decOk s = true ∧ ∃ v, e = .returned (.tuple #[v, .bool true]) ∧ w'.ownsRow w.heap.size 3 1 v (limbs (valL s.data.toList).toNat).length (intsV (limbs (valL s.data.toList).toNat))) ∨
    (decOk s = false ∧ e = .returned (.tuple #[.slice none 0 0, .bool false])))

/-- what the outer loop of TextNat knows at its head -/
def TextRel (s : ByteArray) (w : World) (v e : Value) (wr : World) : Prop :=
  ∃ (en : Int) (out : List Int), -9 ≤ en ∧ en ≤ s.size ∧ e = .int .i64 en ∧ out ++ groups s.data.toList en.toNat = groups s.data.toList s.size ∧
    wr.ownsRow w.heap.size 3 1 v out.length (intsV out) ∧ Below w.heap.size w wr
theorem text_step {s : ByteArray} {w w1 : World} {v1 : Value} {out : List Int} {m : Int} {k : Nat} (hk : k ≤ s.size) (h0 : 0 < k) (e : out ++ [m] ++ groups s.data.toList (k - 9) = groups s.data.toList s.size)
    (ho : w1.ownsRow w.heap.size 3 1 v1 (out.length + 1) (intsV out ++ [.int .i64 m])) (hb : Below w.heap.size w w1) : TextRel s w v1 (.int .i64 ((k : Int) - 9)) w1 := by
  refine ⟨(k : Int) - 9, out ++ [m], by omega, by omega, rfl, ?_, by simpa [intsV] using ho, hb⟩
  rw [show ((k : Int) - 9).toNat = k - 9 from by omega]
  exact e
theorem take_full (t : ByteArray) : t.data.toList.take t.size = t.data.toList := List.take_of_length_le (Nat.le_refl _)


theorem decOk_long (s : ByteArray) (h : ¬ s.size ≤ 450) : decOk s = false := by unfold decOk; rw [decide_eq_false h, Bool.and_false, Bool.false_and]
theorem decOk_dig (s : ByteArray) (h : digitsB s = false) : decOk s = false := by unfold decOk; rw [h, Bool.false_and, Bool.false_and]
theorem decOk_lead (s : ByteArray) (h1 : 1 < s.size) (h : s[0].toNat = 48) : decOk s = false := by
  have e : s.data.toList.headD 0 = 48 := by rw [head_get s (by omega)]; exact UInt8.toNat_inj.1 h
  unfold decOk
  rw [decide_eq_true h1, decide_eq_true e]
  simp
theorem decOk_yes (s : ByteArray) (hd : digitsB s = true) (h4 : s.size ≤ 450) (hl : ∀ h0 : 0 < s.size, ¬ (1 < s.size ∧ s[0].toNat = 48)) (h0 : 0 < s.size) : decOk s = true := by
  unfold decOk
  rw [hd, decide_eq_true h4]
  by_cases h1 : 1 < s.size
  · have e : ¬ s.data.toList.headD 0 = 48 := by
      rw [head_get s h0]
      intro e
      exact hl h0 ⟨h1, by rw [e]; rfl⟩
    rw [decide_eq_false e, Bool.and_false]
    rfl
  · rw [decide_eq_false h1]
    rfl


theorem limbs_len (k : Nat) : ∀ n : Nat, n < 1000000000 ^ k → (limbs n).length ≤ k := by
  induction k with
  | zero => intro n h; rw [show n = 0 by simp at h; exact h, limbs_none]; simp
  | succ k ih =>
    intro n h
    by_cases h0 : n = 0
    · rw [h0, limbs_none]; simp
    · rw [limbs_pos n h0, List.length_cons]
      have := ih (n / 1000000000) (by rw [Nat.pow_succ] at h; exact Nat.div_lt_of_lt_mul (by rw [Nat.mul_comm]; exact h))
      omega
theorem limbs_of_len (n : Int) (h : n ≤ 9223372036854775807) : (limbs n.toNat).length ≤ 3 := limbs_len 3 _ (by
  have : n.toNat ≤ 9223372036854775807 := by omega
  exact Nat.lt_of_le_of_lt this (by decide))
theorem trimL_le (xs : List Int) : (trimL xs).length ≤ xs.length := by
  induction xs with
  | nil => simp [trimL]
  | cons d r ih => unfold trimL; split <;> simp <;> omega
/-- what TextNat answers -/
def tnR (s : ByteArray) : List Int := if decOk s = true then limbs (valL s.data.toList).toNat else []
theorem tnR_len (s : ByteArray) : (tnR s).length ≤ 450 := by
  unfold tnR
  split
  · rename_i h
    have hd : digitsB s = true := by
      by_cases hd : digitsB s = true
      · exact hd
      · rw [decOk_dig s (by simpa using hd)] at h; exact absurd h (by decide)
    have h4 : s.size ≤ 450 := by
      by_cases h4 : s.size ≤ 450
      · exact h4
      · rw [decOk_long s h4] at h; exact absurd h (by decide)
    have hv := groups_val s.data.toList ((digitsB_iff s).1 hd).1 s.size (Nat.le_refl _)
    rw [take_full] at hv
    rw [← hv.1, ← trim_limbs _ hv.2.1]
    exact Nat.le_trans (trimL_le _) (Nat.le_trans hv.2.2 h4)
  · simp
/-- how TextNat ends: a new row, and whether the text is a number -/
def TNNew (s : ByteArray) (w : World) (e : Ending) (w' : World) : Prop :=
  ∃ v, e = .returned (.tuple #[v, .bool (decOk s)]) ∧ w'.ownsRow w.heap.size 3 1 v (tnR s).length (intsV (tnR s)) ∧ Below w.heap.size w w'
theorem TNPost.new {s : ByteArray} {w w' : World} {e : Ending} (h : TNPost s w e w') : TNNew s w e w' := by
  obtain ⟨hb, ⟨ho, v, rfl, hv⟩ | ⟨ho, rfl⟩⟩ := h
  · refine ⟨v, by rw [ho], ?_, hb⟩
    rw [show tnR s = limbs (valL s.data.toList).toNat by unfold tnR; rw [if_pos ho]]
    exact hv
  · refine ⟨_, by rw [ho], ?_, hb⟩
    rw [show tnR s = [] by unfold tnR; rw [ho]; rfl]
    exact nil_own
end Go.Proofs.YtbfolegllhpkjaaGreatDoor

namespace Go.Proofs.YtbfolegllhpkjaaGreatDoor
open Go.RowKit

theorem valL_dec (u : Nat) : valL (Lib.decDigits u) = u := by
  induction u using Nat.strongRecOn with
  | _ u ih =>
    by_cases h : u < 10
    · rw [dec_small u h]
      show (0 : Int) * 10 + (((UInt8.ofNat (48 + u)).toNat : Int) - 48) = u
      rw [UInt8.toNat_ofNat']
      omega
    · rw [dec_big u h, valL_snoc, ih (u / 10) (by omega), UInt8.toNat_ofNat']
      omega
theorem dig_dec (u : Nat) : DigL (Lib.decDigits u) ∧ Lib.decDigits u ≠ [] := by
  induction u using Nat.strongRecOn with
  | _ u ih =>
    by_cases h : u < 10
    · rw [dec_small u h]
      refine ⟨fun c hc => ?_, by simp⟩
      rw [List.mem_singleton.1 hc, UInt8.toNat_ofNat']
      omega
    · rw [dec_big u h]
      refine ⟨fun c hc => ?_, by simp⟩
      rcases List.mem_append.1 hc with hc | hc
      · exact (ih (u / 10) (by omega)).1 c hc
      · rw [List.mem_singleton.1 hc, UInt8.toNat_ofNat']
        omega
/-- s is the numeral of the int n -/
def IsNum (s : ByteArray) (n : Int) : Prop := numB n = s ∧ -9223372036854775808 ≤ n ∧ n ≤ 9223372036854775807

/-- without a leading '-' -/
def bareL (l : List UInt8) : List UInt8 := if l.headD 0 = 45 then l.tail else l
theorem isNum_parts (s : ByteArray) (n : Int) (h : IsNum s n) : DigL (bareL s.data.toList) ∧ bareL s.data.toList ≠ [] ∧ valL (bareL s.data.toList) = n.natAbs ∧ ((s.data.toList.headD 0 = 45) ↔ n < 0) ∧ (bareL s.data.toList).length ≤ 19 := by
  obtain ⟨rfl, h1, h2⟩ := h
  have hsz := numB_size n 18 (by omega)
  have e : (numB n).data.toList = Lib.itoa n := rfl
  have hsz' : (Lib.itoa n).length ≤ 20 := hsz
  rw [e]
  unfold Lib.itoa at hsz' ⊢
  by_cases hn : n < 0
  · rw [if_pos hn] at hsz' ⊢
    have hb : bareL (45 :: Lib.decDigits n.natAbs) = Lib.decDigits n.natAbs := rfl
    rw [hb]
    exact ⟨(dig_dec _).1, (dig_dec _).2, valL_dec _, by simp [hn], by simp at hsz'; omega⟩
  · rw [if_neg hn] at hsz' ⊢
    have hd := dig_dec n.toNat
    have hh : ¬ (Lib.decDigits n.toNat).headD 0 = 45 := by
      intro e2
      cases hc : Lib.decDigits n.toNat with
      | nil => exact hd.2 hc
      | cons c r =>
        rw [hc] at e2
        have h3 := hd.1 c (by rw [hc]; simp)
        have : c = 45 := e2
        rw [this] at h3
        simp at h3
    have hb : bareL (Lib.decDigits n.toNat) = Lib.decDigits n.toNat := by unfold bareL; rw [if_neg hh]
    rw [hb]
    refine ⟨hd.1, hd.2, by rw [valL_dec]; omega, ⟨fun e => absurd e hh, fun e => absurd e hn⟩, ?_⟩
    have h4 : ∀ (k u : Nat), u < 10 ^ (k + 1) → (Lib.decDigits u).length ≤ k + 1 := by
      intro k
      induction k with
      | zero => intro u hu; rw [dec_small u (by simpa using hu)]; simp
      | succ k ih =>
        intro u hu
        by_cases hs : u < 10
        · rw [dec_small u hs]; simp
        · rw [dec_big u hs, List.length_append]
          have := ih (u / 10) (by rw [Nat.pow_succ] at hu; omega)
          simp; omega
    exact h4 18 _ (by omega)
theorem isNum_inj (s : ByteArray) (n m : Int) (h : IsNum s n) (k : IsNum s m) : n = m := by
  obtain ⟨_, _, a1, a2, _⟩ := isNum_parts s n h
  obtain ⟨_, _, b1, b2, _⟩ := isNum_parts s m k
  rw [a1] at b1
  rw [a2] at b2
  omega

/-- what TextInt answers -/
def TIPost (s : ByteArray) (w : World) (e : Ending) (w' : World) : Prop :=
  Below w.heap.size w w' ∧ ((∃ n, IsNum s n ∧ e = .returned (.tuple #[.int .i64 n, .bool true])) ∨ ((∀ n, ¬ IsNum s n) ∧ e = .returned (.tuple #[.int .i64 0, .bool false])))

theorem wrap_step (a c : Int) : wrap64 (wrap64 (wrap64 a * 10) + c) = wrap64 (a * 10 + c) := by unfold wrap64; omega

set_option maxHeartbeats 400000 in
set_option maxRecDepth 100000 in
theorem digitsValue_any (s : ByteArray) (w : World) (hd : DigL s.data.toList) :
    Calls Tryz.prog 53 #[.string s] w fun e w' => e = .returned (.int .i64 (wrap64 (valL s.data.toList))) ∧ Below w.heap.size w w' := by
  have HD := Lib.hid hd
  clear hd
  go_enter Tryz.func53, Tryz.ntmps53
  go_wp2
  go_loopw [3] (fun a w' => ∃ (pos : Nat) (v : Int), pos ≤ s.size ∧ w' = w.iter s pos ∧ a = .int .i64 (wrap64 v) ∧ Hid (v = valL (s.data.toList.take pos))) (fun _ w' => s.size - w'.iterPos w.heap.size)
  case atStart => exact ⟨0, 0, Nat.zero_le _, rfl, by rw [show wrap64 0 = 0 from by unfold wrap64; omega], Lib.hid rfl⟩
  case round =>
    obtain ⟨pos, v, hpl, rfl, rfl, HV⟩ := hrel
    by_cases hp : pos < s.size
    · have hdg := dig_at s pos hp HD.out
      have hnx : ∀ ty, (Instr.next (.pointer (some ⟨w.heap.size, 0, none⟩)) true ty).run Tryz.prog (w.iter s pos) = _ := fun ty => run_next_ascii w s pos ty hp (by omega)
      have HT := Lib.hid (take_val s pos hp)
      go_wp2
      go_roundw
      case rel => exact ⟨pos + 1, v * 10 + ((s[pos].toNat : Int) - 48), by omega, rfl, by rw [wrap_step], Lib.hid (by rw [HT.out, HV.out])⟩
      case measure => simp; omega
    · have hnx : ∀ ty, (Instr.next (.pointer (some ⟨w.heap.size, 0, none⟩)) true ty).run Tryz.prog (w.iter s pos) = _ := fun ty => run_next_end w s pos ty hp
      go_wp2
      go_ret
      exact ⟨ret_int (by rw [HV.out, List.take_of_length_le (by simp; omega)]), (Below.refl _ _).alloc (Nat.le_refl _) _⟩

theorem prefix_head (l : List UInt8) : Lib.hasPrefix l [45] = decide (l.headD 0 = 45) := by
  unfold Lib.hasPrefix
  cases l with
  | nil => rfl
  | cons c r =>
    show (List.isPrefixOf [45] (c :: r)) = decide (c = 45)
    simp [List.isPrefixOf]
    by_cases h : c = 45
    · subst h; simp
    · rw [decide_eq_false h, beq_eq_false_iff_ne]
      exact fun e => h e.symm
theorem trim_bare (l : List UInt8) : Lib.trimPrefix l [45] = bareL l := by
  unfold Lib.trimPrefix bareL
  rw [prefix_head]
  by_cases h : l.headD 0 = 45
  · rw [if_pos h, if_pos (by simpa using h), List.length_singleton, List.drop_one]
  · rw [if_neg h, if_neg (by simpa using h)]
/-- the digits of a text, and whether it has a '-' ahead -/
def bareB (s : ByteArray) : ByteArray := ⟨(bareL s.data.toList).toArray⟩
def negB (s : ByteArray) : Bool := decide (s.data.toList.headD 0 = 45)
theorem cutPrefix_any (s : ByteArray) (w : World) :
    Calls Tryz.prog 20 #[.string s, .string ⟨#[45]⟩] w fun e w' => e = .returned (.tuple #[.string (bareB s), .bool (negB s)]) ∧ w = w' := by
  refine (Tryz.strings_CutPrefix s ⟨#[45]⟩ w).mono ?_
  rintro e w' ⟨rfl, rfl⟩
  exact ⟨by rw [trim_bare, prefix_head]; rfl, rfl⟩

/-- the int that impl.TextInt tries -/
def tryB (s : ByteArray) : Int := if negB s = true then wrap64 (-(wrap64 (valL (bareL s.data.toList)))) else wrap64 (valL (bareL s.data.toList))
theorem try_range (s : ByteArray) : -9223372036854775808 ≤ tryB s ∧ tryB s ≤ 9223372036854775807 := by
  unfold tryB
  split <;> (unfold wrap64; omega)
theorem try_is (s : ByteArray) (n : Int) (h : IsNum s n) : tryB s = n := by
  obtain ⟨_, _, h3, h4, _⟩ := isNum_parts s n h
  obtain ⟨_, h1, h2⟩ := h
  unfold tryB negB
  rw [h3]
  by_cases hn : n < 0
  · rw [if_pos (by rw [decide_eq_true_eq]; exact h4.2 hn)]
    unfold wrap64
    omega
  · rw [if_neg (by rw [decide_eq_true_eq]; exact fun e => hn (h4.1 e))]
    unfold wrap64
    omega
theorem no_num_digits (s : ByteArray) (h : digitsB (bareB s) = false) : ∀ n, ¬ IsNum s n := by
  intro n hn
  obtain ⟨h1, h2, _⟩ := isNum_parts s n hn
  rw [(digitsB_iff (bareB s)).2 ⟨h1, h2⟩] at h
  cases h
theorem no_num_try (s : ByteArray) (h : ¬ numB (tryB s) = s) : ∀ n, ¬ IsNum s n := by
  intro n hn
  apply h
  rw [try_is s n hn]
  exact hn.1
theorem bytes_ne' {a b : ByteArray} (h : ¬ a = b) : (a.toList == b.toList) = false := by
  rw [beq_eq_false_iff_ne, ByteArray.toList_eq, ByteArray.toList_eq]
  exact fun e => h (WideShapes.bytes_inj e)


theorem bareB_data (s : ByteArray) : (bareB s).data.toList = bareL s.data.toList := rfl
theorem negB_head (s : ByteArray) (h0 : 0 < s.size) : negB s = ((s[0].toNat : Int) == 45) := by
  unfold negB
  rw [head_get s h0]
  by_cases h : s[0] = 45
  · rw [h]; rfl
  · rw [decide_eq_false h]
    symm
    rw [beq_eq_false_iff_ne]
    intro e
    exact h (UInt8.toNat_inj.1 (by show s[0].toNat = 45; omega))
theorem bareB_tail (s : ByteArray) (h : negB s = true) : s.extract 1 s.size = bareB s := by
  apply WideShapes.bytes_inj
  rw [bareB_data, Lib.extract_to_end]
  unfold bareL
  rw [if_pos (by simpa [negB] using h), List.drop_one]
theorem bareB_self (s : ByteArray) (h : negB s = false) : bareB s = s := by
  apply WideShapes.bytes_inj
  rw [bareB_data]
  unfold bareL
  rw [if_neg (by simpa [negB] using h)]
theorem negB_nil (s : ByteArray) (h : ¬ 0 < s.size) : negB s = false := by
  obtain ⟨⟨l⟩⟩ := s
  cases l with
  | nil => rfl
  | cons a r => simp [ByteArray.size] at h
theorem no_num_long (s : ByteArray) (h : 19 < (bareB s).size) : ∀ n, ¬ IsNum s n := by
  intro n hn
  obtain ⟨_, _, _, _, h5⟩ := isNum_parts s n hn
  have : (bareB s).size = (bareL s.data.toList).length := rfl
  omega
theorem no_num_big (s : ByteArray) (k : Nat) (hd : DigL (bareB s).data.toList) (h : 9223372036854775808 < valL ((bareB s).data.toList.take k)) : ∀ n, ¬ IsNum s n := by
  intro n hn
  obtain ⟨_, _, h3, _, _⟩ := isNum_parts s n hn
  obtain ⟨_, h1, h2⟩ := hn
  have hm := valL_mono ((bareB s).data.toList.take k) ((bareB s).data.toList.drop k) (by rw [List.take_append_drop]; exact hd)
  rw [List.take_append_drop, bareB_data, h3] at hm
  rw [bareB_data] at h
  omega
theorem no_num_min (s : ByteArray) (hn : negB s = false) (h : valL (bareB s).data.toList = 9223372036854775808) : ∀ n, ¬ IsNum s n := by
  intro n hx
  obtain ⟨_, _, h3, h4, _⟩ := isNum_parts s n hx
  obtain ⟨_, h1, h2⟩ := hx
  rw [bareB_data, h3] at h
  have : ¬ n < 0 := fun e => by have h5 := h4.2 e; unfold negB at hn; rw [decide_eq_true h5] at hn; cases hn
  omega
/-- the int that spec.TextInt tries -/
theorem try_neg (s : ByteArray) (hn : negB s = true) (h0 : 0 ≤ valL (bareB s).data.toList) (h : valL (bareB s).data.toList ≤ 9223372036854775808) : -valL (bareB s).data.toList = tryB s := by
  rw [bareB_data] at h h0 ⊢
  unfold tryB
  rw [if_pos hn]
  unfold wrap64
  omega
theorem try_pos (s : ByteArray) (hn : negB s = false) (h0 : 0 ≤ valL (bareB s).data.toList) (h : valL (bareB s).data.toList ≤ 9223372036854775807) : valL (bareB s).data.toList = tryB s := by
  rw [bareB_data] at h h0 ⊢
  unfold tryB
  rw [if_neg (by simp [hn])]
  unfold wrap64
  omega
theorem take_all (t : ByteArray) : t.data.toList.take t.size = t.data.toList := List.take_of_length_le (Nat.le_refl _)
/-- the bound that the loop of spec.TextInt asks -/
theorem quo_bound (v d : Int) (hd : 0 ≤ d) (hd9 : d ≤ 9) : (-v < (-9223372036854775808 + d).tdiv 10) ↔ 9223372036854775808 < v * 10 + d := by
  have h := quo_rem (-9223372036854775808 + d) (by omega)
  omega






end Go.Proofs.YtbfolegllhpkjaaGreatDoor

namespace Go.Proofs.YtbfolegllhpkjaaGreatDoor
open Go.RowKit

theorem dec_len : ∀ (k u : Nat), u < 10 ^ (k + 1) → (Lib.decDigits u).length ≤ k + 1 := by
  intro k
  induction k with
  | zero => intro u hu; rw [dec_small u (by simpa using hu)]; simp
  | succ k ih =>
    intro u hu
    by_cases hs : u < 10
    · rw [dec_small u hs]; simp
    · rw [dec_big u hs, List.length_append]
      have := ih (u / 10) (by rw [Nat.pow_succ] at hu; omega)
      simp; omega
theorem num_list (d : Int) (h : 0 ≤ d) : (numB d).data.toList = Lib.decDigits d.toNat := by
  show Lib.itoa d = _
  unfold Lib.itoa
  rw [if_neg (by omega)]
theorem limb_nine {d : Int} (h : 0 ≤ d ∧ d ≤ 999999999) : (numB d).size ≤ 9 := by
  have := dec_len 8 d.toNat (by omega)
  rw [← num_list d h.1] at this
  exact this
theorem pad_nine {d : Int} (h : 0 ≤ d ∧ d ≤ 999999999) : (padB (numB d) 9).size = 9 := by
  have h9 := limb_nine h
  unfold padB
  show (List.toArray _).size = 9
  rw [List.size_toArray, List.length_append, List.length_replicate]
  have : (numB d).data.toList.length = (numB d).size := rfl
  have : (9 : Int).toNat = 9 := rfl
  omega
/-- how long the text of limbs is -/
theorem natT_len (a : List Int) (h : DigN a) (h0 : 0 < a.length) : (natT a).size = (a.length - 1) * 9 + (numB (a[a.length - 1]'(by omega))).size := by
  induction a with
  | nil => simp at h0
  | cons d r ih =>
    cases r with
    | nil => unfold natT; simp
    | cons e r =>
      have hi := ih (fun x hx => h x (by simp at hx ⊢; exact .inr hx)) (by simp)
      unfold natT
      rw [ByteArray.size_append, hi, pad_nine (h d (by simp))]
      simp only [List.length_cons]
      have e1 : (d :: e :: r)[r.length + 1 + 1 - 1] = (e :: r)[r.length + 1 - 1] := by simp
      rw [e1]
      omega

/-- the last k digits -/
def lastD : Nat → Nat → List UInt8
  | 0, _ => []
  | k + 1, u => lastD k (u / 10) ++ [UInt8.ofNat (48 + u % 10)]
theorem dec_split (k : Nat) : ∀ u : Nat, 10 ^ k ≤ u → Lib.decDigits u = Lib.decDigits (u / 10 ^ k) ++ lastD k u := by
  induction k with
  | zero => intro u _; simp [lastD]
  | succ k ih =>
    intro u hu
    rw [Nat.pow_succ] at hu
    have hp : 0 < 10 ^ k := Nat.pow_pos (by omega)
    have h10 : ¬ u < 10 := by omega
    have hk : 10 ^ k ≤ u / 10 := by omega
    rw [dec_big u h10, ih (u / 10) hk, Nat.div_div_eq_div_mul, Nat.mul_comm 10, ← Nat.pow_succ, List.append_assoc]
    rfl
theorem lastD_mod (k : Nat) : ∀ u : Nat, lastD k u = lastD k (u % 10 ^ k) := by
  induction k with
  | zero => intro u; rfl
  | succ k ih =>
    intro u
    have e1 : u % 10 ^ (k + 1) / 10 = u / 10 % 10 ^ k := by
      rw [Nat.pow_succ, Nat.mul_comm, Nat.mod_mul_right_div_self]
    have e2 : u % 10 ^ (k + 1) % 10 = u % 10 := by
      rw [Nat.pow_succ, Nat.mul_comm]
      exact Nat.mod_mul_right_mod _ _ _
    show lastD k (u / 10) ++ _ = lastD k (u % 10 ^ (k + 1) / 10) ++ _
    rw [e1, e2, ← ih (u / 10)]
theorem lastD_zero (k : Nat) : lastD k 0 = List.replicate k 48 := by
  induction k with
  | zero => rfl
  | succ k ih =>
    show lastD k (0 / 10) ++ [UInt8.ofNat (48 + 0 % 10)] = _
    rw [Nat.zero_div, ih, List.replicate_succ']
    rfl
theorem lastD_pad (k : Nat) : ∀ u : Nat, u < 10 ^ k → 0 < k → lastD k u = List.replicate (k - (Lib.decDigits u).length) 48 ++ Lib.decDigits u := by
  induction k with
  | zero => intro u _ h; omega
  | succ k ih =>
    intro u hu _
    show lastD k (u / 10) ++ [UInt8.ofNat (48 + u % 10)] = _
    by_cases h10 : u < 10
    · rw [dec_small u h10, show u / 10 = 0 by omega, lastD_zero, show u % 10 = u by omega]
      simp
    · rw [dec_big u h10]
      have hk : 0 < k := by
        rcases Nat.eq_zero_or_pos k with h | h
        · subst h; simp at hu; omega
        · exact h
      rw [ih (u / 10) (by rw [Nat.pow_succ] at hu; omega) hk, List.append_assoc]
      congr 2
      simp
/-- the text of the limbs of a number is its numeral -/
theorem natT_dec (n : Nat) : (natT (limbs n)).data.toList = Lib.decDigits n := by
  induction n using Nat.strongRecOn with
  | _ n ih =>
    by_cases h0 : n = 0
    · subst h0
      rw [limbs_none, dec_small 0 (by omega)]
      rfl
    · rw [limbs_pos n h0]
      by_cases hs : n / 1000000000 = 0
      · rw [hs, limbs_none]
        show (numB _).data.toList = _
        rw [num_list _ (by omega), show (((n % 1000000000 : Nat) : Int)).toNat = n by omega]
      · have hi := ih (n / 1000000000) (by omega)
        rw [limbs_pos _ hs] at hi ⊢
        show (natT _ ++ padB (numB _) 9).data.toList = _
        rw [ByteArray.data_append, Array.toList_append, hi, dec_split 9 n (by omega), lastD_mod 9 n, lastD_pad 9 (n % 10 ^ 9) (by omega) (by omega)]
        unfold padB
        rw [num_list _ (by omega)]
        have e : (numB ((n % 1000000000 : Nat) : Int)).size = (Lib.decDigits (n % 10 ^ 9)).length := by
          show (numB _).data.toList.length = _
          rw [num_list _ (by omega), show (((n % 1000000000 : Nat) : Int)).toNat = n % 10 ^ 9 by omega]
        rw [e, show (((n % 1000000000 : Nat) : Int)).toNat = n % 10 ^ 9 by omega]
        rfl

theorem limbs_dig (n : Nat) : DigN (limbs n) := by
  induction n using Nat.strongRecOn with
  | _ n ih =>
    by_cases h0 : n = 0
    · subst h0; rw [limbs_none]; exact fun d hd => by cases hd
    · rw [limbs_pos n h0]
      exact DigN.cons (by omega) (by omega) (ih _ (by omega))
theorem limbs_last (n : Nat) : (limbs n).getLastD 1 ≠ 0 := by
  induction n using Nat.strongRecOn with
  | _ n ih =>
    by_cases h0 : n = 0
    · subst h0; rw [limbs_none]; decide
    · rw [limbs_pos n h0]
      by_cases hs : n / 1000000000 = 0
      · rw [hs, limbs_none]
        show ((n % 1000000000 : Nat) : Int) ≠ 0
        omega
      · have hi := ih (n / 1000000000) (by omega)
        rw [limbs_pos _ hs] at hi ⊢
        simpa using hi
theorem limbs_ok (n : Nat) (h : (limbs n).length ≤ 50) : natOkB (limbs n) = true := by
  unfold natOkB
  rw [(all_dig _).2 (limbs_dig n), decide_eq_true h, decide_eq_true (limbs_last n)]
  rfl
theorem natText_limbs (n : Nat) (h : (limbs n).length ≤ 50) : (natTextB (limbs n)).data.toList = Lib.decDigits n := by
  unfold natTextB
  rw [if_pos (limbs_ok n h), natT_dec]
theorem groups_len (l : List UInt8) (e : Nat) : (groups l e).length ≤ (e + 8) / 9 := by
  induction e using Nat.strongRecOn with
  | _ e ih =>
    by_cases h0 : e = 0
    · subst h0; rw [groups_zero]; simp
    · rw [groups_pos l e h0, List.length_cons]
      have := ih (e - 9) (by omega)
      omega

/-! ### numerals -/
theorem dec_head (u : Nat) (h : 0 < u) : (Lib.decDigits u).headD 0 ≠ 48 := by
  induction u using Nat.strongRecOn with
  | _ u ih =>
    by_cases h10 : u < 10
    · rw [dec_small u h10]
      show UInt8.ofNat (48 + u) ≠ 48
      intro e
      have := congrArg UInt8.toNat e
      rw [UInt8.toNat_ofNat'] at this
      have h48 : (48 : UInt8).toNat = 48 := rfl
      omega
    · have hi := ih (u / 10) (by omega) (by omega)
      have hd := (dig_dec (u / 10)).2
      rw [dec_big u h10]
      cases hc : Lib.decDigits (u / 10) with
      | nil => exact absurd hc hd
      | cons c r => rw [hc] at hi; simpa using hi
theorem val_pos (l : List UInt8) (h : DigL l) (hne : l ≠ []) (hh : l.headD 0 ≠ 48) : 0 < valL l := by
  cases l with
  | nil => exact absurd rfl hne
  | cons c r =>
    have e : valL (c :: r) = ((c.toNat : Int) - 48) * 10 ^ r.length + valL r := by
      show List.foldl _ (0 * 10 + ((c.toNat : Int) - 48)) r = _
      rw [fold_app, Int.zero_mul, Int.zero_add]
    have hc := h c (by simp)
    have hc48 : c.toNat ≠ 48 := fun e2 => hh (by
      show c = 48
      apply UInt8.toNat_inj.1
      rw [e2]; rfl)
    have hr := valL_nonneg r (fun x hx => h x (by simp [hx]))
    have hp : (0 : Int) < 10 ^ r.length := Int.pow_pos (by omega)
    have hm := Int.mul_le_mul_of_nonneg_right (show (1 : Int) ≤ (c.toNat : Int) - 48 by omega) (Int.le_of_lt hp)
    omega
theorem dec_val_rev (l : List UInt8) (h : DigL l.reverse) (hne : l ≠ []) (hh : l.reverse.length = 1 ∨ l.reverse.headD 0 ≠ 48) : Lib.decDigits (valL l.reverse).toNat = l.reverse := by
  induction l with
  | nil => exact absurd rfl hne
  | cons c m ih =>
    rw [List.reverse_cons] at h hh ⊢
    have hc := h c (by simp)
    have ec : ∀ x : Nat, x = c.toNat - 48 → UInt8.ofNat (48 + x) = c := by
      intro x hx
      apply UInt8.toNat_inj.1
      rw [UInt8.toNat_ofNat', hx]
      omega
    have hm : DigL m.reverse := fun x hx => h x (by rw [List.mem_append]; exact .inl hx)
    rw [valL_snoc]
    by_cases hn : m = []
    · subst hn
      have e0 : valL ([] : List UInt8).reverse = 0 := rfl
      rw [e0, dec_small _ (by omega), ec _ (by omega)]
      rfl
    · have hh2 : m.reverse.headD 0 ≠ 48 := by
        have hr : m.reverse ≠ [] := by simpa using hn
        rcases hh with hh | hh
        · rw [List.length_append, List.length_singleton] at hh
          have : m.reverse.length ≠ 0 := fun e => hr (List.eq_nil_of_length_eq_zero e)
          omega
        · cases hcm : m.reverse with
          | nil => exact absurd hcm hr
          | cons x y => rw [hcm] at hh; simpa using hh
      have hp := val_pos m.reverse hm (by simpa using hn) hh2
      have hi := ih hm hn (.inr hh2)
      rw [dec_big _ (by omega), show (valL m.reverse * 10 + ((c.toNat : Int) - 48)).toNat / 10 = (valL m.reverse).toNat by omega, hi, ec _ (by omega)]
/-- a text of digits is the numeral of its value where it has no zero ahead -/
theorem dec_val (l : List UInt8) (h : DigL l) (hne : l ≠ []) : Lib.decDigits (valL l).toNat = l ↔ ¬ (1 < l.length ∧ l.headD 0 = 48) := by
  constructor
  · intro e ⟨h1, h2⟩
    by_cases h0 : 0 < (valL l).toNat
    · have := dec_head _ h0
      rw [e] at this
      exact this h2
    · rw [show (valL l).toNat = 0 by omega, dec_small 0 (by omega)] at e
      rw [← e] at h1
      simp at h1
  · intro hn
    have hl : 0 < l.length := List.length_pos_iff.2 hne
    have := dec_val_rev l.reverse (by rw [List.reverse_reverse]; exact h) (by simpa using hne) (by
      rw [List.reverse_reverse]
      by_cases h1 : l.length = 1
      · exact .inl h1
      · exact .inr (fun e => hn ⟨by omega, e⟩))
    rwa [List.reverse_reverse] at this
end Go.Proofs.YtbfolegllhpkjaaGreatDoor
