/-
  Amounts of money in plain words: what impl's ways of reckoning come to.
  Locals of struct types in their boxes, and the words that every kind of struct answers to: to, eq, sz, mark, held. Kind S: impl.Signed.
  Values of type impl.Money: what laws.toMoney, eqMoney, markMoney, heldMoney and szMoney return; results that lie in their boxes.
  Plain facts on fractions: a signed numerator, the limbs of a denominator.
  Values of type impl.Rat: what laws.toRat, eqRat, markRat, heldRat and szRat return.
  The words that kind R, impl.Rat, answers to: to, eq, sz, mark, held.
  What the functions of chapter 3 of package spec return, for slices that read as lists of limbs.
  What NatAdd, NatSub, NatOf and NatInt of package spec return.
  Products of limbs, and what l02Mul and NatMul of package spec return.
  What NatOf and NatInt of package spec return.
  What l03Small and l03Digit of package spec return.
-/
import Derived.Test.YtcenmdiblbooeaaGreatDoorJB1
namespace Go.Proofs.YtcenmdiblbooeaaGreatDoor
open Go.RowKit

theorem negS_parts {x : SI} (h : okS x = true) : negS x = (decide (0 < cmpS x zeroS), x.2) := by
  have e := okS_ofZ h
  have hl : (limbs (valS x).natAbs).length ≤ 50 := by
    by_cases hl : (limbs (valS x).natAbs).length ≤ 50
    · exact hl
    · have e2 := e.symm.trans (ofZ_big hl)
      subst e2
      rw [zeroS_val, show (0 : Int).natAbs = 0 from rfl, show limbs 0 = [] by rw [limbs, dif_pos rfl]]
      decide
  have e2 : limbs (valS x).natAbs = x.2 := by
    unfold ofZ at e
    rw [if_pos hl] at e
    exact congrArg Prod.snd e
  unfold negS cmpS
  rw [if_pos h, if_pos ⟨h, zeroS_ok⟩, zeroS_val]
  unfold ofZ
  rw [Int.natAbs_neg, if_pos hl, e2]
  congr 1
  unfold cmpI
  rw [decide_eq_decide]
  split
  · omega
  · split <;> omega
theorem addS_zeroL {x : SI} (h : okS x = true) : addS zeroS x = x := by
  unfold addS
  rw [if_pos ⟨zeroS_ok, h⟩, zeroS_val, Int.zero_add, okS_ofZ h]
theorem okM_parts {m : MI} (h : okM m = true) : knownC m.1 = true ∧ okS m.2 = true ∧ m.2.2.length ≤ 4 := by
  unfold okM at h
  rw [Bool.and_eq_true, Bool.and_eq_true, decide_eq_true_eq] at h
  exact ⟨h.1.1, h.1.2, h.2⟩
theorem okM_of {m : MI} (h1 : knownC m.1 = true) (h2 : okS m.2 = true) (h3 : m.2.2.length ≤ 4) : okM m = true := by
  unfold okM
  rw [h1, h2, decide_eq_true h3]
  rfl
theorem bothM_parts {m n : MI} (h : bothM m n = true) : okM m = true ∧ okM n = true ∧ m.1 = n.1 := by
  unfold bothM at h
  rw [Bool.and_eq_true, Bool.and_eq_true, decide_eq_true_eq] at h
  exact ⟨h.1.1, h.1.2, h.2⟩
theorem knownC_empty : knownC ⟨#[]⟩ = false := by decide +kernel
theorem okM_zero : okM zeroM = false := by
  unfold okM
  rw [show knownC zeroM.1 = false from knownC_empty]
  rfl
theorem okM_negS {m : MI} (h : okM m = true) : okM (m.1, negS m.2) = true := by
  obtain ⟨h1, h2, h3⟩ := okM_parts h
  refine okM_of h1 (negS_ok _) ?_
  show (negS m.2).2.length ≤ 4
  rw [negS_parts h2]
  exact h3
theorem negM_good {m : MI} (h : okM m = true) : negM m = ((m.1, (decide (0 < cmpS m.2 zeroS), m.2.2)), true) := by
  unfold negM makeM
  rw [if_pos h, if_pos (okM_negS h), negS_parts (okM_parts h).2.1]
theorem negM_bad {m : MI} (h : ¬ okM m = true) : negM m = (zeroM, false) := by unfold negM; rw [if_neg h]
theorem negM_len {m : MI} (h : m.2.2.length ≤ 1048576) : (negM m).1.2.2.length ≤ 1048576 := by
  by_cases hk : okM m = true
  · rw [negM_good hk]; exact h
  · rw [negM_bad hk]; exact Nat.zero_le _
theorem sub_neg (m n : MI) : addM m (negM n).1 = subM m n := by
  by_cases h : okM n = true
  · have hp := okM_parts h
    have e : (negM n).1 = (n.1, negS n.2) := by rw [negM_good h, negS_parts hp.2.1]
    rw [e]
    unfold addM subM
    rw [show bothM m (n.1, negS n.2) = bothM m n by unfold bothM; rw [okM_negS h, h]]
    by_cases hb : bothM m n = true
    · rw [if_pos hb, if_pos hb]
      have hm := (okM_parts (bothM_parts hb).1).2.1
      show makeM m.1 (addS m.2 (negS n.2)) = makeM m.1 (subS m.2 n.2)
      congr 1
      unfold addS subS
      rw [if_pos ⟨hm, negS_ok _⟩, if_pos ⟨hm, hp.2.1⟩, negS_val hp.2.1, Int.sub_eq_add_neg]
    · rw [if_neg hb, if_neg hb]
  · rw [negM_bad h]
    unfold addM subM
    rw [if_neg (by unfold bothM; rw [okM_zero, Bool.and_false, Bool.false_and]; decide), if_neg (fun hb => h (bothM_parts hb).2.1)]
theorem okM_size {m : MI} (h : okM m = true) : m.1.size ≤ 3 := by
  obtain ⟨r, hr, e, _⟩ := known_row (okM_parts h).1
  rw [← e]
  have h : (specT.all fun r => decide (r.1.size ≤ 3)) = true := by decide +kernel
  exact of_decide_eq_true (List.all_eq_true.1 h r hr)
theorem makeM_sz (cu : ByteArray) (x : SI) : szM (makeM cu x).1 ≤ 1048576 := by
  unfold makeM
  split
  · rename_i h
    have h1 := okM_size h
    have h2 := (okM_parts h).2.2
    dsimp only at h1 h2
    unfold szM szS szI
    dsimp only
    omega
  · decide
theorem addM_sz (m n : MI) : szM (addM m n).1 ≤ 1048576 := by unfold addM; split; exact makeM_sz _ _; decide
theorem subM_sz (m n : MI) : szM (subM m n).1 ≤ 1048576 := by unfold subM; split; exact makeM_sz _ _; decide
theorem negM_sz (m : MI) : szM (negM m).1 ≤ 1048576 := by unfold negM; split; exact makeM_sz _ _; decide
theorem timesM_sz (m : MI) (k : Int) : szM (timesM m k).1 ≤ 1048576 := by unfold timesM; split; exact makeM_sz _ _; decide
end Go.Proofs.YtcenmdiblbooeaaGreatDoor

namespace Go.Proofs.YtcenmdiblbooeaaGreatDoor
open Go.RowKit

/-- a new local of a struct type: its box, and the memory that it leads to -/
def NewLocV (T : TypeId) (φ : Value → World → Prop) (W0 : World) (s : Value) (W : World) : Prop :=
  ∃ (g : Nat) (cs : Array Value) (S : List Nat), s = .pointer (some ⟨g, 0, none⟩) ∧ At [g] (BoxAt g cs T) W ∧ At S (φ (.agg cs)) W ∧ g ∉ S ∧ Within (g :: S) W0.heap.size W.heap.size ∧ Below W0.heap.size W0 W
theorem within_up {S : List Nat} {a b c d : Nat} (h : Within S a b) (ha : c ≤ a) (hb : b ≤ d) : Within S c d := fun g hg => by have := h g hg; omega
theorem newLocV_last {T : TypeId} {φ : Value → World → Prop} {W0 W W1 : World} {cs : Array Value} {S : List Nat} (o : At S (φ (.agg cs)) W) (l : Within S W1.heap.size W.heap.size) (hB : W0.heap.size ≤ W1.heap.size) (hW : Below W0.heap.size W0 W) :
    NewLocV T φ W0 (.pointer (some ⟨W.heap.size, 0, none⟩)) (W.alloc (.cells cs T)) :=
  ⟨W.heap.size, cs, S, rfl, box_new W cs T, o.below (below_al (Below.refl _ _) _), fun h => by have := l _ h; omega, fun i hi => by
    rcases List.mem_cons.1 hi with rfl | hi
    · exact ⟨hW.size, by simp⟩
    · have := l i hi
      simp
      omega, below_al hW _⟩
theorem newLocV_of {T : TypeId} {φ : Value → World → Prop} {W0 W W' : World} {g : Nat} {cs : Array Value} {S : List Nat} {B : Nat} (hb : BoxAt g cs T W') (o : At S (φ (.agg cs)) W) (l : Within S B W.heap.size) (hg : W0.heap.size ≤ g) (hgB : g < B) (hc : Chg [g] W W') (hW : Below W0.heap.size W0 W) :
    NewLocV T φ W0 (.pointer (some ⟨g, 0, none⟩)) W' := by
  have hn : g ∉ S := fun h => by have := l _ h; omega
  have h1 := (Array.getElem?_eq_some_iff.1 hb).1
  have hz := hc.size
  refine ⟨g, cs, S, rfl, box_at hb, o.chg hc (fun i hi hm => by simp at hm; subst hm; exact hn hi), hn, fun i hi => ?_, below_chg hW hc hW.size (fun i hi => by simp at hi; omega)⟩
  rcases List.mem_cons.1 hi with rfl | hi
  · exact ⟨hg, h1⟩
  · have := l i hi
    omega
theorem newLocV_early2 {T : TypeId} {φ : Value → World → Prop} {W0 W W1 : World} {g : Nat} {z0 z1 c0 c1 : Value} {S : List Nat} (hb : BoxAt g #[z0, z1] T W) (o : At S (φ (.agg #[c0, c1])) W) (l : Within S W1.heap.size W.heap.size) (hg : W0.heap.size ≤ g) (hgB : g < W1.heap.size) (hW : Below W0.heap.size W0 W) :
    NewLocV T φ W0 (.pointer (some ⟨g, 0, none⟩)) ((W.setCell ⟨g, 0, none⟩ c0).setCell ⟨g, 1, none⟩ c1) :=
  have hb' : W.heap[g]? = some (.cells #[z0, z1] T (0, 0)) := hb
  newLocV_of (by simp [BoxAt, World.setCell, Array.getElem?_modify, hb']) o l hg hgB (((Chg.refl _ _).setCell (by simp) _).setCell (by simp) _) hW
theorem newLocV_early3 {T : TypeId} {φ : Value → World → Prop} {W0 W W1 : World} {g : Nat} {z0 z1 z2 c0 c1 c2 : Value} {S : List Nat} (hb : BoxAt g #[z0, z1, z2] T W) (o : At S (φ (.agg #[c0, c1, c2])) W) (l : Within S W1.heap.size W.heap.size) (hg : W0.heap.size ≤ g) (hgB : g < W1.heap.size) (hW : Below W0.heap.size W0 W) :
    NewLocV T φ W0 (.pointer (some ⟨g, 0, none⟩)) (((W.setCell ⟨g, 0, none⟩ c0).setCell ⟨g, 1, none⟩ c1).setCell ⟨g, 2, none⟩ c2) :=
  have hb' : W.heap[g]? = some (.cells #[z0, z1, z2] T (0, 0)) := hb
  newLocV_of (by simp [BoxAt, World.setCell, Array.getElem?_modify, hb']) o l hg hgB ((((Chg.refl _ _).setCell (by simp) _).setCell (by simp) _).setCell (by simp) _) hW
theorem At.below_lt {g : Nat} {φ : World → Prop} {w w' : World} (h : At [g] φ w) (hb : Below w.heap.size w w') : At [g] φ w' ∧ g < w.heap.size := ⟨h.below hb, h.lt g (by simp)⟩
theorem below_set3 {W0 W : World} {g : Nat} {a b c : Value} (h : Below W0.heap.size W0 W) (hg : W0.heap.size ≤ g) : Below W0.heap.size W0 (((W.setCell ⟨g, 0, none⟩ a).setCell ⟨g, 1, none⟩ b).setCell ⟨g, 2, none⟩ c) := ((h.setCell (p := ⟨g, 0, none⟩) hg _).setCell (p := ⟨g, 1, none⟩) hg _).setCell (p := ⟨g, 2, none⟩) hg _
theorem At.more {S U : List Nat} {φ : World → Prop} {w : World} (h : At S φ w) (hs : ∀ g ∈ S, g ∈ U) (hl : ∀ g ∈ U, g < w.heap.size) : At U φ w := ⟨h.here, hl, fun w' hk => h.stays w' fun g hg => hk g (hs g hg)⟩
/-- a fact that says what limbs a slice holds leans on their block -/
theorem at_ints_mem {S : List Nat} {φ : World → Prop} {w : World} {u : Value} {xs : List Int} (h : At S φ w) (hi : ∀ w', φ w' → OwnI u xs w') : ∀ g, u.ownBlock = some g → g ∈ S := by
  intro g hg
  rcases Classical.em (g ∈ S) with hin | hout
  · exact hin
  · exfalso
    have hst := hi _ (h.stays { w with heap := w.heap.set! g (.cells #[] 4 (0, 0)) } (fun i hi => by
      have : i ≠ g := fun e => hout (e ▸ hi)
      simp [Ne.symm this]))
    have hlt := (own_lt (hi _ h.here) hg).2
    obtain ⟨_, ⟨rfl, _⟩ | ⟨g', cap, cur, rfl, _, hh, _⟩⟩ := hst
    · cases hg
    · cases hg
      have hlt' : g' < w.heap.size := hlt
      have hh' : (w.heap.setIfInBounds g' (.cells #[] 4 (0, 0)))[g']? = some (.cells cur 3 (0, 0)) := hh
      rw [Array.getElem?_setIfInBounds_self_of_lt hlt'] at hh'
      simp at hh'
theorem toList_own {u : Value} {S : List Nat} (h : ∀ g, u.ownBlock = some g → g ∈ S) : ∀ g ∈ u.ownBlock.toList, g ∈ S := fun g hg => h g (by simpa using hg)

/-! ### kind S: impl.Signed -/
def capS (x : SI) : Prop := x.2.length ≤ 9223372036854775807
theorem szS_nonneg (x : SI) : 0 ≤ szS x := by unfold szS szI; omega
theorem capS_of {x : SI} (h : szS x ≤ 1048576) : capS x := by unfold szS szI at h; unfold capS; omega
theorem ownS_form {v : Value} {x : SI} {w : World} (h : OwnS v x w) : ∃ A c, v = .agg #[.bool x.1, .slice A x.2.length c] := by
  obtain ⟨u, rfl, o⟩ := h
  obtain ⟨A, c, rfl⟩ := own_len o
  exact ⟨A, c, rfl⟩
theorem rdS_form {v : Value} {x : SI} {w : World} (h : RdS w v x) : ∃ A c, v = .agg #[.bool x.1, .slice A x.2.length c] := by
  obtain ⟨u, rfl, o⟩ := h
  obtain ⟨A, c, rfl⟩ := row_form o
  rw [intsV_length]
  exact ⟨A, c, rfl⟩
theorem RdS.below {w W : World} {v : Value} {x : SI} (h : RdS w v x) (hb : Below w.heap.size w W) : RdS W v x := by
  obtain ⟨u, rfl, o⟩ := h
  exact ⟨u, rfl, (o.below hb (Nat.le_refl _)).wide (Nat.le_refl _) hb.size⟩
theorem NewS.newV {x : SI} {w w' : World} {e : Ending} (h : NewS x w e w') : NewV (fun v => OwnS v x) w e w' := by
  obtain ⟨u, rfl, o, b⟩ := h
  exact ⟨_, u.ownBlock.toList, rfl, (own_at' o).imp fun _ h => OwnS.mk h, own_within o, b⟩
theorem toS_new (v : Value) (x : SI) (w : World) (hz : szS x ≤ 1048576) (h : RdS w v x) : Calls Tryz.prog 57 #[v] w (NewV (fun u => OwnS u x) w) :=
  (toSigned_at v x w (by unfold szS szI at hz; omega) h).mono fun _ _ h => h.newV
theorem eqS_cal (u v : Value) (x y : SI) (w : World) (hz : capS x) (hu : RdS w u x) (hv : RdS w v y) : Calls Tryz.prog 51 #[u, v] w (Postb (decide (x = y)) w) :=
  eqSigned_at u v x y w hz hu hv
theorem szS_cal (v : Value) (x : SI) (left : Int) (w : World) (hl : capS x) (h0 : 0 ≤ left) (h1 : left ≤ 1048576) (h : RdS w v x) : Calls Tryz.prog 54 #[v, .int .i64 left] w (Postn (leftI left (szS x)) w) :=
  szSigned_at v x left w hl h0 h1 h
theorem markS_cal (v : Value) (x : SI) (S : List Nat) (m : Int) (w : World) (hm : m + szS x ≤ 9223372036854775807) (hm0 : 0 ≤ m) (h : At S (OwnS v x) w) :
    Calls Tryz.prog 52 #[v, .int .i64 m] w fun e w' => e = .returned (.int .i64 (m + szS x)) ∧ At S (MarkS v x m) w' ∧ Chg S w w' := markSigned_at v x S m w hm hm0 h
theorem heldS_cal (v : Value) (x : SI) (m : Int) (w : World) (hm : m + szS x ≤ 9223372036854775807) (hm0 : 0 ≤ m) (h : MarkS v x m w) : Calls Tryz.prog 53 #[v, .int .i64 m] w (Postn (m + szS x) w) :=
  heldSigned_at v x m w hm hm0 h

def PostT (R0 : ByteArray) (w : World) (e : Ending) (w' : World) : Prop := e = .returned (.string R0) ∧ Below w.heap.size w w'
end Go.Proofs.YtcenmdiblbooeaaGreatDoor

namespace Go.Proofs.YtcenmdiblbooeaaGreatDoor
open Go.RowKit

/-- a value that stands for it, its limbs of the call's own -/
def OwnM (v : Value) (q : MI) (w : World) : Prop := ∃ u, v = .agg #[.string q.1, .bool q.2.1, u] ∧ OwnI u q.2.2 w
def MarkM (v : Value) (q : MI) (m : Int) (w : World) : Prop := ∃ u, v = .agg #[.string q.1, .bool q.2.1, u] ∧ MarkI u q.2.2 m w
/-- a value that reads as it -/
def RdM (w : World) (v : Value) (q : MI) : Prop := ∃ u, v = .agg #[.string q.1, .bool q.2.1, u] ∧ Row w 0 w.heap.size u (intsV q.2.2)
theorem OwnM.rd {v : Value} {q : MI} {w : World} (h : OwnM v q w) : RdM w v q := by
  obtain ⟨u, rfl, o⟩ := h
  exact ⟨u, rfl, o.row⟩
theorem OwnM.mk {u : Value} {q : MI} {w : World} (h : OwnI u q.2.2 w) : OwnM (.agg #[.string q.1, .bool q.2.1, u]) q w := ⟨u, rfl, h⟩
theorem OwnM.below {w W : World} {v : Value} {q : MI} (h : OwnM v q w) (hb : Below w.heap.size w W) : OwnM v q W := by
  obtain ⟨u, rfl, o⟩ := h
  exact ⟨u, rfl, own_below o hb⟩
theorem RdM.below {w W : World} {v : Value} {q : MI} (h : RdM w v q) (hb : Below w.heap.size w W) : RdM W v q := by
  obtain ⟨u, rfl, o⟩ := h
  exact ⟨u, rfl, (o.below hb (Nat.le_refl _)).wide (Nat.le_refl _) hb.size⟩
def capM (q : MI) : Prop := q.1.size ≤ 9223372036854775807 ∧ q.2.2.length ≤ 9223372036854775807
theorem szM_nonneg (q : MI) : 0 ≤ szM q := by unfold szM szS szI; omega
theorem szM_len {q : MI} (h : szM q ≤ 1048576) : q.1.size ≤ 1048576 ∧ q.2.2.length ≤ 1048576 := by unfold szM szS szI at h; omega
theorem capM_of {q : MI} (h : szM q ≤ 1048576) : capM q := by have := szM_len h; unfold capM; omega
theorem mkM_range (q : MI) : 0 ≤ mkM q ∧ mkM q ≤ szM q := by unfold mkM szM szS szI; omega
theorem ownM_form {v : Value} {q : MI} {w : World} (h : OwnM v q w) : ∃ A c, v = .agg #[.string q.1, .bool q.2.1, .slice A q.2.2.length c] := by
  obtain ⟨u, rfl, o⟩ := h
  obtain ⟨A, c, rfl⟩ := own_len o
  exact ⟨A, c, rfl⟩
theorem rdM_form {v : Value} {q : MI} {w : World} (h : RdM w v q) : ∃ A c, v = .agg #[.string q.1, .bool q.2.1, .slice A q.2.2.length c] := by
  obtain ⟨u, rfl, o⟩ := h
  obtain ⟨A, c, rfl⟩ := row_form o
  rw [intsV_length]
  exact ⟨A, c, rfl⟩
theorem ownM_open {u c s : Value} {q : MI} {w : World} (h : OwnM (.agg #[c, s, u]) q w) : OwnI u q.2.2 w := by
  obtain ⟨u', e, hu⟩ := h
  injection e with e
  simp at e
  obtain ⟨_, _, e2⟩ := e
  subst e2
  exact hu
theorem ownS_openM {u c : Value} {x : SI} {w : World} (h : OwnS (.agg #[c, u]) x w) : OwnI u x.2 w := by
  obtain ⟨u', e, hu⟩ := h
  injection e with e
  simp at e
  obtain ⟨_, e2⟩ := e
  subst e2
  exact hu
/-- a value whose blocks stay while others are written -/
theorem newV_chgM {φ : Value → World → Prop} {S T : List Nat} {v : Value} {w W : World} (o : At S (φ v) W) (hd : ∀ i ∈ S, i ∉ T) (hT : ∀ i ∈ T, w.heap.size ≤ i) (l : ∀ i ∈ S, w.heap.size ≤ i) (hW : Below w.heap.size w W) :
    ∀ W', Chg T W W' → NewV φ w (.returned v) W' :=
  fun _ hc => ⟨v, S, rfl, o.chg hc hd, fun i hi => ⟨l i hi, Nat.lt_of_lt_of_le (o.lt i hi) hc.size⟩, below_chg hW hc hW.size hT⟩
/-- what a call answers: a new amount and a bool -/
def PostMb (R0 : MI) (R1 : Bool) (w : World) (e : Ending) (w' : World) : Prop :=
  ∃ (v : Value) (S : List Nat), e = .returned (.tuple #[v, .bool R1]) ∧ At S (OwnM v R0) w' ∧ Within S w.heap.size w'.heap.size ∧ Below w.heap.size w w'
theorem postMb_is {q : MI × Bool} {X : MI} {b : Bool} (e : q = (X, b)) {w w' : World} {n : Ending} (h : PostMb q.1 q.2 w n w') : PostMb X b w n w' := by rw [e] at h; exact h
theorem postMb_eq {q p : MI × Bool} (e : q = p) {w w' : World} {n : Ending} (h : PostMb q.1 q.2 w n w') : PostMb p.1 p.2 w n w' := by rw [e] at h; exact h
theorem postMb_chg {S T : List Nat} {v : Value} {x : MI} {b : Bool} {w W : World} (o : At S (OwnM v x) W) (hd : ∀ i ∈ S, i ∉ T) (hT : ∀ i ∈ T, w.heap.size ≤ i) (l : ∀ i ∈ S, w.heap.size ≤ i) (hW : Below w.heap.size w W) :
    ∀ W', Chg T W W' → PostMb x b w (.returned (.tuple #[v, .bool b])) W' :=
  fun _ hc => ⟨v, S, rfl, o.chg hc hd, fun i hi => ⟨l i hi, Nat.lt_of_lt_of_le (o.lt i hi) hc.size⟩, below_chg hW hc hW.size hT⟩
theorem chg_set3M {r : Nat} {c0 c1 c2 : Value} {W : World} : Chg [r] W (((W.setCell ⟨r, 0, none⟩ c0).setCell ⟨r, 1, none⟩ c1).setCell ⟨r, 2, none⟩ c2) := (((Chg.refl _ _).setCell (by simp) _).setCell (by simp) _).setCell (by simp) _
theorem newMb_at {r B : Nat} {S : List Nat} {c0 c1 c2 : Value} {x : MI} {b : Bool} {w W : World} (o : At S (OwnM (.agg #[c0, c1, c2]) x) W) (l : Within S B W.heap.size) (hrB : r < B) (hr : w.heap.size ≤ r) (hW : Below w.heap.size w W) :
    PostMb x b w (.returned (.tuple #[.agg #[c0, c1, c2], .bool b])) (((W.setCell ⟨r, 0, none⟩ c0).setCell ⟨r, 1, none⟩ c1).setCell ⟨r, 2, none⟩ c2) :=
  postMb_chg o (fun i hi hm => by have := l i hi; simp at hm; omega) (fun i hi => by simp at hi; omega) (fun i hi => by have := l i hi; omega) hW _ chg_set3M
theorem ownM_zero (w : World) : OwnM (.agg #[.string ⟨#[]⟩, .bool false, .slice none 0 0]) zeroM w := ⟨_, rfl, World.ownsRow_nil _ _ _ _⟩
theorem atM_zero (w : World) : At [] (OwnM (.agg #[.string ⟨#[]⟩, .bool false, .slice none 0 0]) zeroM) w := ⟨ownM_zero _, fun _ hg => absurd hg List.not_mem_nil, fun w' _ => ownM_zero w'⟩
theorem newMb_zero {w W : World} (b : Bool) (hW : Below w.heap.size w W) : PostMb zeroM b w (.returned (.tuple #[.agg #[.string ⟨#[]⟩, .bool false, .slice none 0 0], .bool b])) W :=
  ⟨_, [], rfl, atM_zero _, fun _ hg => absurd hg List.not_mem_nil, hW⟩
set_option maxHeartbeats 400000 in
set_option maxRecDepth 100000 in
theorem eqM_cal (u v : Value) (x y : MI) (w : World) (hz : capM x) (hu : RdM w u x) (hv : RdM w v y) : Calls Tryz.prog 19 #[u, v] w (Postb (decide (x = y)) w) := by
  obtain ⟨p, rfl, hp⟩ := hu
  obtain ⟨q, rfl, hq⟩ := hv
  obtain ⟨Ap, cp, rfl⟩ := row_form hp
  obtain ⟨Aq, cq, rfl⟩ := row_form hq
  simp only [intsV_length] at hp hq ⊢
  have hb : Below w.heap.size w ((w.alloc (.cells #[.string x.1, .bool x.2.1, .slice Ap x.2.2.length cp] 27)).alloc (.cells #[.string y.1, .bool y.2.1, .slice Aq y.2.2.length cq] 27)) := below_al (below_al (Below.refl _ _) _) _
  have kx := (box_new w #[.string x.1, .bool x.2.1, .slice Ap x.2.2.length cp] 27).below (below_al (Below.refl _ _) (.cells #[.string y.1, .bool y.2.1, .slice Aq y.2.2.length cq] 27))
  have ky := box_new (w.alloc (.cells #[.string x.1, .bool x.2.1, .slice Ap x.2.2.length cp] 27)) #[.string y.1, .bool y.2.1, .slice Aq y.2.2.length cq] 27
  rw [show (w.alloc (.cells #[.string x.1, .bool x.2.1, .slice Ap x.2.2.length cp] 27)).heap.size = w.heap.size + 1 by simp] at ky
  have cx0 := kx.here.cell 0 _ rfl
  have cx1 := kx.here.cell 1 _ rfl
  have cx2 := kx.here.cell 2 _ rfl
  have cy0 := ky.here.cell 0 _ rfl
  have cy1 := ky.here.cell 1 _ rfl
  have cy2 := ky.here.cell 2 _ rfl
  clear kx ky
  by_cases h1 : x.1 = y.1
  · have H1 := Lib.hid h1
    have HE := Lib.hid (eqSigned_at (.agg #[.bool x.2.1, .slice Ap x.2.2.length cp]) (.agg #[.bool y.2.1, .slice Aq y.2.2.length cq]) x.2 y.2 _ hz.2 (rdS_below hp hb) (rdS_below hq hb))
    have HB := Lib.hid hb
    rw [← h1] at cy0 HE HB
    clear h1 hp hq hb hz
    go_enter Tryz.func19, Tryz.ntmps19
    rw [← H1.out]
    go_wp2_with fail
    refine HE.out.mono ?_
    rintro e w1 ⟨rfl, b1⟩
    have bb1 := Lib.hid (Below.next HB.out b1)
    clear cx0 cx1 cx2 cy0 cy1 cy2 b1
    have HV := Lib.hid (show decide (x = y) = decide (x.2 = y.2) from decide_eq_decide.2 ⟨fun e => by rw [e], fun e => Prod.ext H1.out e⟩)
    by_cases h2 : x.2 = y.2
    · rw [decide_eq_true h2] at HV ⊢
      clear h2
      go_wp2
      go_ret
      exact ⟨ret_bool HV.out.symm, bb1.out⟩
    · rw [decide_eq_false h2] at HV ⊢
      clear h2
      go_wp2
      go_ret
      exact ⟨ret_bool HV.out.symm, bb1.out⟩
  · have hne := bytes_neC h1
    have hne2 : (x.1.toList != y.1.toList) = true := by rw [bne, hne]; rfl
    have HV := Lib.hid (show decide (x = y) = false from decide_eq_false (fun e => h1 (by rw [e])))
    clear h1
    go_enter Tryz.func19, Tryz.ntmps19
    go_wp2
    go_ret
    exact ⟨ret_bool HV.out.symm, hb⟩
set_option maxHeartbeats 400000 in
set_option maxRecDepth 100000 in
theorem markM_cal (v : Value) (x : MI) (S : List Nat) (m : Int) (w : World) (hm : m + mkM x ≤ 9223372036854775807) (hm0 : 0 ≤ m) (h : At S (OwnM v x) w) :
    Calls Tryz.prog 20 #[v, .int .i64 m] w fun e w' => e = .returned (.int .i64 (m + mkM x)) ∧ At S (MarkM v x m) w' ∧ Chg S w w' := by
  obtain ⟨A, c, rfl⟩ := ownM_form h.here
  have hbx := below_al (Below.refl w.heap.size w) (.cells #[.string x.1, .bool x.2.1, .slice A x.2.2.length c] 27)
  have kx := box_new w #[.string x.1, .bool x.2.1, .slice A x.2.2.length c] 27
  have ax := (h.below hbx).imp (fun _ h => (OwnS.mk (ownM_open h) : OwnS (.agg #[.bool x.2.1, .slice A x.2.2.length c]) x.2 _))
  have kx_c0 := kx.here.cell 0 _ rfl
  have kx_c1 := kx.here.cell 1 _ rfl
  have kx_c2 := kx.here.cell 2 _ rfl
  have HZ := Lib.hid (show mkM x = szS x.2 from rfl)
  have HBX := Lib.hid hbx
  clear h kx
  go_enter Tryz.func20, Tryz.ntmps20
  go_wp2_with fail
  clear kx_c0 kx_c1 kx_c2
  refine (markSigned_at _ x.2 S m _ hm hm0 ax).mono ?_
  rintro e w1 ⟨rfl, mu, c1⟩
  have hall := Lib.hid (mu.imp (fun _ h => (show MarkM (.agg #[.string x.1, .bool x.2.1, .slice A x.2.2.length c]) x m _ from by
    obtain ⟨u', e1, hu'⟩ := h
    injection e1 with e1
    have e2 : u' = .slice A x.2.2.length c := by simpa using e1.symm
    rw [e2] at hu'
    exact ⟨_, rfl, hu'⟩)))
  have hchg := Lib.hid ((Chg.of_below HBX.out).trans c1 : Chg S w w1)
  clear mu c1
  go_wp2
  go_ret
  exact ⟨ret_int (by rw [HZ.out]), hall.out, hchg.out⟩
set_option maxHeartbeats 400000 in
set_option maxRecDepth 100000 in
theorem heldM_cal (v : Value) (x : MI) (m : Int) (w : World) (hm : m + mkM x ≤ 9223372036854775807) (hm0 : 0 ≤ m) (h : MarkM v x m w) : Calls Tryz.prog 21 #[v, .int .i64 m] w (Postn (m + mkM x) w) := by
  obtain ⟨u, rfl, ou⟩ := h
  obtain ⟨A, c, rfl⟩ := own_len ou
  have hs0 : 0 ≤ szS x.2 := by unfold szS szI; omega
  have HZ := Lib.hid (show mkM x = szS x.2 from rfl)
  rw [HZ.out] at hm
  have hbx := below_al (Below.refl w.heap.size w) (.cells #[.string x.1, .bool x.2.1, .slice A x.2.2.length c] 27)
  have kx := box_new w #[.string x.1, .bool x.2.1, .slice A x.2.2.length c] 27
  have ou1 : MarkS (.agg #[.bool x.2.1, .slice A x.2.2.length c]) x.2 m _ := ⟨_, rfl, own_below ou hbx⟩
  have kx_c0 := kx.here.cell 0 _ rfl
  have kx_c1 := kx.here.cell 1 _ rfl
  have kx_c2 := kx.here.cell 2 _ rfl
  clear ou kx
  go_enter Tryz.func21, Tryz.ntmps21
  go_wp2_with fail
  clear kx_c0 kx_c1 kx_c2
  refine (heldSigned_at _ x.2 m _ (by omega) hm0 ou1).mono ?_
  rintro e w1 ⟨rfl, b1⟩
  have bb1 := Below.next hbx b1
  have hn1 : decide (m + szS x.2 < 0) = false := decide_eq_false (by omega)
  clear ou1
  go_wp2
  go_ret
  exact ⟨ret_int (by rw [HZ.out]), bb1⟩
end Go.Proofs.YtcenmdiblbooeaaGreatDoor

namespace Go.Proofs.YtcenmdiblbooeaaGreatDoor
open Go.RowKit

/-- a fraction as data -/
abbrev QI : Type := SI × List Int
def zeroQ : QI := (zeroS, [])
/-- what RatOk answers -/
def okQ (q : QI) : Bool := okS q.1 && natOkB q.2 && decide (0 < q.2.length ∧ q.2.length ≤ 18 ∧ q.1.2.length ≤ 18 ∧ Nat.gcd (nval q.1.2).toNat (nval q.2).toNat = 1)
/-- a fraction in lowest terms, with its sign; false where it has too many limbs, or is by 0 -/
def lowQ (n : Bool) (a b : Nat) : QI × Bool :=
  if b ≠ 0 ∧ (limbs (a / Nat.gcd a b)).length ≤ 18 ∧ (limbs (b / Nat.gcd a b)).length ≤ 18 then ((mkS n (limbs (a / Nat.gcd a b)), limbs (b / Nat.gcd a b)), true) else (zeroQ, false)
def numQ (q : QI) : Int := valS q.1
def denQ (q : QI) : Nat := (nval q.2).toNat
theorem okQ_parts {q : QI} (h : okQ q = true) : okS q.1 = true ∧ natOkB q.2 = true ∧ 0 < q.2.length ∧ q.2.length ≤ 18 ∧ q.1.2.length ≤ 18 ∧ Nat.gcd (nval q.1.2).toNat (nval q.2).toNat = 1 := by
  unfold okQ at h
  rw [Bool.and_eq_true, Bool.and_eq_true, decide_eq_true_eq] at h
  exact ⟨h.1.1, h.1.2, h.2.1, h.2.2.1, h.2.2.2.1, h.2.2.2.2⟩
/-- what the functions answer -/
def makeQ (x y : SI) : QI × Bool := if okS x = true ∧ okS y = true then lowQ (x.1 != y.1) (nval x.2).toNat (nval y.2).toNat else (zeroQ, false)
def addQ (r s : QI) : QI × Bool := if okQ r = true ∧ okQ s = true then lowQ (decide (numQ r * denQ s + numQ s * denQ r < 0)) (numQ r * denQ s + numQ s * denQ r).natAbs (denQ r * denQ s) else (zeroQ, false)
def negQ (r : QI) : QI × Bool := if okQ r = true then ((negS r.1, r.2), true) else (zeroQ, false)
def mulQ (r s : QI) : QI × Bool := if okQ r = true ∧ okQ s = true then lowQ (r.1.1 != s.1.1) ((nval r.1.2).toNat * (nval s.1.2).toNat) (denQ r * denQ s) else (zeroQ, false)
def divQ (r s : QI) : QI × Bool := if okQ r = true ∧ okQ s = true then lowQ (r.1.1 != s.1.1) ((nval r.1.2).toNat * denQ s) (denQ r * (nval s.1.2).toNat) else (zeroQ, false)
def subQ (r s : QI) : QI × Bool := if (negQ s).2 = true then addQ r (negQ s).1 else (zeroQ, false)
def cmpQ (r s : QI) : Int := if okQ r = true ∧ okQ s = true then cmpI (numQ r * denQ s) (numQ s * denQ r) else 0
def oneQ : QI := (zeroS, [1])
theorem denQ_pos {q : QI} (h : okQ q = true) : 0 < denQ q := by
  have hp := okQ_parts h
  have h1 := ok_ge hp.2.1 hp.2.2.1
  have h2 := bp_pos (q.2.length - 1)
  unfold denQ
  omega
theorem oneQ_ok : okQ oneQ = true := by
  have e : nval [1] = 1 := rfl
  unfold okQ oneQ
  rw [e]
  rfl
theorem limbs_18 {n : Bool} {m : Nat} (h : (limbs m).length ≤ 18) : mkS n (limbs m) = (n && decide (0 < (limbs m).length), limbs m) := by
  unfold mkS capL
  rw [if_neg (by omega)]
/-- what comes out in lowest terms is right -/
theorem lowQ_ok (n : Bool) (a b : Nat) (h : (lowQ n a b).2 = true) : okQ (lowQ n a b).1 = true := by
  unfold lowQ at h ⊢
  split
  · rename_i hc
    obtain ⟨hb, h1, h2⟩ := hc
    have hg : 0 < Nat.gcd a b := Nat.gcd_pos_of_pos_right _ (by omega)
    have hbq : b / Nat.gcd a b ≠ 0 := by
      have := Nat.div_pos (Nat.le_of_dvd (by omega) (Nat.gcd_dvd_right a b)) hg
      omega
    have hlb : 0 < (limbs (b / Nat.gcd a b)).length := by
      rcases Nat.eq_zero_or_pos (limbs (b / Nat.gcd a b)).length with h0 | h0
      · exact absurd ((limbs_zero_iff _).1 h0) hbq
      · exact h0
    have hs : okS (mkS n (limbs (a / Nat.gcd a b))) = true := by rw [mkS_limbs]; exact ofZ_ok _
    have e2 : (mkS n (limbs (a / Nat.gcd a b))).2 = limbs (a / Nat.gcd a b) := by rw [limbs_18 h1]
    unfold okQ
    simp only
    rw [hs, limbs_okL _ (by omega), e2, limbs_val, limbs_val, Int.toNat_natCast, Int.toNat_natCast]
    simp only [Bool.true_and, decide_eq_true_eq]
    exact ⟨hlb, h2, h1, Nat.gcd_div_gcd_div_gcd_of_pos_right (by omega)⟩
  · rename_i hc
    rw [if_neg hc] at h
    cases h
end Go.Proofs.YtcenmdiblbooeaaGreatDoor

namespace Go.Proofs.YtcenmdiblbooeaaGreatDoor
open Go.RowKit

/-- a value that stands for it, its limbs of the call's own, those of the two parts apart -/
def OwnQ (v : Value) (q : QI) (w : World) : Prop := ∃ u d, v = .agg #[.bool q.1.1, u, d] ∧ OwnI u q.1.2 w ∧ OwnI d q.2 w ∧ (∀ g, u.ownBlock = some g → d.ownBlock ≠ some g)
def MarkQ (v : Value) (q : QI) (m : Int) (w : World) : Prop := ∃ u d, v = .agg #[.bool q.1.1, u, d] ∧ MarkI u q.1.2 m w ∧ MarkI d q.2 (m + szS q.1) w
/-- a value that reads as it -/
def RdQ (w : World) (v : Value) (q : QI) : Prop := ∃ u d, v = .agg #[.bool q.1.1, u, d] ∧ Row w 0 w.heap.size u (intsV q.1.2) ∧ Row w 0 w.heap.size d (intsV q.2)
def szQ (q : QI) : Int := szS q.1 + szI q.2
theorem OwnQ.rd {v : Value} {q : QI} {w : World} (h : OwnQ v q w) : RdQ w v q := by
  obtain ⟨u, d, rfl, o, p, _⟩ := h
  exact ⟨u, d, rfl, o.row, p.row⟩
theorem RdQ.below {w W : World} {v : Value} {q : QI} (h : RdQ w v q) (hb : Below w.heap.size w W) : RdQ W v q := by
  obtain ⟨u, d, rfl, o, p⟩ := h
  exact ⟨u, d, rfl, (o.below hb (Nat.le_refl _)).wide (Nat.le_refl _) hb.size, (p.below hb (Nat.le_refl _)).wide (Nat.le_refl _) hb.size⟩
/-- a new fraction -/
def NewQ (q : QI) (w : World) (e : Ending) (w' : World) : Prop :=
  ∃ u d, e = .returned (.agg #[.bool q.1.1, u, d]) ∧ w'.ownsRow w.heap.size 3 1 u q.1.2.length (intsV q.1.2) ∧ w'.ownsRow w.heap.size 3 1 d q.2.length (intsV q.2) ∧ (∀ g, u.ownBlock = some g → d.ownBlock ≠ some g) ∧ Below w.heap.size w w'

set_option maxHeartbeats 400000 in
set_option maxRecDepth 100000 in
theorem eqRat_at (u v : Value) (x y : QI) (w : World) (hl : x.1.2.length ≤ 9223372036854775807) (hl2 : x.2.length ≤ 9223372036854775807) (hu : RdQ w u x) (hv : RdQ w v y) :
    Calls Tryz.prog 26 #[u, v] w fun e w' => e = .returned (.bool (decide (x = y))) ∧ Below w.heap.size w w' := by
  obtain ⟨p, d, rfl, hp, hd⟩ := hu
  obtain ⟨q, f, rfl, hq, hf⟩ := hv
  obtain ⟨Ap, cp, rfl⟩ := row_form hp
  obtain ⟨Ad, cd, rfl⟩ := row_form hd
  obtain ⟨Aq, cq, rfl⟩ := row_form hq
  obtain ⟨Af, cf, rfl⟩ := row_form hf
  simp only [intsV_length] at hp hd hq hf ⊢
  have hb : Below w.heap.size w ((w.alloc (.cells #[.bool x.1.1, .slice Ap x.1.2.length cp, .slice Ad x.2.length cd] 51)).alloc (.cells #[.bool y.1.1, .slice Aq y.1.2.length cq, .slice Af y.2.length cf] 51)) := below_al (below_al (Below.refl _ _) _) _
  have kx := (box_new w #[.bool x.1.1, .slice Ap x.1.2.length cp, .slice Ad x.2.length cd] 51).below (below_al (Below.refl _ _) (.cells #[.bool y.1.1, .slice Aq y.1.2.length cq, .slice Af y.2.length cf] 51))
  have ky := box_new (w.alloc (.cells #[.bool x.1.1, .slice Ap x.1.2.length cp, .slice Ad x.2.length cd] 51)) #[.bool y.1.1, .slice Aq y.1.2.length cq, .slice Af y.2.length cf] 51
  rw [show (w.alloc (.cells #[.bool x.1.1, .slice Ap x.1.2.length cp, .slice Ad x.2.length cd] 51)).heap.size = w.heap.size + 1 by simp] at ky
  go_enter Tryz.func26, Tryz.ntmps26
  go_wp2_with fail
  refine (eqSigned_at _ _ x.1 y.1 _ hl (rdS_below hp hb) (rdS_below hq hb)).mono ?_
  rintro e w1 ⟨rfl, b1⟩
  have bb1 := Below.next hb b1
  replace kx := kx.below b1
  replace ky := ky.below b1
  have cx2 := kx.here.cell 2 _ rfl
  have cy2 := ky.here.cell 2 _ rfl
  have hd1 := hd.below bb1 (Nat.le_refl _)
  have hf1 := hf.below bb1 (Nat.le_refl _)
  clear hp hq kx ky hd hf
  by_cases h1 : x.1 = y.1
  · rw [decide_eq_true h1]
    have H1 := Lib.hid h1
    clear h1
    go_wp2_with fail
    refine (eqIntS_any _ _ x.2 y.2 0 w.heap.size 0 w.heap.size _ hl2 hd1 hf1).mono ?_
    rintro e w2 ⟨rfl, n, rfl⟩
    by_cases h2 : x.2 = y.2
    · rw [decide_eq_true h2]
      have HV := Lib.hid (show decide (x = y) = true from decide_eq_true (Prod.ext H1.out h2))
      clear h2
      go_wp2
      go_ret
      exact ⟨ret_bool HV.out.symm, below_drewN bb1 n⟩
    · rw [decide_eq_false h2]
      have HV := Lib.hid (show decide (x = y) = false from decide_eq_false (fun e => h2 (by rw [e])))
      clear h2
      go_wp2
      go_ret
      exact ⟨ret_bool HV.out.symm, below_drewN bb1 n⟩
  · rw [decide_eq_false h1]
    have HV := Lib.hid (show decide (x = y) = false from decide_eq_false (fun e => h1 (by rw [e])))
    clear h1
    go_wp2
    go_ret
    exact ⟨ret_bool HV.out.symm, bb1⟩

set_option maxHeartbeats 400000 in
set_option maxRecDepth 100000 in
theorem szRat_at (v : Value) (x : QI) (left : Int) (w : World) (hl : x.1.2.length ≤ 9223372036854775807) (hl2 : x.2.length ≤ 9223372036854775807) (h0 : 0 ≤ left) (h1 : left ≤ 1048576) (h : RdQ w v x) :
    Calls Tryz.prog 22 #[v, .int .i64 left] w fun e w' => e = .returned (.int .i64 (leftI left (szQ x))) ∧ Below w.heap.size w w' := by
  obtain ⟨p, d, rfl, hp, hd⟩ := h
  obtain ⟨Ap, cp, rfl⟩ := row_form hp
  obtain ⟨Ad, cd, rfl⟩ := row_form hd
  simp only [intsV_length] at hp hd ⊢
  have hb := below_al (Below.refl w.heap.size w) (.cells #[.bool x.1.1, .slice Ap x.1.2.length cp, .slice Ad x.2.length cd] 48)
  have kx := box_new w #[.bool x.1.1, .slice Ap x.1.2.length cp, .slice Ad x.2.length cd] 48
  have hs0 : 0 ≤ szS x.1 := by unfold szS szI; omega
  have hs1 : 0 ≤ szI x.2 := by unfold szI; omega
  have HZ := Lib.hid (show szQ x = szS x.1 + szI x.2 from rfl)
  go_enter Tryz.func22, Tryz.ntmps22
  go_wp2_with fail
  refine (szSigned_at _ x.1 left _ hl h0 h1 (rdS_below hp hb)).mono ?_
  rintro e w1 ⟨rfl, b1⟩
  have bb1 := Below.next hb b1
  replace kx := kx.below b1
  have cx2 := kx.here.cell 2 _ rfl
  have hd1 := hd.below bb1 (Nat.le_refl _)
  clear hp kx hd
  by_cases hv : left - szS x.1 < 0
  · have HV := Lib.hid (show leftI left (szQ x) = -1 by unfold leftI; rw [HZ.out, if_pos (by omega)])
    rw [show leftI left (szS x.1) = -1 by unfold leftI; rw [if_pos hv]]
    clear hv hs0 hs1
    go_wp2
    go_ret
    exact ⟨ret_int HV.out.symm, bb1⟩
  · rw [show leftI left (szS x.1) = left - szS x.1 by unfold leftI; rw [if_neg hv]]
    have hn : decide (left - szS x.1 < 0) = false := decide_eq_false hv
    go_wp2_with fail
    refine (szIntS_any _ x.2 0 w.heap.size (left - szS x.1) _ hl2 (by omega) (by omega) hd1).mono ?_
    rintro e w2 ⟨rfl, rfl⟩
    have HL := Lib.hid (show leftI left (szQ x) = leftI (left - szS x.1) (szI x.2) by unfold leftI; rw [HZ.out, show left - (szS x.1 + szI x.2) = left - szS x.1 - szI x.2 by omega])
    have hq : leftI (left - szS x.1) (szI x.2) < 0 ∧ leftI (left - szS x.1) (szI x.2) = -1 ∨ ¬ leftI (left - szS x.1) (szI x.2) < 0 := by unfold leftI; split <;> omega
    generalize leftI (left - szS x.1) (szI x.2) = z at *
    clear hv hn hs0 hs1
    rcases hq with ⟨h2, h3⟩ | h2
    · have hneg : decide (z < 0) = true := decide_eq_true h2
      have H3 := Lib.hid h3
      clear h2 h3
      go_wp2
      go_ret
      exact ⟨ret_int (by rw [HL.out, H3.out]), bb1⟩
    · have hneg : decide (z < 0) = false := decide_eq_false h2
      clear h2
      go_wp2
      go_ret
      exact ⟨ret_int (by rw [HL.out]), bb1⟩

theorem set3_at {g : Nat} {a b c c0 c1 c2 : Value} {T : TypeId} {W : World} (h : BoxAt g #[c0, c1, c2] T W) : BoxAt g #[a, b, c2] T ((W.setCell ⟨g, 0, none⟩ a).setCell ⟨g, 1, none⟩ b) ∧ BoxAt g #[c0, c1, c] T (W.setCell ⟨g, 2, none⟩ c) := by
  have h' : W.heap[g]? = some (.cells #[c0, c1, c2] T (0, 0)) := h
  exact ⟨by simp [BoxAt, World.setCell, Array.getElem?_modify, h'], by simp [BoxAt, World.setCell, Array.getElem?_modify, h']⟩
set_option maxHeartbeats 1000000 in
set_option maxRecDepth 100000 in
theorem toRat_at (v : Value) (x : QI) (w : World) (hl : x.1.2.length ≤ 1048576) (hl2 : x.2.length ≤ 1048576) (h : RdQ w v x) :
    Calls Tryz.prog 24 #[v] w (NewQ x w) := by
  obtain ⟨p, d, rfl, hp, hd⟩ := h
  obtain ⟨Ap, cp, rfl⟩ := row_form hp
  obtain ⟨Ad, cd, rfl⟩ := row_form hd
  simp only [intsV_length] at hp hd ⊢
  have h3 := alloc3 w (.cells #[.bool x.1.1, .slice Ap x.1.2.length cp, .slice Ad x.2.length cd] 48) (.cells #[.bool false, .slice none 0 0, .slice none 0 0] 51) (.cells #[.bool false, .slice none 0 0, .slice none 0 0] 51)
  have hb3 := below3 w (.cells #[.bool x.1.1, .slice Ap x.1.2.length cp, .slice Ad x.2.length cd] 48) (.cells #[.bool false, .slice none 0 0, .slice none 0 0] 51) (.cells #[.bool false, .slice none 0 0, .slice none 0 0] 51)
  obtain ⟨W0, hW0⟩ : ∃ W0, W0 = (((w.alloc (.cells #[.bool x.1.1, .slice Ap x.1.2.length cp, .slice Ad x.2.length cd] 48)).alloc (.cells #[.bool false, .slice none 0 0, .slice none 0 0] 51)).alloc (.cells #[.bool false, .slice none 0 0, .slice none 0 0] 51)) := ⟨_, rfl⟩
  rw [← hW0] at h3 hb3
  have kb : At [w.heap.size] (BoxAt w.heap.size #[.bool x.1.1, .slice Ap x.1.2.length cp, .slice Ad x.2.length cd] 48) W0 := box_at h3.1
  have kr : At [w.heap.size + 1] (BoxAt (w.heap.size + 1) #[.bool false, .slice none 0 0, .slice none 0 0] 51) W0 := box_at h3.2.1
  have ko : At [w.heap.size + 1 + 1] (BoxAt (w.heap.size + 1 + 1) #[.bool false, .slice none 0 0, .slice none 0 0] 51) W0 := box_at h3.2.2.1
  have hz0 : W0.heap.size = w.heap.size + 3 := h3.2.2.2
  have HW := Lib.hid hW0
  clear h3 hW0
  have cb0 := kb.here.cell 0 _ rfl
  have cb1 := kb.here.cell 1 _ rfl
  go_enter Tryz.func24, Tryz.ntmps24
  go_wp2_with fail
  rw [← HW.out]
  refine (toSigned_at _ x.1 _ hl (rdS_below hp hb3)).mono ?_
  rintro e w1 ⟨u, rfl, o1, b1⟩
  obtain ⟨Au, cu, rfl⟩ := own_len o1
  have bb1 := Below.next hb3 b1
  replace kb := kb.below b1
  replace kr := kr.below b1
  replace ko := ko.below b1
  have hz1 := b1.size
  have hne := Lib.ownBlock_ne o1 ko.here (by decide)
  have hks := set3_at (a := .bool x.1.1) (b := .slice Au x.1.2.length cu) (c := .slice none 0 0) ko.here
  have hb2 := below_set2 (a := .bool x.1.1) (b := .slice Au x.1.2.length cu) (g := w.heap.size + 1 + 1) bb1 (by omega)
  have hc2 : Chg [w.heap.size + 1 + 1] w1 ((w1.setCell ⟨w.heap.size + 1 + 1, 0, none⟩ (.bool x.1.1)).setCell ⟨w.heap.size + 1 + 1, 1, none⟩ (.slice Au x.1.2.length cu)) := ((Chg.refl _ _).setCell (by simp) _).setCell (by simp) _
  have co0 := ko.here.cell 0 _ rfl
  have co1 := ko.here.cell 1 _ rfl
  have fo0 := Lib.frozen_of_heap ko.here 0
  have fo1 := Lib.frozen_of_heap ko.here 1
  have o2 := own_stays o1 (w' := (w1.setCell ⟨w.heap.size + 1 + 1, 0, none⟩ (.bool x.1.1)).setCell ⟨w.heap.size + 1 + 1, 1, none⟩ (.slice Au x.1.2.length cu)) fun i hi => hc2.block i (own_lt o1 hi).2 (fun hm => by simp at hm; exact hne (by rw [hi, hm]))
  have kb2 := kb.chg hc2 (fun i hi hm => by simp at hi hm; omega)
  have kr2 := kr.chg hc2 (fun i hi hm => by simp at hi hm; omega)
  have ko2 := box_at hks.1
  have cb2 : ((w1.setCell ⟨w.heap.size + 1 + 1, 0, none⟩ (.bool x.1.1)).setCell ⟨w.heap.size + 1 + 1, 1, none⟩ (.slice Au x.1.2.length cu)).cell? ⟨w.heap.size, 2, none⟩ = some (.slice Ad x.2.length cd) := kb2.here.cell 2 _ rfl
  have hd2 := hd.below hb2 (Nat.le_refl _)
  have hz2 := hc2.size
  clear kb kr ko bb1 hks hc2 o1 cb0 cb1
  go_wp2_with fail
  generalize (w1.setCell ⟨w.heap.size + 1 + 1, 0, none⟩ (.bool x.1.1)).setCell ⟨w.heap.size + 1 + 1, 1, none⟩ (.slice Au x.1.2.length cu) = W2 at *
  refine (toIntS_any _ x.2 0 w.heap.size W2 (by omega) hl2 hd2).mono ?_
  rintro e w3 ⟨f, rfl, o3, b3⟩
  obtain ⟨Af, cf, rfl⟩ := own_len o3
  have hb3' := Below.next hb2 b3
  have hz3 := b3.size
  have ou3 := own_below o2 b3
  replace kr2 := kr2.below b3
  replace ko2 := ko2.below b3
  have hap : ∀ g, (Value.slice Au x.1.2.length cu).ownBlock = some g → (Value.slice Af x.2.length cf).ownBlock ≠ some g := fun g hg hf => by
    have h1 := (own_lt o2 hg).2
    have h2 := (own_lt o3 hf).1
    omega
  have hn1 := Lib.ownBlock_ne o3 ko2.here (by decide)
  have hn2 := Lib.ownBlock_ne ou3 ko2.here (by decide)
  have hn3 := Lib.ownBlock_ne o3 kr2.here (by decide)
  have hn4 := Lib.ownBlock_ne ou3 kr2.here (by decide)
  have hk4 := (set3_at (a := .bool false) (b := .bool false) (c := .slice Af x.2.length cf) ko2.here).2
  have hr4 : BoxAt (w.heap.size + 1) #[.bool false, .slice none 0 0, .slice none 0 0] 51 (w3.setCell ⟨w.heap.size + 1 + 1, 2, none⟩ (.slice Af x.2.length cf)) := (Below.heap_setCell _ _ _ _ (by simp)).trans kr2.here
  have co2 := ko2.here.cell 2 _ rfl
  have fo2 := Lib.frozen_of_heap ko2.here 2
  have d0 := hk4.cell 0 _ rfl
  have d1 := hk4.cell 1 _ rfl
  have d2 := hk4.cell 2 _ rfl
  have r0 := hr4.cell 0 _ rfl
  have r1 := hr4.cell 1 _ rfl
  have r2 := hr4.cell 2 _ rfl
  have g0 := Lib.frozen_of_heap hr4 0
  have g1 := Lib.frozen_of_heap hr4 1
  have g2 := Lib.frozen_of_heap hr4 2
  have hc5 : Chg [w.heap.size + 1 + 1, w.heap.size + 1] w3 ((((w3.setCell ⟨w.heap.size + 1 + 1, 2, none⟩ (.slice Af x.2.length cf)).setCell ⟨w.heap.size + 1, 0, none⟩ (.bool x.1.1)).setCell ⟨w.heap.size + 1, 1, none⟩ (.slice Au x.1.2.length cu)).setCell ⟨w.heap.size + 1, 2, none⟩ (.slice Af x.2.length cf)) :=
    ((((Chg.refl _ _).setCell (by simp) _).setCell (by simp) _).setCell (by simp) _).setCell (by simp) _
  have OU := Lib.hid (own_low (own_stays ou3 fun i hi => hc5.block i (own_lt ou3 hi).2 (fun hm => by
    simp at hm
    rcases hm with hm | hm
    · exact hn2 (by rw [hi, hm])
    · exact hn4 (by rw [hi, hm]))) (show w.heap.size ≤ W0.heap.size by omega))
  have OF := Lib.hid (own_low (own_stays o3 fun i hi => hc5.block i (own_lt o3 hi).2 (fun hm => by
    simp at hm
    rcases hm with hm | hm
    · exact hn1 (by rw [hi, hm])
    · exact hn3 (by rw [hi, hm]))) (show w.heap.size ≤ W2.heap.size by omega))
  have BB := Lib.hid (below_chg hb3' hc5 (by omega) (fun g hg => by simp at hg; omega))
  have HAP := Lib.hid hap
  clear kb2 kr2 ko2 cb2 hd2 hc5 hap hn1 hn2 hn3 hn4 hk4 hr4 o2 o3 ou3 b1 b3 hb2 hb3 hb3' co0 co1 fo0 fo1
  go_wp2
  refine bodyPost_ret (v := .agg #[.bool x.1.1, .slice Au x.1.2.length cu, .slice Af x.2.length cf]) (by simp [results, Tryz.results24, go_sem, r0, r1, r2]) rfl ?_
  exact ⟨_, _, rfl, OU.out, OF.out, HAP.out, BB.out⟩

/-- the blocks of the limbs of both parts -/
def partsB (u d : Value) : List Nat := u.ownBlock.toList ++ d.ownBlock.toList
theorem At.both {S T : List Nat} {φ ψ : World → Prop} {w : World} (h : At S φ w) (k : At T ψ w) : At (S ++ T) (fun w => φ w ∧ ψ w) w :=
  ⟨⟨h.here, k.here⟩, fun g hg => by rcases List.mem_append.1 hg with hg | hg; exact h.lt g hg; exact k.lt g hg,
    fun w' hk => ⟨h.stays w' fun g hg => hk g (List.mem_append_left _ hg), k.stays w' fun g hg => hk g (List.mem_append_right _ hg)⟩⟩
set_option maxHeartbeats 400000 in
set_option maxRecDepth 100000 in
theorem markRat_at (u d : Value) (x : QI) (m : Int) (w : World) (hm : m + szQ x ≤ 9223372036854775807) (hm0 : 0 ≤ m) (ou : OwnI u x.1.2 w) (od : OwnI d x.2 w) (hap : ∀ g, u.ownBlock = some g → d.ownBlock ≠ some g) :
    Calls Tryz.prog 27 #[.agg #[.bool x.1.1, u, d], .int .i64 m] w fun e w' => e = .returned (.int .i64 (m + szQ x)) ∧ At (partsB u d) (MarkQ (.agg #[.bool x.1.1, u, d]) x m) w' ∧ Chg (partsB u d) w w' := by
  obtain ⟨A, c, rfl⟩ := own_len ou
  obtain ⟨B, f, rfl⟩ := own_len od
  have hs0 : 0 ≤ szS x.1 := by unfold szS szI; omega
  have hs1 : 0 ≤ szI x.2 := by unfold szI; omega
  have HZ := Lib.hid (show szQ x = szS x.1 + szI x.2 from rfl)
  rw [HZ.out] at hm
  have hbx := below_al (Below.refl w.heap.size w) (.cells #[.bool x.1.1, .slice A x.1.2.length c, .slice B x.2.length f] 51)
  have kx := box_new w #[.bool x.1.1, .slice A x.1.2.length c, .slice B x.2.length f] 51
  have au := (own_at' ou).below hbx
  have ad := (own_at' od).below hbx
  have hltu := (own_at' ou).lt
  have hltd := (own_at' od).lt
  have dis : ∀ g ∈ (Value.slice B x.2.length f).ownBlock.toList, g ∉ (Value.slice A x.1.2.length c).ownBlock.toList := fun g hg hm => hap g (by simpa using hm) (by simpa using hg)
  have DIS := Lib.hid dis
  have HLU := Lib.hid hltu
  have HLD := Lib.hid hltd
  clear ou od hap dis hltu hltd
  go_enter Tryz.func27, Tryz.ntmps27
  go_wp2_with fail
  refine (markSigned_at _ x.1 _ m _ (by omega) hm0 (au.imp fun _ h => OwnS.mk (x := x.1) h)).mono ?_
  rintro e w1 ⟨rfl, mu, c1⟩
  replace ad := ad.chg c1 DIS.out
  replace kx := kx.chg c1 (fun i hi hm => by have := HLU.out i hm; simp at hi; omega)
  have cx2 := kx.here.cell 2 _ rfl
  have HC1 := Lib.hid c1
  have HMU := Lib.hid mu
  clear kx c1 au mu
  go_wp2_with fail
  refine (markIntS_at _ x.2 _ (m + szS x.1) _ (by omega) (by omega) ad).mono ?_
  rintro e w2 ⟨rfl, md, c2⟩
  have mu2 := HMU.out.chg c2 (fun i hi hm => DIS.out i hm hi)
  have hall := Lib.hid (show At (partsB (.slice A x.1.2.length c) (.slice B x.2.length f)) (MarkQ (.agg #[.bool x.1.1, .slice A x.1.2.length c, .slice B x.2.length f]) x m) w2 from
    (At.both mu2 md).imp fun W hh => by
      obtain ⟨⟨u', e1, hu'⟩, hd'⟩ := hh
      injection e1 with e1
      have e2 : u' = .slice A x.1.2.length c := by simpa using e1.symm
      rw [e2] at hu'
      exact ⟨_, _, rfl, hu', hd'⟩)
  have hchg := Lib.hid (show Chg (partsB (.slice A x.1.2.length c) (.slice B x.2.length f)) w w2 from
    (Chg.of_below hbx).trans ((HC1.out.more fun g hg => List.mem_append_left _ hg).trans (c2.more fun g hg => List.mem_append_right _ hg)))
  clear md c2 mu2 ad HMU
  go_wp2
  go_ret
  exact ⟨ret_int (by rw [HZ.out]; omega), hall.out, hchg.out⟩

set_option maxHeartbeats 400000 in
set_option maxRecDepth 100000 in
theorem heldRat_at (v : Value) (x : QI) (m : Int) (w : World) (hm : m + szQ x ≤ 9223372036854775807) (hm0 : 0 ≤ m) (h : MarkQ v x m w) :
    Calls Tryz.prog 28 #[v, .int .i64 m] w fun e w' => e = .returned (.int .i64 (m + szQ x)) ∧ Below w.heap.size w w' := by
  obtain ⟨u, d, rfl, ou, od⟩ := h
  obtain ⟨A, c, rfl⟩ := own_len ou
  obtain ⟨B, f, rfl⟩ := own_len od
  have hs0 : 0 ≤ szS x.1 := by unfold szS szI; omega
  have hs1 : 0 ≤ szI x.2 := by unfold szI; omega
  have HZ := Lib.hid (show szQ x = szS x.1 + szI x.2 from rfl)
  rw [HZ.out] at hm
  have hbx := below_al (Below.refl w.heap.size w) (.cells #[.bool x.1.1, .slice A x.1.2.length c, .slice B x.2.length f] 51)
  have kx := box_new w #[.bool x.1.1, .slice A x.1.2.length c, .slice B x.2.length f] 51
  have ou1 : MarkS (.agg #[.bool x.1.1, .slice A x.1.2.length c]) x.1 m _ := ⟨_, rfl, own_below ou hbx⟩
  have od1 := own_below od hbx
  clear ou od
  go_enter Tryz.func28, Tryz.ntmps28
  go_wp2_with fail
  refine (heldSigned_at _ x.1 m _ (by omega) hm0 ou1).mono ?_
  rintro e w1 ⟨rfl, b1⟩
  have bb1 := Below.next hbx b1
  replace kx := kx.below b1
  replace od1 := own_below od1 b1
  have cx2 := kx.here.cell 2 _ rfl
  have hn1 : decide (m + szS x.1 < 0) = false := decide_eq_false (by omega)
  clear ou1 kx
  go_wp2_with fail
  refine (heldIntS_at _ x.2 (m + szS x.1) _ (by omega) (by omega) od1).mono ?_
  rintro e w2 ⟨rfl, b2⟩
  have bb2 := Below.next bb1 b2
  have hn2 : decide (m + szS x.1 + szI x.2 < 0) = false := decide_eq_false (by omega)
  clear hn1
  go_wp2
  go_ret
  exact ⟨ret_int (by rw [HZ.out]; omega), bb2⟩
end Go.Proofs.YtcenmdiblbooeaaGreatDoor

namespace Go.Proofs.YtcenmdiblbooeaaGreatDoor
open Go.RowKit

/-! ### kind R: impl.Rat -/
def capQ (x : QI) : Prop := x.1.2.length ≤ 9223372036854775807 ∧ x.2.length ≤ 9223372036854775807
theorem szQ_nonneg (x : QI) : 0 ≤ szQ x := by unfold szQ szS szI; omega
theorem szQ_len {x : QI} (h : szQ x ≤ 1048576) : x.1.2.length ≤ 1048576 ∧ x.2.length ≤ 1048576 := by unfold szQ szS szI at h; omega
theorem capQ_of {x : QI} (h : szQ x ≤ 1048576) : capQ x := by have := szQ_len h; unfold capQ; omega
theorem ownQ_form {v : Value} {x : QI} {w : World} (h : OwnQ v x w) : ∃ A c B d, v = .agg #[.bool x.1.1, .slice A x.1.2.length c, .slice B x.2.length d] := by
  obtain ⟨u, d, rfl, o, p, _⟩ := h
  obtain ⟨A, c, rfl⟩ := own_len o
  obtain ⟨B, d, rfl⟩ := own_len p
  exact ⟨A, c, B, d, rfl⟩
theorem rdQ_form {v : Value} {x : QI} {w : World} (h : RdQ w v x) : ∃ A c B d, v = .agg #[.bool x.1.1, .slice A x.1.2.length c, .slice B x.2.length d] := by
  obtain ⟨u, d, rfl, o, p⟩ := h
  obtain ⟨A, c, rfl⟩ := row_form o
  obtain ⟨B, d, rfl⟩ := row_form p
  rw [intsV_length, intsV_length]
  exact ⟨A, c, B, d, rfl⟩
theorem partsQ_at {u d : Value} {x : QI} {B C : Nat} {w : World} (ou : w.ownsRow B 3 1 u x.1.2.length (intsV x.1.2)) (od : w.ownsRow C 3 1 d x.2.length (intsV x.2)) (hap : ∀ g, u.ownBlock = some g → d.ownBlock ≠ some g) :
    At (partsB u d) (OwnQ (.agg #[.bool x.1.1, u, d]) x) w := (At.both (own_at' ou) (own_at' od)).imp fun _ h => ⟨u, d, rfl, h.1, h.2, hap⟩
theorem NewQ.newV {x : QI} {w w' : World} {e : Ending} (h : NewQ x w e w') : NewV (fun v => OwnQ v x) w e w' := by
  obtain ⟨u, d, rfl, o, p, hap, b⟩ := h
  exact ⟨_, partsB u d, rfl, partsQ_at o p hap, fun g hg => by
    rcases List.mem_append.1 hg with hg | hg
    · exact own_within o g hg
    · exact own_within p g hg, b⟩
theorem toQ_new (v : Value) (x : QI) (w : World) (hz : szQ x ≤ 1048576) (h : RdQ w v x) : Calls Tryz.prog 24 #[v] w (NewV (fun u => OwnQ u x) w) :=
  (toRat_at v x w (szQ_len hz).1 (szQ_len hz).2 h).mono fun _ _ h => h.newV
theorem eqQ_cal (u v : Value) (x y : QI) (w : World) (hz : capQ x) (hu : RdQ w u x) (hv : RdQ w v y) : Calls Tryz.prog 26 #[u, v] w (Postb (decide (x = y)) w) :=
  eqRat_at u v x y w hz.1 hz.2 hu hv
theorem szQ_cal (v : Value) (x : QI) (left : Int) (w : World) (hl : capQ x) (h0 : 0 ≤ left) (h1 : left ≤ 1048576) (h : RdQ w v x) : Calls Tryz.prog 22 #[v, .int .i64 left] w (Postn (leftI left (szQ x)) w) :=
  szRat_at v x left w hl.1 hl.2 h0 h1 h
theorem ownQ_open {u d : Value} {c : Value} {x : QI} {w : World} (h : OwnQ (.agg #[c, u, d]) x w) : c = .bool x.1.1 ∧ OwnI u x.1.2 w ∧ OwnI d x.2 w ∧ (∀ g, u.ownBlock = some g → d.ownBlock ≠ some g) := by
  obtain ⟨u', d', e, hu, hd, hap⟩ := h
  injection e with e
  simp at e
  obtain ⟨e1, e2, e3⟩ := e
  subst e1 e2 e3
  exact ⟨rfl, hu, hd, hap⟩
theorem markQ_cal (v : Value) (x : QI) (S : List Nat) (m : Int) (w : World) (hm : m + szQ x ≤ 9223372036854775807) (hm0 : 0 ≤ m) (h : At S (OwnQ v x) w) :
    Calls Tryz.prog 27 #[v, .int .i64 m] w fun e w' => e = .returned (.int .i64 (m + szQ x)) ∧ At S (MarkQ v x m) w' ∧ Chg S w w' := by
  obtain ⟨u, d, rfl, ou, od, hap⟩ := h.here
  have hs : ∀ g ∈ partsB u d, g ∈ S := fun g hg => by
    rcases List.mem_append.1 hg with hg | hg
    · exact toList_own (at_ints_mem h fun w' k => (ownQ_open k).2.1) g hg
    · exact toList_own (at_ints_mem h fun w' k => (ownQ_open k).2.2.1) g hg
  refine (markRat_at u d x m w hm hm0 ou od hap).mono fun e w' k => ?_
  obtain ⟨e1, k1, k2⟩ := k
  have hc := k2.more hs
  exact ⟨e1, k1.more hs (fun g hg => Nat.lt_of_lt_of_le (h.lt g hg) hc.size), hc⟩
theorem heldQ_cal (v : Value) (x : QI) (m : Int) (w : World) (hm : m + szQ x ≤ 9223372036854775807) (hm0 : 0 ≤ m) (h : MarkQ v x m w) : Calls Tryz.prog 28 #[v, .int .i64 m] w (Postn (m + szQ x) w) :=
  heldRat_at v x m w hm hm0 h

/-! ### what calls answer: a new fraction or signed number, and scalars with it -/
def PostQb (R0 : QI) (R1 : Bool) (w : World) (e : Ending) (w' : World) : Prop :=
  ∃ (v : Value) (S : List Nat), e = .returned (.tuple #[v, .bool R1]) ∧ At S (OwnQ v R0) w' ∧ Within S w.heap.size w'.heap.size ∧ Below w.heap.size w w'
end Go.Proofs.YtcenmdiblbooeaaGreatDoor

namespace Go.Proofs.YtcenmdiblbooeaaGreatDoor
open Go.RowKit

theorem drew_three (w : World) (a b c : Nat) : ∃ q, w.drewN q = ((w.drewN a).drewN b).drewN c := ⟨a + b + c, by rw [World.drewN_drewN, World.drewN_drewN, Nat.add_assoc]⟩
/-- between two bounds -/
def inB (n lo hi : Int) : Bool := decide (lo ≤ n ∧ n ≤ hi)
set_option maxHeartbeats 400000 in
set_option maxRecDepth 100000 in
theorem specIn_any (n lo hi : Int) (b : Bool) (w : World) (hb : inB n lo hi = b) :
    Calls Tryz.prog 159 #[.int .i64 n, .int .i64 lo, .int .i64 hi] w fun e w' => e = .returned (.bool b) ∧ w = w' := by
  subst hb
  go_enter Tryz.func159, Tryz.ntmps159
  go_wp2
  all_goals go_ret
  · exact ⟨by simp [inB, *], rfl⟩
  · exact ⟨by simp [inB]; omega, rfl⟩

theorem all_upto (xs : List Int) (k : Nat) (h : (xs.take k).all digB = true) (hk : ¬ k < xs.length) : xs.all digB = true := by
  rwa [List.take_of_length_le (by omega)] at h
theorem all_succ (xs : List Int) (k : Nat) (hk : k < xs.length) (h : (xs.take k).all digB = true) (hd : digB xs[k] = true) : (xs.take (k + 1)).all digB = true := by
  rw [List.take_succ_eq_append_getElem hk, List.all_append, h]
  simp [hd]
theorem not_all (xs : List Int) (k : Nat) (hk : k < xs.length) (hd : digB xs[k] = false) : natOkB xs = false := by
  have : xs.all digB = false := by
    rw [List.all_eq_false]
    exact ⟨xs[k], List.getElem_mem hk, by simp [hd]⟩
  unfold natOkB
  rw [this]
  rfl
theorem ok_nil : natOkB [] = true := rfl
theorem ok_long (xs : List Int) (h : ¬ xs.length ≤ 50) : natOkB xs = false := by
  unfold natOkB
  rw [decide_eq_false h, Bool.false_and, Bool.and_false]
theorem last_at (xs : List Int) (h : xs.length - 1 < xs.length) : xs.getLastD 1 = xs[xs.length - 1] := by
  rw [List.getLastD_eq_getLast?, List.getLast?_eq_getElem?, List.getElem?_eq_getElem h]
  rfl
theorem ok_last (xs : List Int) (ha : xs.all digB = true) (hl : xs.length ≤ 50) (h : xs.length - 1 < xs.length) : (xs[xs.length - 1] != 0) = natOkB xs := by
  unfold natOkB
  rw [ha, decide_eq_true hl, Bool.true_and, Bool.true_and, last_at xs h]
  by_cases e : xs[xs.length - 1] = 0
  · rw [e]; rfl
  · rw [decide_eq_true e, bne_iff_ne]; exact e

set_option maxHeartbeats 400000 in
set_option maxRecDepth 100000 in
theorem specNatOk_any (v : Value) (xs : List Int) (lo hi : Nat) (w : World) (hl : xs.length ≤ 1048576) (hr : Row w lo hi v (intsV xs)) :
    Calls Tryz.prog 160 #[v] w fun e w' => e = .returned (.bool (natOkB xs)) ∧ w = w' := by
  obtain ⟨A, c, rfl, hA⟩ := hr
  have HA := Lib.hid hA
  rw [intsV_length]
  clear hA
  go_enter Tryz.func160, Tryz.ntmps160
  go_wp2
  go_loop [7] (fun i => ∃ k : Nat, k ≤ xs.length ∧ i = .int .i64 k ∧ Hid ((xs.take k).all digB = true)) (fun i => xs.length - (intOf i).toNat)
  case atStart => exact ⟨0, Nat.zero_le _, rfl, Lib.hid rfl⟩
  case round =>
    obtain ⟨k, hk, rfl, HD⟩ := hrel
    by_cases hlt : k < xs.length
    · obtain ⟨a, rfl, _, _, hca⟩ := HA.out k _ (intsV_at xs k hlt)
      by_cases hd : digB xs[k] = true
      · have HS := Lib.hid (all_succ xs k hlt HD.out hd)
        go_wp2_with (go_at_call 159; refine (specIn_any _ _ _ true _ hd).mono ?_; rintro e w' ⟨rfl, rfl⟩)
        go_round
        case rel => exact ⟨k + 1, by omega, by go_num, HS⟩
        case measure => simp [intOf]; omega
      · have hd' : digB xs[k] = false := by simpa using hd
        have HN := Lib.hid (not_all xs k hlt hd')
        go_wp2_with (go_at_call 159; refine (specIn_any _ _ _ false _ hd').mono ?_; rintro e w' ⟨rfl, rfl⟩)
        go_ret
        exact ⟨ret_bool HN.out.symm, rfl⟩
    · have HF := Lib.hid (all_upto xs k HD.out hlt)
      by_cases h50 : xs.length ≤ 50
      · by_cases h0 : xs.length = 0
        · have hz : ((xs.length : Int) == 0) = true := by simp [h0]
          obtain rfl : xs = [] := List.eq_nil_of_length_eq_zero h0
          clear h0
          go_wp2
          go_ret
          exact ⟨rfl, rfl⟩
        · have hz : ((xs.length : Int) == 0) = false := by rw [beq_eq_false_iff_ne]; omega
          have hlt2 : xs.length - 1 < xs.length := by omega
          obtain ⟨a, rfl, _, _, hca⟩ := HA.out (xs.length - 1) _ (intsV_at xs (xs.length - 1) hlt2)
          have HL := Lib.hid (ok_last xs HF.out h50 hlt2)
          clear h0
          go_wp2
          go_ret
          exact ⟨ret_bool HL.out, rfl⟩
      · have HN := Lib.hid (ok_long xs h50)
        go_wp2
        go_ret
        exact ⟨ret_bool HN.out.symm, rfl⟩

theorem cmp_lt {x y : Int} (h : x < y) : cmpI x y = -1 := by unfold cmpI; rw [if_pos h]
theorem cmp_gt {x y : Int} (h : y < x) : cmpI x y = 1 := by unfold cmpI; rw [if_neg (by omega), if_pos h]
theorem cmp_eq {x y : Int} (h : x = y) : cmpI x y = 0 := by unfold cmpI; rw [if_neg (by omega), if_neg (by omega)]
theorem drop_same (a b : List Int) (k : Nat) (ha : k < a.length) (hb : k < b.length) (h : a.drop (k + 1) = b.drop (k + 1)) (e : a[k] = b[k]) : a.drop k = b.drop k := by
  rw [List.drop_eq_getElem_cons ha, List.drop_eq_getElem_cons hb, h, e]

set_option maxHeartbeats 1000000 in
set_option maxRecDepth 100000 in
theorem specCmp_any (va vb : Value) (a b : List Int) (la ha lb hb : Nat) (w : World) (hal : a.length ≤ 1048576) (_hbl : b.length ≤ 1048576) (oa : DigN a ∧ a.getLastD 1 ≠ 0) (ob : DigN b ∧ b.getLastD 1 ≠ 0)
    (hra : Row w la ha va (intsV a)) (hrb : Row w lb hb vb (intsV b)) :
    Calls Tryz.prog 162 #[va, vb] w fun e w' => e = .returned (.int .i64 (cmpI (nval a) (nval b))) ∧ ∃ q, w.drewN q = w' := by
  obtain ⟨A, c, rfl, hA⟩ := hra
  obtain ⟨B, d, rfl, hB⟩ := hrb
  rw [intsV_length, intsV_length]
  have HA := Lib.hid hA
  have HB := Lib.hid hB
  have OA := Lib.hid oa
  have OB := Lib.hid ob
  clear hA hB oa ob
  by_cases hlen : a.length = b.length
  · have HL := Lib.hid hlen
    have hbe : ((a.length : Int) != (b.length : Int)) = false := by simp [hlen]
    clear hlen
    go_enter Tryz.func162, Tryz.ntmps162
    go_wp2
    go_loopw [5] (fun i wr => ∃ k q : Nat, k ≤ a.length ∧ i = .int .i64 ((k : Int) - 1) ∧ wr = w.drewN q ∧ Hid (a.drop k = b.drop k)) (fun i _ => (intOf i + 1).toNat)
    case atStart => exact ⟨a.length, 0, Nat.le_refl _, rfl, rfl, Lib.hid (by rw [List.drop_of_length_le (Nat.le_refl _), List.drop_of_length_le (by have := HL.out; omega)])⟩
    case round =>
      obtain ⟨k, q, hk, rfl, rfl, HT⟩ := hrel
      by_cases hz : 0 < k
      · obtain ⟨m, rfl⟩ : ∃ m, k = m + 1 := ⟨k - 1, by omega⟩
        have hlt : m < a.length := by omega
        have hlt2 : m < b.length := by have := HL.out; omega
        obtain ⟨p, rfl, _, _, hca⟩ := HA.out m _ (intsV_at a m hlt)
        obtain ⟨r, rfl, _, _, hcb⟩ := HB.out m _ (intsV_at b m hlt2)
        have hm1 : ((m + 1 : Nat) : Int) - 1 = (m : Int) := by omega
        rw [hm1]
        clear hm1 hz
        by_cases h1 : a[m] < b[m]
        · have HV := Lib.hid (nval_lt_down a b OA.out.1 OB.out.1 HL.out m (by rw [nval_drop a m hlt, nval_drop b m hlt2, HT.out]; omega))
          go_wp2
          go_quiet (fail)
          go_wp2
          go_ret
          exact ⟨ret_int (cmp_lt HV.out).symm, _, (World.drewN_drewN _ _ _).symm⟩
        · by_cases h2 : b[m] < a[m]
          · have HV := Lib.hid (nval_lt_down b a OB.out.1 OA.out.1 HL.out.symm m (by rw [nval_drop a m hlt, nval_drop b m hlt2, HT.out]; omega))
            go_wp2
            go_quiet (fail)
            go_wp2
            go_quiet (fail)
            go_wp2
            go_ret
            exact ⟨ret_int (cmp_gt HV.out).symm, drew_three _ _ _ _⟩
          · have HS := Lib.hid (drop_same a b m hlt hlt2 HT.out (by omega))
            go_wp2
            go_quiet (fail)
            go_wp2
            go_quiet (fail)
            go_wp2
            go_roundw
            case rel => exact ⟨m, _, by omega, rfl, rfl, HS⟩
            case measure => simp [intOf]
      · obtain rfl : k = 0 := by omega
        go_wp2
        go_ret
        exact ⟨ret_int (cmp_eq (by have := HT.out; rw [List.drop_zero, List.drop_zero] at this; rw [this])).symm, q, rfl⟩
  · have hbe : ((a.length : Int) != (b.length : Int)) = true := by simp; omega
    by_cases hs : a.length < b.length
    · have HV := Lib.hid (nval_short a b OA.out.1 OB.out.1 hs OB.out.2)
      go_enter Tryz.func162, Tryz.ntmps162
      go_wp2
      go_ret
      exact ⟨ret_int (cmp_lt HV.out).symm, 0, rfl⟩
    · have HV := Lib.hid (nval_short b a OB.out.1 OA.out.1 (by omega) OA.out.2)
      go_enter Tryz.func162, Tryz.ntmps162
      go_wp2
      go_ret
      exact ⟨ret_int (cmp_gt HV.out).symm, 0, rfl⟩

theorem ok_dig {xs : List Int} (h : natOkB xs = true) : DigN xs ∧ xs.getLastD 1 ≠ 0 := ⟨(natOk_parts h).1, (natOk_parts h).2.2⟩
/-- what NatCmp answers -/
def cmpN (a b : List Int) : Int := if natOkB a = true ∧ natOkB b = true then cmpI (nval a) (nval b) else 0


/-- the first k of a row that the call owns -/
theorem own_take {w : World} {base n : Nat} {e : TypeId} {A : Option Addr} {c : Nat} {xs : List Value} (k : Nat) (hk : k ≤ n) (h : w.ownsRow base e 1 (.slice A n c) n xs) : w.ownsRow base e 1 (.slice A k c) k (xs.take k) := by
  obtain ⟨hl, ⟨h1, h2⟩ | ⟨g, cap, cur, e1, hb, hh, hn, hc, hs, ht⟩⟩ := h
  · cases h1
    obtain rfl : k = 0 := by omega
    exact ⟨by simp, .inl ⟨rfl, rfl⟩⟩
  · obtain ⟨rfl, rfl⟩ : A = some ⟨g, 0, none⟩ ∧ cap = c := by cases e1; exact ⟨rfl, rfl⟩
    refine ⟨by rw [List.length_take]; omega, .inr ⟨g, cap, cur, rfl, hb, hh, by omega, hc, hs, ?_⟩⟩
    rw [← ht, List.take_take]
    congr 1
    omega
theorem intsV_take (xs : List Int) (k : Nat) : (intsV xs).take k = intsV (xs.take k) := by simp [intsV, List.map_take]

/-- the first elements of an own row of ints, handed back -/
def OwnPost (base : Nat) (ys : List Int) (w : World) (e : Ending) (w' : World) : Prop :=
  w = w' ∧ ∃ v, e = .returned v ∧ w.ownsRow base 3 1 v ys.length (intsV ys)

/-- the first elements of an own row of ints, told by its address -/
def TrimPost (A : Option Addr) (c base : Nat) (ys : List Int) (w : World) (e : Ending) (w' : World) : Prop :=
  w = w' ∧ e = .returned (.slice A ys.length c) ∧ w.ownsRow base 3 1 (.slice A ys.length c) ys.length (intsV ys)
set_option maxHeartbeats 400000 in
set_option maxRecDepth 100000 in
theorem specTrim_at (A : Option Addr) (c : Nat) (xs : List Int) (base : Nat) (w : World) (hl : xs.length ≤ 1048576) (ho : w.ownsRow base 3 1 (.slice A xs.length c) xs.length (intsV xs)) :
    Calls Tryz.prog 101 #[.slice A xs.length c] w (TrimPost A c base (trimL xs) w) := by
  have hA : ∀ j u, (intsV xs)[j]? = some u → ∃ a : Addr, A = some a ∧ base ≤ a.block ∧ a.block < w.heap.size ∧ w.cell? (a.add j) = some u := by
    obtain ⟨A', c', e1, hA⟩ := Row.of_own ho
    injection e1 with e1 e2 e3
    subst e1
    exact hA
  have HA := Lib.hid hA
  have HO := Lib.hid ho
  have hcap : xs.length ≤ c := by
    rcases ho.2 with ⟨h1, h2⟩ | ⟨g, cap, cur, e1, _, _, hn, _⟩
    · omega
    · injection e1 with _ _ e3; omega
  clear hA ho
  go_enter Tryz.func101, Tryz.ntmps101
  go_wp2
  go_loop [3] (fun n => ∃ k : Nat, k ≤ xs.length ∧ n = .int .i64 k ∧ Hid (∀ j (h : j < xs.length), k ≤ j → xs[j] = 0)) (fun n => (intOf n).toNat)
  case atStart => exact ⟨xs.length, Nat.le_refl _, rfl, Lib.hid (fun j h hj => absurd h (by omega))⟩
  case round =>
    obtain ⟨k, hk, rfl, HZ⟩ := hrel
    by_cases h0 : 0 < k
    · obtain ⟨m, rfl⟩ : ∃ m, k = m + 1 := ⟨k - 1, by omega⟩
      have hlt : m < xs.length := by omega
      obtain ⟨a, rfl, _, _, hca⟩ := HA.out m _ (intsV_at xs m hlt)
      by_cases hz : xs[m] = 0
      · have hzb : (xs[m] == 0) = true := by rw [beq_iff_eq]; exact hz
        have HN : Hid (∀ j (h : j < xs.length), m ≤ j → xs[j] = 0) := Lib.hid (fun j h hj => by
          by_cases e : j = m
          · subst e; exact hz
          · exact HZ.out j h (by omega))
        clear hz
        go_wp2
        go_round
        case rel => exact ⟨m, by omega, rfl, HN⟩
        case measure => simp [intOf]
      · have hzb : (xs[m] == 0) = false := by rw [beq_eq_false_iff_ne]; exact hz
        have HT := Lib.hid (trim_prefix xs (m + 1) hk HZ.out (fun _ _ => hz))
        clear hz
        go_wp2
        go_ret
        refine ⟨rfl, ?_⟩
        rw [HT.out, ← intsV_take, List.length_take, show min (m + 1) xs.length = m + 1 from by omega]
        exact ⟨rfl, own_take (m + 1) hk HO.out⟩
    · obtain rfl : k = 0 := by omega
      have HT := Lib.hid (trim_prefix xs 0 hk HZ.out (fun _ h => absurd h (by omega)))
      go_wp2
      go_ret
      refine ⟨rfl, ?_⟩
      rw [HT.out, ← intsV_take, List.length_take, Nat.zero_min]
      exact ⟨rfl, own_take 0 hk HO.out⟩
theorem specTrim_any (v : Value) (xs : List Int) (base : Nat) (w : World) (hl : xs.length ≤ 1048576) (ho : w.ownsRow base 3 1 v xs.length (intsV xs)) :
    Calls Tryz.prog 101 #[v] w (OwnPost base (trimL xs) w) := by
  obtain ⟨A, c, rfl⟩ := own_len ho
  refine (specTrim_at A c xs base w hl ho).mono ?_
  rintro e w' ⟨rfl, rfl, h⟩
  exact ⟨rfl, _, rfl, h⟩

theorem trimL_length (xs : List Int) : (trimL xs).length ≤ xs.length := by
  induction xs with
  | nil => exact Nat.le_refl _
  | cons d r ih =>
    unfold trimL
    split
    · simp
    · simp; omega
set_option maxHeartbeats 400000 in
set_option maxRecDepth 100000 in
theorem specCap_any (v : Value) (xs : List Int) (base : Nat) (w : World) (hl : xs.length ≤ 1048576) (ho : w.ownsRow base 3 1 v xs.length (intsV xs)) :
    Calls Tryz.prog 99 #[v] w (OwnPost base (capL (trimL xs)) w) := by
  have hlt := trimL_length xs
  by_cases h50 : 50 < (trimL xs).length
  · have HC := Lib.hid (show capL (trimL xs) = [] by unfold capL; rw [if_pos h50])
    go_enter Tryz.func99, Tryz.ntmps99
    go_wp2_with fail
    refine (specTrim_any v xs base _ hl ho).mono ?_
    rintro e w' ⟨rfl, v', rfl, ho'⟩
    obtain ⟨A, c, rfl⟩ := own_len ho'
    go_wp2
    go_ret
    exact ⟨rfl, _, rfl, by rw [HC.out]; exact ⟨rfl, .inl ⟨rfl, rfl⟩⟩⟩
  · have HC := Lib.hid (show capL (trimL xs) = trimL xs by unfold capL; rw [if_neg h50])
    go_enter Tryz.func99, Tryz.ntmps99
    go_wp2_with fail
    refine (specTrim_any v xs base _ hl ho).mono ?_
    rintro e w' ⟨rfl, v', rfl, ho'⟩
    obtain ⟨A, c, rfl⟩ := own_len ho'
    go_wp2
    go_ret
    exact ⟨rfl, _, rfl, by rw [HC.out]; exact ho'⟩

/-! ### l02Add -/
theorem addL_both (a b : List Int) (i : Nat) (c : Int) (h1 : i < a.length) (h2 : i < b.length) : addL (a.drop i) (b.drop i) c = (c + a[i] + b[i]) % 1000000000 :: addL (a.drop (i + 1)) (b.drop (i + 1)) ((c + a[i] + b[i]) / 1000000000) := by
  rw [List.drop_eq_getElem_cons h1, List.drop_eq_getElem_cons h2, addL]
theorem addL_left (a b : List Int) (i : Nat) (c : Int) (h1 : i < a.length) (h2 : ¬ i < b.length) : addL (a.drop i) (b.drop i) c = (c + a[i]) % 1000000000 :: addL (a.drop (i + 1)) (b.drop (i + 1)) ((c + a[i]) / 1000000000) := by
  rw [List.drop_eq_getElem_cons h1, List.drop_of_length_le (l := b) (by omega), List.drop_of_length_le (l := b) (by omega), addL]
theorem addL_right (a b : List Int) (i : Nat) (c : Int) (h1 : ¬ i < a.length) (h2 : i < b.length) : addL (a.drop i) (b.drop i) c = (c + b[i]) % 1000000000 :: addL (a.drop (i + 1)) (b.drop (i + 1)) ((c + b[i]) / 1000000000) := by
  rw [List.drop_eq_getElem_cons h2, List.drop_of_length_le (l := a) (by omega), List.drop_of_length_le (l := a) (by omega), addL]
theorem addL_end (a b : List Int) (i : Nat) (c : Int) (h1 : ¬ i < a.length) (h2 : ¬ i < b.length) : addL (a.drop i) (b.drop i) c = if 0 < c then [c] else [] := by
  rw [List.drop_of_length_le (by omega), List.drop_of_length_le (by omega), addL]

/-- what the loop of l02Add knows at its head -/
def AddRel (a b : List Int) (w : World) (v c i : Value) (wr : World) : Prop :=
  ∃ (k : Nat) (cr : Int) (out : List Int), k ≤ a.length + b.length + 1 ∧ i = .int .i64 k ∧ c = .int .i64 cr ∧ 0 ≤ cr ∧ cr ≤ 1 ∧ out.length = k ∧ out ++ addL (a.drop k) (b.drop k) cr = addL a b 0 ∧
    wr.ownsRow w.heap.size 3 1 v out.length (intsV out) ∧ Below w.heap.size w wr
theorem add_step {a b out : List Int} {w w1 : World} {v1 : Value} {k : Nat} {n : Int} (hk : k + 1 ≤ a.length + b.length + 1) (h0 : 0 ≤ n / 1000000000) (h1 : n / 1000000000 ≤ 1) (hl : out.length = k) (e : out ++ n % 1000000000 :: addL (a.drop (k + 1)) (b.drop (k + 1)) (n / 1000000000) = addL a b 0)
    (ho : w1.ownsRow w.heap.size 3 1 v1 (out.length + 1) (intsV out ++ [.int .i64 (n % 1000000000)])) (hb : Below w.heap.size w w1) : AddRel a b w v1 (.int .i64 (n / 1000000000)) (.int .i64 ((k : Int) + 1)) w1 := by
  refine ⟨k + 1, n / 1000000000, out ++ [n % 1000000000], hk, by go_num, rfl, h0, h1, by simp [hl], by rw [List.append_assoc]; exact e, ?_, hb⟩
  simpa [intsV] using ho

set_option maxHeartbeats 2000000 in
set_option maxRecDepth 100000 in
theorem specAdd_any (va vb : Value) (a b : List Int) (la ha lb hb : Nat) (w : World) (hal : a.length ≤ 524288) (hbl : b.length ≤ 524288) (hha : ha ≤ w.heap.size) (hhb : hb ≤ w.heap.size) (oa : DigN a) (ob : DigN b)
    (hra : Row w la ha va (intsV a)) (hrb : Row w lb hb vb (intsV b)) :
    Calls Tryz.prog 166 #[va, vb] w (NewInts (addL a b 0) w) := by
  obtain ⟨i0, hi, hz0, hz1, hz2⟩ := info_parts intInfo
  obtain ⟨A, c, rfl, hA⟩ := hra
  obtain ⟨B, d, rfl, hB⟩ := hrb
  rw [intsV_length, intsV_length]
  have HA := Lib.hid hA
  have HB := Lib.hid hB
  have OA := Lib.hid oa
  have OB := Lib.hid ob
  clear hA hB oa ob
  go_enter Tryz.func166, Tryz.ntmps166
  go_wp2
  go_loopw [5, 6, 7] (fun v cr i wr => AddRel a b w v cr i wr) (fun _ cr i _ => 2 * (a.length + b.length + 1 - (intOf i).toNat) + (intOf cr).toNat)
  case atStart => exact ⟨0, 0, [], Nat.zero_le _, rfl, rfl, by omega, by omega, rfl, rfl, ⟨rfl, .inr ⟨w.heap.size, 0, #[], rfl, Nat.le_refl _, heap_alloc_new w _, Nat.le_refl _, Nat.zero_le _, rfl, rfl⟩⟩, (Below.refl _ _).alloc (Nat.le_refl _) _⟩
  case round =>
    obtain ⟨k, cr, out, hk, rfl, rfl, hc0, hc1, hol, hev, hown, hb1⟩ := hrel
    have HE := Lib.hid hev
    have HOL := Lib.hid hol
    have holk : out.length ≤ a.length + b.length + 1 := by omega
    clear hev hol
    by_cases h1 : k < a.length
    · obtain ⟨p, rfl, _, hpb, hca⟩ := HA.out k _ (intsV_at a k h1)
      have hca' : wr.cell? (p.add k) = some (.int .i64 a[k]) := (hb1.cell (by rw [block_add]; omega)).trans hca
      have hda := OA.out.at_ k h1
      clear hca
      by_cases h2 : k < b.length
      · obtain ⟨r, rfl, _, hrb, hcb⟩ := HB.out k _ (intsV_at b k h2)
        have hcb' : wr.cell? (r.add k) = some (.int .i64 b[k]) := (hb1.cell (by rw [block_add]; omega)).trans hcb
        have hdb := OB.out.at_ k h2
        clear hcb
        have HS := Lib.hid (addL_both a b k cr h1 h2)
        go_wp2_with (at_builtin; refine wpList_append_own _ rfl (.tmp 47) (.tmp 50) 23 rfl w.heap.size 3 i0 (.int .i64 0) 1 8 Tryz.underlying23 hi hz0 hz1 hz2 rfl (by decide) _ _ _ rfl (own_alloc hown _) ⟨wr.heap.size, 0, none⟩ 1 1 [.int .i64 ((cr + a[k] + b[k]) % 1000000000)] rfl rfl (one_new _ _ _) ?c2 ?c3 ?c4 ?c5 ?_)
        case c2 => intro u hu; simp at hu; subst hu; rfl
        case c3 => unfold maxLen; omega
        case c4 => omega
        case c5 => have := hb1.size; simp; omega
        intro v1 w1 hown1 hg1 _
        have hb2 := below_push hb1 (Nat.le_refl _) hown hg1
        go_wp2
        exact ⟨add_step (by omega) (by omega) (by omega) HOL.out (by rw [← HS.out]; exact HE.out) hown1 hb2, by simp [intOf]; omega⟩
      · have HS := Lib.hid (addL_left a b k cr h1 h2)
        go_wp2_with (at_builtin; refine wpList_append_own _ rfl (.tmp 47) (.tmp 50) 23 rfl w.heap.size 3 i0 (.int .i64 0) 1 8 Tryz.underlying23 hi hz0 hz1 hz2 rfl (by decide) _ _ _ rfl (own_alloc hown _) ⟨wr.heap.size, 0, none⟩ 1 1 [.int .i64 ((cr + a[k]) % 1000000000)] rfl rfl (one_new _ _ _) ?c2 ?c3 ?c4 ?c5 ?_)
        case c2 => intro u hu; simp at hu; subst hu; rfl
        case c3 => unfold maxLen; omega
        case c4 => omega
        case c5 => have := hb1.size; simp; omega
        intro v1 w1 hown1 hg1 _
        have hb2 := below_push hb1 (Nat.le_refl _) hown hg1
        go_wp2
        exact ⟨add_step (by omega) (by omega) (by omega) HOL.out (by rw [← HS.out]; exact HE.out) hown1 hb2, by simp [intOf]; omega⟩
    · by_cases h2 : k < b.length
      · obtain ⟨r, rfl, _, hrb, hcb⟩ := HB.out k _ (intsV_at b k h2)
        have hcb' : wr.cell? (r.add k) = some (.int .i64 b[k]) := (hb1.cell (by rw [block_add]; omega)).trans hcb
        have hdb := OB.out.at_ k h2
        clear hcb
        have HS := Lib.hid (addL_right a b k cr h1 h2)
        go_wp2_with (at_builtin; refine wpList_append_own _ rfl (.tmp 47) (.tmp 50) 23 rfl w.heap.size 3 i0 (.int .i64 0) 1 8 Tryz.underlying23 hi hz0 hz1 hz2 rfl (by decide) _ _ _ rfl (own_alloc hown _) ⟨wr.heap.size, 0, none⟩ 1 1 [.int .i64 ((cr + b[k]) % 1000000000)] rfl rfl (one_new _ _ _) ?c2 ?c3 ?c4 ?c5 ?_)
        case c2 => intro u hu; simp at hu; subst hu; rfl
        case c3 => unfold maxLen; omega
        case c4 => omega
        case c5 => have := hb1.size; simp; omega
        intro v1 w1 hown1 hg1 _
        have hb2 := below_push hb1 (Nat.le_refl _) hown hg1
        go_wp2
        exact ⟨add_step (by omega) (by omega) (by omega) HOL.out (by rw [← HS.out]; exact HE.out) hown1 hb2, by simp [intOf]; omega⟩
      · have HS := Lib.hid (addL_end a b k cr h1 h2)
        by_cases h3 : 0 < cr
        · have hkl : k + 1 ≤ a.length + b.length + 1 := by
            have e1 := HE.out
            rw [HS.out, if_pos h3] at e1
            have e2 := congrArg List.length e1
            have e3 := (addL_val a b 0 OA.out OB.out (by omega) (by omega)).2.2
            rw [List.length_append, HOL.out] at e2
            simp at e2
            omega
          have HS2 : Hid (addL (a.drop k) (b.drop k) cr = cr % 1000000000 :: addL (a.drop (k + 1)) (b.drop (k + 1)) (cr / 1000000000)) := Lib.hid (by
            rw [HS.out, if_pos h3, addL_end a b (k + 1) _ (by omega) (by omega), if_neg (by omega), show cr % 1000000000 = cr from by omega])
          go_wp2_with (at_builtin; refine wpList_append_own _ rfl (.tmp 47) (.tmp 50) 23 rfl w.heap.size 3 i0 (.int .i64 0) 1 8 Tryz.underlying23 hi hz0 hz1 hz2 rfl (by decide) _ _ _ rfl (own_alloc hown _) ⟨wr.heap.size, 0, none⟩ 1 1 [.int .i64 ((cr) % 1000000000)] rfl rfl (one_new _ _ _) ?c2 ?c3 ?c4 ?c5 ?_)
          case c2 => intro u hu; simp at hu; subst hu; rfl
          case c3 => unfold maxLen; omega
          case c4 => omega
          case c5 => have := hb1.size; simp; omega
          intro v1 w1 hown1 hg1 _
          have hb2 := below_push hb1 (Nat.le_refl _) hown hg1
          go_wp2
          exact ⟨add_step (by omega) (by omega) (by omega) HOL.out (by rw [← HS2.out]; exact HE.out) hown1 hb2, by simp [intOf]; omega⟩
        · have HF : Hid (out = addL a b 0) := Lib.hid (by have e1 := HE.out; rwa [HS.out, if_neg h3, List.append_nil] at e1)
          go_wp2
          go_ret
          exact ⟨_, rfl, by rw [← HF.out]; exact hown, hb1⟩
end Go.Proofs.YtcenmdiblbooeaaGreatDoor

namespace Go.Proofs.YtcenmdiblbooeaaGreatDoor
open Go.RowKit

/-- what NatAdd, NatSub and NatMul answer -/
def addN (a b : List Int) : List Int := if natOkB a = true ∧ natOkB b = true then natRes (nval a + nval b) else []
def subN (a b : List Int) : List Int := if natOkB a = true ∧ natOkB b = true then natRes (nval a - nval b) else []
def mulN (a b : List Int) : List Int := if natOkB a = true ∧ natOkB b = true then natRes (nval a * nval b) else []
theorem res_of {n : Int} {xs : List Int} (h : DigN xs) (e : nval xs = n) : capL (trimL xs) = natRes n := by
  unfold natRes
  rw [trim_limbs xs h, e]
theorem nil_own {w : World} {base : Nat} {e : TypeId} : w.ownsRow base e 1 (.slice none 0 0) 0 [] := ⟨rfl, .inl ⟨rfl, rfl⟩⟩
theorem new_nil {w w' : World} (hb : Below w.heap.size w w') : NewInts [] w (.returned (.slice none 0 0)) w' := ⟨_, rfl, nil_own, hb⟩
theorem new_of {w w1 w2 : World} {xs : List Int} {v : Value} (h : NewInts xs w1 (.returned v) w2) (hb : Below w.heap.size w w1) : NewInts xs w (.returned v) w2 := by
  obtain ⟨v', e, ho, hb2⟩ := h
  cases e
  have hs := hb.size
  refine ⟨v, rfl, ?_, Below.next hb hb2⟩
  obtain ⟨hl, h | ⟨g, cap, cur, e1, hg, r⟩⟩ := ho
  · exact ⟨hl, .inl h⟩
  · exact ⟨hl, .inr ⟨g, cap, cur, e1, by omega, r⟩⟩
theorem own_lower {w : World} {base base' n : Nat} {e : TypeId} {v : Value} {xs : List Value} (h : w.ownsRow base e 1 v n xs) (hb : base' ≤ base) : w.ownsRow base' e 1 v n xs := by
  obtain ⟨hl, h | ⟨g, cap, cur, e1, hg, r⟩⟩ := h
  · exact ⟨hl, .inl h⟩
  · exact ⟨hl, .inr ⟨g, cap, cur, e1, by omega, r⟩⟩





/-! ### l02Sub -/
theorem subL_drop (a b : List Int) (i : Nat) (c : Int) (h1 : i < a.length) : subL (a.drop i) (b.drop i) c = if a[i] - c - b.getD i 0 < 0 then (a[i] - c - b.getD i 0 + 1000000000) :: subL (a.drop (i + 1)) (b.drop (i + 1)) 1 else (a[i] - c - b.getD i 0) :: subL (a.drop (i + 1)) (b.drop (i + 1)) 0 := by
  have hh : (b.drop i).headD 0 = b.getD i 0 := by
    rw [List.headD_eq_head?_getD, List.head?_drop, List.getD_eq_getElem?_getD]
  have ht : (b.drop i).tail = b.drop (i + 1) := by rw [List.tail_drop]
  rw [List.drop_eq_getElem_cons h1, subL, hh, ht]
theorem getD_in (b : List Int) (i : Nat) (h : i < b.length) : b.getD i 0 = b[i] := by
  rw [List.getD_eq_getElem?_getD, List.getElem?_eq_getElem h]
  rfl
theorem getD_out (b : List Int) (i : Nat) (h : ¬ i < b.length) : b.getD i 0 = 0 := by
  rw [List.getD_eq_getElem?_getD, List.getElem?_eq_none (by omega)]
  rfl
/-- what the loop of l02Sub knows at its head -/
def SubRel (a b : List Int) (w : World) (v c i : Value) (wr : World) : Prop :=
  ∃ (k : Nat) (cr : Int) (out : List Int), k ≤ a.length ∧ i = .int .i64 k ∧ c = .int .i64 cr ∧ 0 ≤ cr ∧ cr ≤ 1 ∧ out.length = k ∧ out ++ subL (a.drop k) (b.drop k) cr = subL a b 0 ∧
    wr.ownsRow w.heap.size 3 1 v out.length (intsV out) ∧ Below w.heap.size w wr
theorem sub_step {a b out : List Int} {w w1 : World} {v1 : Value} {k : Nat} {n c : Int} (hk : k + 1 ≤ a.length) (h0 : 0 ≤ c) (h1 : c ≤ 1) (hl : out.length = k) (e : out ++ n :: subL (a.drop (k + 1)) (b.drop (k + 1)) c = subL a b 0)
    (ho : w1.ownsRow w.heap.size 3 1 v1 (out.length + 1) (intsV out ++ [.int .i64 n])) (hb : Below w.heap.size w w1) : SubRel a b w v1 (.int .i64 c) (.int .i64 ((k : Int) + 1)) w1 := by
  refine ⟨k + 1, c, out ++ [n], hk, by go_num, rfl, h0, h1, by simp [hl], by rw [List.append_assoc]; exact e, ?_, hb⟩
  simpa [intsV] using ho

set_option maxHeartbeats 2000000 in
set_option maxRecDepth 100000 in
theorem specSub_any (va vb : Value) (a b : List Int) (la ha lb hb : Nat) (w : World) (hal : a.length ≤ 1048576) (hbl : b.length ≤ 1048576) (hha : ha ≤ w.heap.size) (hhb : hb ≤ w.heap.size) (oa : DigN a) (ob : DigN b)
    (hra : Row w la ha va (intsV a)) (hrb : Row w lb hb vb (intsV b)) (hsl : (subL a b 0).length = a.length) :
    Calls Tryz.prog 194 #[va, vb] w (NewInts (trimL (subL a b 0)) w) := by
  obtain ⟨i0, hi, hz0, hz1, hz2⟩ := info_parts intInfo
  obtain ⟨A, c, rfl, hA⟩ := hra
  obtain ⟨B, d, rfl, hB⟩ := hrb
  rw [intsV_length, intsV_length]
  have HA := Lib.hid hA
  have HB := Lib.hid hB
  have OA := Lib.hid oa
  have OB := Lib.hid ob
  have HSL := Lib.hid hsl
  clear hA hB oa ob hsl
  go_enter Tryz.func194, Tryz.ntmps194
  go_wp2
  go_loopw [5, 6, 12] (fun v cr i wr => SubRel a b w v cr i wr) (fun _ _ i _ => a.length - (intOf i).toNat)
  case atStart => exact ⟨0, 0, [], Nat.zero_le _, rfl, rfl, by omega, by omega, rfl, rfl, ⟨rfl, .inr ⟨w.heap.size, 0, #[], rfl, Nat.le_refl _, heap_alloc_new w _, Nat.le_refl _, Nat.zero_le _, rfl, rfl⟩⟩, (Below.refl _ _).alloc (Nat.le_refl _) _⟩
  case round =>
    obtain ⟨k, cr, out, hk, rfl, rfl, hc0, hc1, hol, hev, hown, hb1⟩ := hrel
    have HE := Lib.hid hev
    have HOL := Lib.hid hol
    have holk : out.length ≤ a.length := by omega
    clear hev hol
    by_cases h1 : k < a.length
    · obtain ⟨p, rfl, _, hpb, hca⟩ := HA.out k _ (intsV_at a k h1)
      have hca' : wr.cell? (p.add k) = some (.int .i64 a[k]) := (hb1.cell (by rw [block_add]; omega)).trans hca
      have hda := OA.out.at_ k h1
      clear hca
      have HS := Lib.hid (subL_drop a b k cr h1)
      by_cases h2 : k < b.length
      · obtain ⟨r, rfl, _, hrb, hcb⟩ := HB.out k _ (intsV_at b k h2)
        have hcb' : wr.cell? (r.add k) = some (.int .i64 b[k]) := (hb1.cell (by rw [block_add]; omega)).trans hcb
        have hdb := OB.out.at_ k h2
        clear hcb
        have HG := Lib.hid (getD_in b k h2)
        by_cases h3 : a[k] - cr - b[k] < 0
        · have HS2 : Hid (subL (a.drop k) (b.drop k) cr = (a[k] - cr - b[k] + 1000000000) :: subL (a.drop (k + 1)) (b.drop (k + 1)) 1) := Lib.hid (by rw [HS.out, HG.out, if_pos h3])
          go_wp2_with (at_builtin; refine wpList_append_own _ rfl (.tmp 35) (.tmp 37) 23 rfl w.heap.size 3 i0 (.int .i64 0) 1 8 Tryz.underlying23 hi hz0 hz1 hz2 rfl (by decide) _ _ _ rfl (own_alloc hown _) ⟨wr.heap.size, 0, none⟩ 1 1 [.int .i64 (a[k] - cr - b[k] + 1000000000)] rfl rfl (one_new _ _ _) ?c2 ?c3 ?c4 ?c5 ?_)
          case c2 => first | (intro u hu; simp at hu; subst hu; rfl) | rfl
          case c3 => unfold maxLen; omega
          case c4 => omega
          case c5 => have := hb1.size; simp; omega
          intro v1 w1 hown1 hg1 _
          have hb2 := below_push hb1 (Nat.le_refl _) hown hg1
          go_wp2
          exact ⟨sub_step (by omega) (by omega) (by omega) HOL.out (by rw [← HS2.out]; exact HE.out) hown1 hb2, by simp [intOf]; omega⟩
        · have HS2 : Hid (subL (a.drop k) (b.drop k) cr = (a[k] - cr - b[k]) :: subL (a.drop (k + 1)) (b.drop (k + 1)) 0) := Lib.hid (by rw [HS.out, HG.out, if_neg h3])
          go_wp2_with (at_builtin; refine wpList_append_own _ rfl (.tmp 35) (.tmp 37) 23 rfl w.heap.size 3 i0 (.int .i64 0) 1 8 Tryz.underlying23 hi hz0 hz1 hz2 rfl (by decide) _ _ _ rfl (own_alloc hown _) ⟨wr.heap.size, 0, none⟩ 1 1 [.int .i64 (a[k] - cr - b[k])] rfl rfl (one_new _ _ _) ?c2 ?c3 ?c4 ?c5 ?_)
          case c2 => first | (intro u hu; simp at hu; subst hu; rfl) | rfl
          case c3 => unfold maxLen; omega
          case c4 => omega
          case c5 => have := hb1.size; simp; omega
          intro v1 w1 hown1 hg1 _
          have hb2 := below_push hb1 (Nat.le_refl _) hown hg1
          go_wp2
          exact ⟨sub_step (by omega) (by omega) (by omega) HOL.out (by rw [← HS2.out]; exact HE.out) hown1 hb2, by simp [intOf]; omega⟩
      · have HG := Lib.hid (getD_out b k h2)
        by_cases h3 : a[k] - cr < 0
        · have HS2 : Hid (subL (a.drop k) (b.drop k) cr = (a[k] - cr + 1000000000) :: subL (a.drop (k + 1)) (b.drop (k + 1)) 1) := Lib.hid (by rw [HS.out, HG.out, if_pos (by omega), show a[k] - cr - 0 = a[k] - cr from by omega])
          go_wp2_with (at_builtin; refine wpList_append_own _ rfl (.tmp 35) (.tmp 37) 23 rfl w.heap.size 3 i0 (.int .i64 0) 1 8 Tryz.underlying23 hi hz0 hz1 hz2 rfl (by decide) _ _ _ rfl (own_alloc hown _) ⟨wr.heap.size, 0, none⟩ 1 1 [.int .i64 (a[k] - cr + 1000000000)] rfl rfl (one_new _ _ _) ?c2 ?c3 ?c4 ?c5 ?_)
          case c2 => first | (intro u hu; simp at hu; subst hu; rfl) | rfl
          case c3 => unfold maxLen; omega
          case c4 => omega
          case c5 => have := hb1.size; simp; omega
          intro v1 w1 hown1 hg1 _
          have hb2 := below_push hb1 (Nat.le_refl _) hown hg1
          go_wp2
          exact ⟨sub_step (by omega) (by omega) (by omega) HOL.out (by rw [← HS2.out]; exact HE.out) hown1 hb2, by simp [intOf]; omega⟩
        · have HS2 : Hid (subL (a.drop k) (b.drop k) cr = (a[k] - cr) :: subL (a.drop (k + 1)) (b.drop (k + 1)) 0) := Lib.hid (by rw [HS.out, HG.out, if_neg (by omega), show a[k] - cr - 0 = a[k] - cr from by omega])
          go_wp2_with (at_builtin; refine wpList_append_own _ rfl (.tmp 35) (.tmp 37) 23 rfl w.heap.size 3 i0 (.int .i64 0) 1 8 Tryz.underlying23 hi hz0 hz1 hz2 rfl (by decide) _ _ _ rfl (own_alloc hown _) ⟨wr.heap.size, 0, none⟩ 1 1 [.int .i64 (a[k] - cr)] rfl rfl (one_new _ _ _) ?c2 ?c3 ?c4 ?c5 ?_)
          case c2 => first | (intro u hu; simp at hu; subst hu; rfl) | rfl
          case c3 => unfold maxLen; omega
          case c4 => omega
          case c5 => have := hb1.size; simp; omega
          intro v1 w1 hown1 hg1 _
          have hb2 := below_push hb1 (Nat.le_refl _) hown hg1
          go_wp2
          exact ⟨sub_step (by omega) (by omega) (by omega) HOL.out (by rw [← HS2.out]; exact HE.out) hown1 hb2, by simp [intOf]; omega⟩
    · have HF : Hid (out = subL a b 0) := Lib.hid (by have e1 := HE.out; rwa [List.drop_of_length_le (l := a) (by omega), subL, List.append_nil] at e1)
      have hown2 : wr.ownsRow w.heap.size 3 1 u5 (subL a b 0).length (intsV (subL a b 0)) := by rw [← HF.out]; exact hown
      go_wp2_with fail
      refine (specTrim_any _ _ _ _ (by rw [HSL.out]; exact hal) hown2).mono ?_
      rintro e w' ⟨rfl, v2, rfl, o2⟩
      go_wp2
      go_ret
      exact ⟨v2, rfl, o2, hb1⟩

theorem capL_trim_sub (a b : List Int) (h : (subL a b 0).length ≤ 50) : capL (trimL (subL a b 0)) = trimL (subL a b 0) := by
  have := trimL_length (subL a b 0)
  unfold capL
  rw [if_neg (by omega)]
theorem natRes_neg (n : Int) (h : n < 0) : natRes n = [] := by
  unfold natRes
  rw [show n.toNat = 0 from by omega, limbs, dif_pos rfl]
  rfl
theorem len_of_le (a b : List Int) (ha : DigN a) (hb : DigN b ∧ b.getLastD 1 ≠ 0) (h : nval b ≤ nval a) : b.length ≤ a.length := by
  rcases Nat.lt_or_ge a.length b.length with hl | hl
  · have := nval_short a b ha hb.1 hl hb.2
    omega
  · exact hl
end Go.Proofs.YtcenmdiblbooeaaGreatDoor

namespace Go.Proofs.YtcenmdiblbooeaaGreatDoor
open Go.RowKit

/-- one row of the school method: x times b added into R -/
def rowL (x : Int) : List Int → List Int → Int → List Int
  | [], _ :: R, c => c :: R
  | [], [], _ => []
  | y :: b, r :: R, c => (r + x * y + c) % 1000000000 :: rowL x b R ((r + x * y + c) / 1000000000)
  | _ :: _, [], _ => []
/-- all rows -/
def mulL : List Int → List Int → List Int → List Int
  | [], _, R => R
  | x :: a, b, R => (rowL x b R 0).headD 0 :: mulL a b (rowL x b R 0).tail
theorem mul_bound (x y : Int) (hx0 : 0 ≤ x) (hx1 : x ≤ 999999999) (hy0 : 0 ≤ y) (hy1 : y ≤ 999999999) : 0 ≤ x * y ∧ x * y ≤ 999999998000000001 := by
  refine ⟨Int.mul_nonneg hx0 hy0, ?_⟩
  have h : x * y ≤ 999999999 * 999999999 := Int.mul_le_mul hx1 hy1 hy0 (by omega)
  omega
theorem rowL_val (x : Int) (hx0 : 0 ≤ x) (hx1 : x ≤ 999999999) : ∀ (b R : List Int) (c : Int), DigN b → DigN R → b.length < R.length → (∀ d ∈ R.drop b.length, d = 0) → 0 ≤ c → c ≤ 999999999 →
    nval (rowL x b R c) = nval R + x * nval b + c ∧ DigN (rowL x b R c) ∧ (rowL x b R c).length = R.length ∧ ∀ d ∈ (rowL x b R c).drop (b.length + 1), d = 0 := by
  intro b
  induction b with
  | nil =>
    intro R c _ hR hl hz h0 h1
    cases R with
    | nil => simp at hl
    | cons r R =>
      have hr : r = 0 := hz r (by simp)
      subst hr
      refine ⟨?_, DigN.cons h0 h1 hR.tail, rfl, fun d hd => hz d (by simp at hd ⊢; exact .inr hd)⟩
      show c + 1000000000 * nval R = (0 + 1000000000 * nval R) + x * 0 + c
      omega
  | cons y b ih =>
    intro R c hb hR hl hz h0 h1
    cases R with
    | nil => simp at hl
    | cons r R =>
      have hm := mul_bound x y hx0 hx1 hb.head.1 hb.head.2
      have hr := hR.head
      have hy := hb.head
      obtain ⟨i1, i2, i3, i4⟩ := ih R ((r + x * y + c) / 1000000000) hb.tail hR.tail (by simpa using hl) (fun d hd => hz d (by simpa using hd)) (by omega) (by omega)
      refine ⟨?_, DigN.cons (by omega) (by omega) i2, by simp [rowL, i3], fun d hd => i4 d (by simpa [rowL] using hd)⟩
      show (r + x * y + c) % 1000000000 + 1000000000 * nval (rowL x b R ((r + x * y + c) / 1000000000)) = (r + 1000000000 * nval R) + x * (y + 1000000000 * nval b) + c
      have hd : x * (y + 1000000000 * nval b) = x * y + 1000000000 * (x * nval b) := by rw [Int.mul_add, Int.mul_left_comm]
      rw [hd, i1]
      omega
theorem mulL_val (b : List Int) (hb : DigN b) : ∀ (a R : List Int), DigN a → DigN R → R.length = a.length + b.length → (∀ d ∈ R.drop b.length, d = 0) →
    nval (mulL a b R) = nval R + nval a * nval b ∧ DigN (mulL a b R) ∧ (mulL a b R).length = R.length := by
  intro a
  induction a with
  | nil =>
    intro R _ hR _ _
    refine ⟨?_, hR, rfl⟩
    show nval R = nval R + 0 * nval b
    omega
  | cons x a ih =>
    intro R ha hR hl hz
    obtain ⟨i1, i2, i3, i4⟩ := rowL_val x ha.head.1 ha.head.2 b R 0 hb hR (by simp at hl; omega) hz (by omega) (by omega)
    unfold mulL
    cases hrow : rowL x b R 0 with
    | nil => rw [hrow] at i3; simp at hl i3; omega
    | cons h T =>
      rw [hrow] at i1 i2 i3 i4
      obtain ⟨j1, j2, j3⟩ := ih T ha.tail i2.tail (by simp at i3 hl; omega) (fun d hd => i4 d (by simpa using hd))
      refine ⟨?_, DigN.cons i2.head.1 i2.head.2 j2, by simp [j3]; simpa using i3⟩
      show h + 1000000000 * nval (mulL a b T) = nval R + (x + 1000000000 * nval a) * nval b
      have hd : (x + 1000000000 * nval a) * nval b = x * nval b + 1000000000 * (nval a * nval b) := by rw [Int.add_mul, Int.mul_assoc]
      have i1' : h + 1000000000 * nval T = nval R + x * nval b + 0 := i1
      rw [hd, j1]
      omega

theorem rowL_drop (x : Int) (b O : List Int) (j m : Nat) (c : Int) (hj : j < b.length) (hm : m < O.length) : rowL x (b.drop j) (O.drop m) c = (O[m] + x * b[j] + c) % 1000000000 :: rowL x (b.drop (j + 1)) (O.drop (m + 1)) ((O[m] + x * b[j] + c) / 1000000000) := by
  rw [List.drop_eq_getElem_cons hj, List.drop_eq_getElem_cons hm, rowL]
theorem set_split (O : List Int) (m : Nat) (u : Int) (h : m < O.length) : (O.set m u).take (m + 1) = O.take m ++ [u] ∧ (O.set m u).drop (m + 1) = O.drop (m + 1) ∧ O.set m u = O.take m ++ u :: O.drop (m + 1) := by
  refine ⟨?_, ?_, List.set_eq_take_append_cons_drop .. |>.trans (by rw [if_pos h])⟩
  · rw [List.take_succ_eq_append_getElem (by simpa using h), List.take_set_of_le (Nat.le_refl _), List.getElem_set_self]
  · rw [List.drop_set_of_lt (by omega)]
theorem intsV_set (O : List Int) (m : Nat) (u : Int) : (intsV O).set m (.int .i64 u) = intsV (O.set m u) := by simp [intsV, List.map_set]
theorem DigN.setM {O : List Int} (h : DigN O) (m : Nat) (u : Int) (h0 : 0 ≤ u) (h1 : u ≤ 999999999) : DigN (O.set m u) := by
  intro d hd
  rcases List.mem_or_eq_of_mem_set hd with hd | rfl
  · exact h d hd
  · exact ⟨h0, h1⟩

theorem make_sum (m n : Nat) (hm : m ≤ 1048576) (hn : n ≤ 1048576) (W : World) :
    (Instr.makeSlice 23 (.int .i64 ((m : Int) + (n : Int))) (.int .i64 ((m : Int) + (n : Int)))).run Tryz.prog W = .ok (.slice (some ⟨W.heap.size, 0, none⟩) (m + n) (m + n)) (W.alloc (.cells (madeCells #[.int .i64 0] (m + n)) 3)) := by
  have h := make_ints (m + n) (by omega) W
  rwa [Int.natCast_add] at h

/-- what the outer loop of l02Mul knows: O is what has been written -/
def MulRel (a b : List Int) (w : World) (i : Value) (wr : World) : Prop :=
  ∃ (k : Nat) (O : List Int), k ≤ a.length ∧ i = .int .i64 k ∧ O.length = a.length + b.length ∧ DigN O ∧ O.take k ++ mulL (a.drop k) b (O.drop k) = mulL a b (List.replicate (a.length + b.length) 0) ∧
    wr.ownsRow w.heap.size 3 1 (.slice (some ⟨w.heap.size, 0, none⟩) (a.length + b.length) (a.length + b.length)) (a.length + b.length) (intsV O) ∧ Below w.heap.size w wr
theorem rowL_nil (x : Int) (O : List Int) (m : Nat) (c : Int) (h : m < O.length) : rowL x [] (O.drop m) c = c :: O.drop (m + 1) := by
  rw [List.drop_eq_getElem_cons h, rowL]
/-- what the inner loop knows: T is what the row comes to -/
def RowRel (b : List Int) (x : Int) (k n : Nat) (T : List Int) (w : World) (cr i : Value) (wr : World) : Prop :=
  ∃ (j : Nat) (c : Int) (O : List Int), j ≤ b.length ∧ i = .int .i64 j ∧ cr = .int .i64 c ∧ 0 ≤ c ∧ c ≤ 999999999 ∧ O.length = n ∧ DigN O ∧ O.take (k + j) ++ rowL x (b.drop j) (O.drop (k + j)) c = T ∧
    wr.ownsRow w.heap.size 3 1 (.slice (some ⟨w.heap.size, 0, none⟩) n n) n (intsV O) ∧ Below w.heap.size w wr
theorem mul_next (a b O T : List Int) (k : Nat) (hk : k < a.length) (hO : k < O.length) (hT : O.take k ++ rowL a[k] b (O.drop k) 0 = T) (hr : 0 < (rowL a[k] b (O.drop k) 0).length) :
    T.take (k + 1) ++ mulL (a.drop (k + 1)) b (T.drop (k + 1)) = O.take k ++ mulL (a.drop k) b (O.drop k) := by
  have hlt : (O.take k).length = k := by rw [List.length_take]; omega
  rw [List.drop_eq_getElem_cons hk, mulL]
  cases hrow : rowL a[k] b (O.drop k) 0 with
  | nil => rw [hrow] at hr; simp at hr
  | cons h R =>
    rw [hrow] at hT
    have e1 : (O.take k ++ h :: R).take (k + 1) = O.take k ++ [h] := by
      rw [List.take_append, hlt, show k + 1 - k = 1 from by omega, List.take_of_length_le (l := O.take k) (by omega)]
      rfl
    have e2 : (O.take k ++ h :: R).drop (k + 1) = R := by
      rw [List.drop_append, hlt, show k + 1 - k = 1 from by omega, List.drop_of_length_le (l := O.take k) (by omega)]
      rfl
    rw [← hT, e1, e2, List.append_assoc]
    rfl

set_option maxHeartbeats 4000000 in
set_option maxRecDepth 100000 in
theorem specMul_any (va vb : Value) (a b : List Int) (la ha lb hb : Nat) (w : World) (hal : a.length ≤ 50) (hbl : b.length ≤ 50) (ha0 : 0 < a.length) (hb0 : 0 < b.length) (hha : ha ≤ w.heap.size) (hhb : hb ≤ w.heap.size) (oa : DigN a) (ob : DigN b)
    (hra : Row w la ha va (intsV a)) (hrb : Row w lb hb vb (intsV b)) :
    Calls Tryz.prog 169 #[va, vb] w (NewInts (trimL (mulL a b (List.replicate (a.length + b.length) 0))) w) := by
  obtain ⟨A, c, rfl, hA⟩ := hra
  obtain ⟨B, d, rfl, hB⟩ := hrb
  rw [intsV_length, intsV_length]
  have HA := Lib.hid hA
  have HB := Lib.hid hB
  have OA := Lib.hid oa
  have OB := Lib.hid ob
  have hmk := make_sum a.length b.length (by omega) (by omega)
  have hza : ((a.length : Int) == 0) = false := by rw [beq_eq_false_iff_ne]; omega
  have hzb : ((b.length : Int) == 0) = false := by rw [beq_eq_false_iff_ne]; omega
  clear hA hB oa ob
  go_enter Tryz.func169, Tryz.ntmps169
  go_wp2
  go_loopw [28] (fun i wr => MulRel a b w i wr) (fun i _ => a.length - (intOf i).toNat)
  case atStart =>
    refine ⟨0, List.replicate (a.length + b.length) 0, Nat.zero_le _, rfl, by simp, fun d hd => by rw [(List.mem_replicate.1 hd).2]; omega, by simp, ?_, (Below.refl _ _).alloc (Nat.le_refl _) _⟩
    have h := World.ownsRow_lit (e := 3) (size := 1) (base := w.heap.size) w (madeCells #[.int .i64 0] (a.length + b.length)) (a.length + b.length) (Nat.le_refl _) (by unfold maxLen; omega) (by rw [size_madeCells, Nat.mul_one])
    rw [toList_madeCells_one] at h
    simpa [intsV] using h
  case round =>
    obtain ⟨k, O, hk, rfl, hOl, hOd, hev, hown, hb1⟩ := hrel
    obtain ⟨wo, rfl⟩ : ∃ wo : World, wo = wr := ⟨_, rfl⟩
    have HE := Lib.hid hev
    have HOL := Lib.hid hOl
    have HOD := Lib.hid hOd
    clear hev hOl hOd
    by_cases h1 : k < a.length
    · obtain ⟨p, rfl, _, hpb, hca⟩ := HA.out k _ (intsV_at a k h1)
      have hca' : wo.cell? (p.add k) = some (.int .i64 a[k]) := (hb1.cell (by rw [block_add]; omega)).trans hca
      have hda := OA.out.at_ k h1
      clear hca
      have hOk : k < O.length := by have := HOL.out; omega
      obtain ⟨T, HT⟩ : ∃ T, Hid (O.take k ++ rowL a[k] b (O.drop k) 0 = T) := ⟨_, Lib.hid rfl⟩
      go_wp2
      go_loopw [8, 35] (fun cr i wi => RowRel b a[k] k (a.length + b.length) T w cr i wi) (fun _ i _ => b.length - (intOf i).toNat)
      case atStart => exact ⟨0, 0, O, Nat.zero_le _, rfl, rfl, by omega, by omega, HOL.out, HOD.out, HT.out, hown, hb1⟩
      case round =>
        obtain ⟨j, cr, O1, hj, rfl, rfl, hc0, hc1, hl1, hd1, he1, hown1, hb2⟩ := hrel
        have HL1 := Lib.hid hl1
        have HD1 := Lib.hid hd1
        have HE1 := Lib.hid he1
        clear hl1 hd1 he1 hown
        have hlen1 : O1.length ≤ a.length + b.length := by have := HL1.out; omega
        by_cases h2 : j < b.length
        · obtain ⟨r, rfl, _, hrb, hcb⟩ := HB.out j _ (intsV_at b j h2)
          have hcb' : wr.cell? (r.add j) = some (.int .i64 b[j]) := (hb2.cell (by rw [block_add]; omega)).trans hcb
          have hdb := OB.out.at_ j h2
          clear hcb
          have hm : k + j < O1.length := by have := HL1.out; omega
          have hdo := HD1.out.at_ (k + j) hm
          have hmul := mul_bound a[k] b[j] hda.1 hda.2 hdb.1 hdb.2
          have hcell := hown1.cellAt (k + j) (by omega)
          rw [intsV_at O1 (k + j) hm] at hcell
          have hfr := hown1.frozenAt (k + j)
          obtain ⟨ho2, hg2⟩ := hown1.stored (k + j) (.int .i64 ((O1[k + j] + a[k] * b[j] + cr) % 1000000000))
          rw [intsV_set] at ho2
          have hb3 := hb2.grown hg2 hb2.size (fun g hg => by cases hg; exact Nat.le_refl _)
          have HS := Lib.hid (rowL_drop a[k] b O1 j (k + j) cr h2 hm)
          have HSS := Lib.hid (set_split O1 (k + j) ((O1[k + j] + a[k] * b[j] + cr) % 1000000000) hm)
          clear hown1 hg2
          go_wp2
          refine ⟨⟨j + 1, (O1[k + j] + a[k] * b[j] + cr) / 1000000000, _, by omega, by go_num, rfl, by omega, by omega, by rw [List.length_set]; exact HL1.out, HD1.out.setM (k + j) _ (by omega) (by omega), ?_, ho2, hb3⟩, by simp [intOf]; omega⟩
          rw [show k + (j + 1) = k + j + 1 from by omega, HSS.out.1, HSS.out.2.1, List.append_assoc]
          have e1 := HE1.out
          rw [HS.out] at e1
          exact e1
        · obtain rfl : j = b.length := by omega
          have hm : k + b.length < O1.length := by have := HL1.out; omega
          have hcell := hown1.cellAt (k + b.length) (by omega)
          rw [intsV_at O1 (k + b.length) hm] at hcell
          have hfr := hown1.frozenAt (k + b.length)
          obtain ⟨ho2, hg2⟩ := hown1.stored (k + b.length) (.int .i64 cr)
          rw [intsV_set] at ho2
          have hb3 := hb2.grown hg2 hb2.size (fun g hg => by cases hg; exact Nat.le_refl _)
          have HTT : Hid (O1.set (k + b.length) cr = T) := Lib.hid (by
            have e1 := HE1.out
            rw [List.drop_of_length_le (l := b) (Nat.le_refl _), rowL_nil _ _ _ _ hm] at e1
            rw [(set_split O1 (k + b.length) cr hm).2.2]
            exact e1)
          have HDT := Lib.hid (HD1.out.setM (k + b.length) cr hc0 hc1)
          have HLT : Hid ((O1.set (k + b.length) cr).length = a.length + b.length) := Lib.hid (by rw [List.length_set]; exact HL1.out)
          have HNX : Hid (T.take (k + 1) ++ mulL (a.drop (k + 1)) b (T.drop (k + 1)) = O.take k ++ mulL (a.drop k) b (O.drop k)) := Lib.hid (mul_next a b O T k h1 hOk HT.out (by
            have e1 := congrArg List.length HT.out
            have e2 := HLT.out
            rw [HTT.out] at e2
            have e3 : (O.take k).length = k := by rw [List.length_take]; omega
            rw [List.length_append, e3, e2] at e1
            omega))
          clear hown1 hg2
          go_wp2
          refine ⟨⟨k + 1, _, by omega, by go_num, HLT.out, HDT.out, ?_, ho2, hb3⟩, by simp [intOf]; omega⟩
          rw [HTT.out, HNX.out]
          exact HE.out
    · obtain rfl : k = a.length := by omega
      have HF : Hid (O = mulL a b (List.replicate (a.length + b.length) 0)) := Lib.hid (by
        have e1 := HE.out
        rwa [List.drop_of_length_le (l := a) (Nat.le_refl _), mulL, List.take_append_drop] at e1)
      have hown2 : wo.ownsRow w.heap.size 3 1 (.slice (some ⟨w.heap.size, 0, none⟩) (a.length + b.length) (a.length + b.length)) O.length (intsV O) := by rw [HOL.out]; exact hown
      have hOl : O.length ≤ 1048576 := by have := HOL.out; omega
      go_wp2_with fail
      refine (specTrim_any _ O _ _ hOl hown2).mono ?_
      rintro e w' ⟨rfl, v2, rfl, o2⟩
      go_wp2
      go_ret
      exact ⟨v2, rfl, by rw [← HF.out]; exact o2, hb1⟩

theorem limbs_zero : limbs 0 = [] := by rw [limbs, dif_pos rfl]
theorem mul_val' (a b : List Int) (ha : DigN a) (hb : DigN b) : nval (mulL a b (List.replicate (a.length + b.length) 0)) = nval a * nval b ∧ DigN (mulL a b (List.replicate (a.length + b.length) 0)) ∧ (mulL a b (List.replicate (a.length + b.length) 0)).length = a.length + b.length := by
  have hz : ∀ n, nval (List.replicate n 0) = 0 := by
    intro n
    induction n with
    | zero => rfl
    | succ n ih => rw [List.replicate_succ]; show (0 : Int) + 1000000000 * nval (List.replicate n 0) = 0; omega
  have h := mulL_val b hb a (List.replicate (a.length + b.length) 0) ha (fun d hd => by rw [(List.mem_replicate.1 hd).2]; omega) (by simp) (fun d hd => (List.mem_replicate.1 (List.mem_of_mem_drop hd)).2)
  rw [hz, List.length_replicate] at h
  exact ⟨by rw [h.1]; omega, h.2⟩
theorem trim_trim (xs : List Int) (h : DigN xs) : trimL (trimL xs) = trimL xs ∧ DigN (trimL xs) := by
  induction xs with
  | nil => exact ⟨rfl, h⟩
  | cons d r ih =>
    obtain ⟨i1, i2⟩ := ih h.tail
    by_cases hc : trimL r = [] ∧ d = 0
    · have e : trimL (d :: r) = [] := by show (if _ then _ else _) = _; rw [if_pos hc]
      rw [e]
      exact ⟨rfl, fun x hx => by cases hx⟩
    · have e : trimL (d :: r) = d :: trimL r := by show (if _ then _ else _) = _; rw [if_neg hc]
      rw [e]
      refine ⟨?_, DigN.cons h.head.1 h.head.2 i2⟩
      show (if _ then _ else _) = _
      rw [i1, if_neg hc]

set_option maxHeartbeats 400000 in
set_option maxRecDepth 100000 in
theorem specMul_nil (va vb : Value) (a b : List Int) (la ha lb hb : Nat) (w : World) (hal : a.length ≤ 50) (hbl : b.length ≤ 50) (h0 : a.length = 0 ∨ b.length = 0)
    (hra : Row w la ha va (intsV a)) (hrb : Row w lb hb vb (intsV b)) : Calls Tryz.prog 169 #[va, vb] w (NewInts [] w) := by
  obtain ⟨A, c, rfl, _⟩ := hra
  obtain ⟨B, d, rfl, _⟩ := hrb
  rw [intsV_length, intsV_length]
  by_cases hz : a.length = 0
  · have hza : ((a.length : Int) == 0) = true := by rw [beq_iff_eq]; omega
    clear h0 hz
    go_enter Tryz.func169, Tryz.ntmps169
    go_wp2
    go_ret
    exact new_nil (Below.refl _ _)
  · have hza : ((a.length : Int) == 0) = false := by rw [beq_eq_false_iff_ne]; omega
    have hzb : ((b.length : Int) == 0) = true := by rw [beq_iff_eq]; omega
    clear h0 hz
    go_enter Tryz.func169, Tryz.ntmps169
    go_wp2
    go_ret
    exact new_nil (Below.refl _ _)

end Go.Proofs.YtcenmdiblbooeaaGreatDoor

namespace Go.Proofs.YtcenmdiblbooeaaGreatDoor
open Go.RowKit

theorem limbs_pos (n : Nat) (h : n ≠ 0) : limbs n = ((n % 1000000000 : Nat) : Int) :: limbs (n / 1000000000) := by rw [limbs, dif_neg h]
theorem limbs_none : limbs 0 = [] := by rw [limbs, dif_pos rfl]
theorem Row.lit (w : World) (cs : Array Value) (t : TypeId) : Row (w.alloc (.cells cs t)) w.heap.size (w.heap.size + 1) (.slice (some ⟨w.heap.size, 0, none⟩) cs.size cs.size) cs.toList := by
  refine ⟨_, _, rfl, fun j u hu => ⟨_, rfl, Nat.le_refl _, Nat.lt_succ_self _, ?_⟩⟩
  have e1 : (Addr.add ⟨w.heap.size, 0, none⟩ j) = ⟨w.heap.size, j, none⟩ := by
    unfold Addr.add
    split
    · simp_all
    · simp
  rw [e1, World.cell?_alloc_at _ _ _ _ rfl]
  simpa using hu

set_option maxHeartbeats 400000 in
set_option maxRecDepth 100000 in
theorem specNatOf_any (n : Int) (w : World) (h1 : n ≤ 9223372036854775807) :
    Calls Tryz.prog 98 #[.int .i64 n] w (NewInts (limbs n.toNat) w) := by
  obtain ⟨i0, hi, hz0, hz1, hz2⟩ := info_parts intInfo
  go_enter Tryz.func98, Tryz.ntmps98
  go_wp2
  go_loopw [0, 3] (fun a v wr => ∃ (m : Int) (out : List Int) (f : Nat), m ≤ 9223372036854775807 ∧ out.length + f ≤ 3 ∧ m < 1000000000 ^ f ∧ a = .int .i64 m ∧ Hid (out ++ limbs m.toNat = limbs n.toNat) ∧ wr.ownsRow w.heap.size 3 1 v out.length (intsV out) ∧ Below w.heap.size w wr) (fun a _ _ => (intOf a).toNat)
  case atStart => exact ⟨n, [], 3, h1, by simp, by omega, rfl, Lib.hid rfl, ⟨rfl, .inr ⟨w.heap.size, 0, #[], rfl, Nat.le_refl _, heap_alloc_new w _, Nat.le_refl _, Nat.zero_le _, rfl, rfl⟩⟩, (Below.refl _ _).alloc (Nat.le_refl _) _⟩
  case round =>
    obtain ⟨m, out, f, hm, hol, hmf, rfl, HE, hown, hb1⟩ := hrel
    by_cases h0 : 0 < m
    · obtain ⟨g, rfl⟩ : ∃ g, f = g + 1 := by
        cases f with
        | zero => simp at hmf; omega
        | succ g => exact ⟨g, rfl⟩
      have hmg : m / 1000000000 < 1000000000 ^ g := by
        rw [Int.pow_succ] at hmf
        exact Int.ediv_lt_of_lt_mul (by omega) hmf
      have HS : Hid (out ++ [m % 1000000000] ++ limbs (m / 1000000000).toNat = limbs n.toNat) := Lib.hid (by
        have e := HE.out
        rw [limbs_pos m.toNat (by omega)] at e
        rw [List.append_assoc, ← e, show ((m.toNat % 1000000000 : Nat) : Int) = m % 1000000000 from by omega, show m.toNat / 1000000000 = (m / 1000000000).toNat from by omega]
        rfl)
      clear hmf
      go_wp2_with (at_builtin; refine wpList_append_own _ rfl (.tmp 7) (.tmp 10) 23 rfl w.heap.size 3 i0 (.int .i64 0) 1 8 Tryz.underlying23 hi hz0 hz1 hz2 rfl (by decide) _ _ _ rfl (own_alloc hown _) ⟨wr.heap.size, 0, none⟩ 1 1 [.int .i64 (m % 1000000000)] rfl rfl (one_new _ _ _) ?c2 ?c3 ?c4 ?c5 ?_)
      case c2 => first | (intro u hu; simp at hu; subst hu; rfl) | rfl
      case c3 => unfold maxLen; omega
      case c4 => omega
      case c5 => have := hb1.size; simp; omega
      intro v1 w1 hown1 hg1 _
      have hb2 := below_push hb1 (Nat.le_refl _) hown hg1
      go_wp2
      exact ⟨⟨m / 1000000000, out ++ [m % 1000000000], g, by omega, by simp; omega, hmg, rfl, HS, by simpa [intsV] using hown1, hb2⟩, by simp [intOf]; omega⟩
    · have HF : Hid (out = limbs n.toNat) := Lib.hid (by have e := HE.out; rwa [show m.toNat = 0 from by omega, limbs_none, List.append_nil] at e)
      go_wp2
      go_ret
      exact ⟨_, rfl, by rw [← HF.out]; exact hown, hb1⟩

/-- what NatInt answers -/
def natIntN (a : List Int) : Int × Bool := if natOkB a = true ∧ nval a ≤ 9223372036854775807 then (nval a, true) else (0, false)
def TwoPost (r : Int × Bool) (w : World) (e : Ending) (w' : World) : Prop := e = .returned (.tuple #[.int .i64 r.1, .bool r.2]) ∧ Below w.heap.size w w'
theorem nval_drop_le (a : List Int) (ha : DigN a) (k : Nat) : nval (a.drop k) ≤ nval a := by
  induction k with
  | zero => simp
  | succ k ih =>
    by_cases h : k < a.length
    · have h1 := nval_drop a k h
      have h2 := ha.at_ k h
      have h3 := nval_nonneg (a.drop (k + 1)) (ha.drop _)
      omega
    · rw [List.drop_of_length_le (by omega)]
      exact nval_nonneg a ha
theorem max_nat : nval [854775807, 223372036, 9] = 9223372036854775807 := by simp [nval]
theorem max_dig : DigN [854775807, 223372036, 9] ∧ [854775807, 223372036, (9 : Int)].getLastD 1 ≠ 0 := by
  refine ⟨fun d hd => ?_, by decide⟩
  simp at hd
  omega

end Go.Proofs.YtcenmdiblbooeaaGreatDoor

namespace Go.Proofs.YtcenmdiblbooeaaGreatDoor
open Go.RowKit

/-- a new row and a number -/
def RowNum (xs : List Int) (r : Int) (w : World) (e : Ending) (w' : World) : Prop :=
  ∃ v, e = .returned (.tuple #[v, .int .i64 r]) ∧ w'.ownsRow w.heap.size 3 1 v xs.length (intsV xs) ∧ Below w.heap.size w w'

set_option maxHeartbeats 1000000 in
set_option maxRecDepth 100000 in
theorem specSmall_any (va : Value) (a : List Int) (d : Int) (lo hi : Nat) (w : World) (hal : a.length ≤ 1048576) (hhi : hi ≤ w.heap.size) (hd0 : 0 < d) (hd1 : d ≤ 999999999) (oa : DigN a) (hra : Row w lo hi va (intsV a)) :
    Calls Tryz.prog 192 #[va, .int .i64 d] w (RowNum (limbs (nval a / d).toNat) (nval a % d) w) := by
  obtain ⟨A, c, rfl, hA⟩ := hra
  have HA := Lib.hid hA
  have OA := Lib.hid oa
  have hmk := make_ints a.length (by omega)
  rw [intsV_length]
  clear hA oa
  go_enter Tryz.func192, Tryz.ntmps192
  go_wp2
  go_loopw [7, 8] (fun r i wr => ∃ (k : Nat) (R : Int) (qs : List Int), k ≤ a.length ∧ i = .int .i64 ((k : Int) - 1) ∧ r = .int .i64 R ∧ Hid (DivR a d k R qs) ∧ wr.ownsRow w.heap.size 3 1 (.slice (some ⟨w.heap.size, 0, none⟩) a.length a.length) a.length (intsV (List.replicate k 0 ++ qs)) ∧ Below w.heap.size w wr) (fun _ i _ => (intOf i + 1).toNat)
  case atStart =>
    refine ⟨a.length, 0, [], Nat.le_refl _, rfl, rfl, Lib.hid (DivR.start a d), ?_, (Below.refl _ _).alloc (Nat.le_refl _) _⟩
    have h := World.ownsRow_lit (e := 3) (size := 1) (base := w.heap.size) w (madeCells #[.int .i64 0] a.length) a.length (Nat.le_refl _) (by unfold maxLen; omega) (by rw [size_madeCells, Nat.mul_one])
    rw [toList_madeCells_one] at h
    simpa [intsV] using h
  case round =>
    obtain ⟨k, R, qs, hk, rfl, rfl, HR, ho, hb⟩ := hrel
    have hR := HR.out.bound hd0
    have hR0 := hR.1
    have hR1 := hR.2
    clear hR
    by_cases hz : 0 < k
    · obtain ⟨j, rfl⟩ : ∃ j, k = j + 1 := ⟨k - 1, by omega⟩
      have hlt : j < a.length := by omega
      obtain ⟨p, rfl, _, hpb, hca⟩ := HA.out j _ (intsV_at a j hlt)
      have hca' : wr.cell? (p.add j) = some (.int .i64 a[j]) := (hb.cell (by rw [block_add]; omega)).trans hca
      have hda := OA.out.at_ j hlt
      have hda0 := hda.1
      have hda1 := hda.2
      have HN := Lib.hid (HR.out.next hd0 OA.out hlt)
      have hlen : (List.replicate (j + 1) (0 : Int) ++ qs).length = a.length := by have := HR.out.2.2.2; simp; omega
      obtain ⟨cu, hcell⟩ : ∃ u, wr.cell? ⟨w.heap.size, j, none⟩ = some u := ⟨_, (ho.cellAt j (by omega)).trans (List.getElem?_eq_getElem (by rw [intsV_length, hlen]; exact hlt))⟩
      have hfr := ho.frozenAt j
      obtain ⟨ho2, hg2⟩ := ho.stored j (.int .i64 ((R * 1000000000 + a[j]) / d))
      rw [intsV_set, zeros_set] at ho2
      have hb2 := hb.grown hg2 hb.size (fun g hg => by cases hg; exact Nat.le_refl _)
      have hm1 : ((j + 1 : Nat) : Int) - 1 = (j : Int) := by omega
      rw [hm1]
      have hdne : ¬ d = 0 := by omega
      clear hm1 hz hca ho hg2 hlen hda
      go_wp2
      go_roundw
      case rel => exact ⟨j, _, _, by omega, rfl, rfl, HN, ho2, hb2⟩
      case measure => simp [intOf]
    · obtain rfl : k = 0 := by omega
      rw [List.replicate_zero, List.nil_append] at ho
      have hql : qs.length = a.length := by have := HR.out.2.2.2; omega
      rw [← hql] at ho
      have HF := Lib.hid HR.out.done
      rw [hql] at ho
      have HO : Hid (wr.ownsRow w.heap.size 3 1 (.slice (some ⟨w.heap.size, 0, none⟩) a.length a.length) qs.length (intsV qs)) := Lib.hid (by rw [hql]; exact ho)
      clear hql ho
      go_wp2_with fail
      refine (specTrim_any _ qs w.heap.size _ (by have := HR.out.2.2.2; omega) HO.out).mono ?_
      rintro e w2 ⟨rfl, v2, rfl, ho2⟩
      rw [HF.out.1] at ho2
      go_wp2
      go_ret2
      exact ⟨v2, by rw [HF.out.2]; rfl, ho2, hb⟩

theorem specMulV_any (va vb : Value) (a b : List Int) (la ha lb hb : Nat) (w : World) (hal : a.length ≤ 50) (hbl : b.length ≤ 50) (hha : ha ≤ w.heap.size) (hhb : hb ≤ w.heap.size) (oa : DigN a) (ob : DigN b)
    (hra : Row w la ha va (intsV a)) (hrb : Row w lb hb vb (intsV b)) : Calls Tryz.prog 169 #[va, vb] w (NewInts (limbs (nval a * nval b).toNat) w) := by
  by_cases h0 : a.length = 0 ∨ b.length = 0
  · have e : nval a * nval b = 0 := by
      rcases h0 with h | h
      · rw [List.eq_nil_of_length_eq_zero h]; exact Int.zero_mul _
      · rw [List.eq_nil_of_length_eq_zero h]; exact Int.mul_zero _
    rw [e, show limbs (0 : Int).toNat = [] from limbs_none]
    exact specMul_nil va vb a b la ha lb hb w hal hbl h0 hra hrb
  · have h := mul_val' a b oa ob
    have e := trim_limbs _ h.2.1
    rw [h.1] at e
    rw [← e]
    exact specMul_any va vb a b la ha lb hb w hal hbl (by omega) (by omega) hha hhb oa ob hra hrb
theorem specSubV_any (va vb : Value) (a b : List Int) (la ha lb hb : Nat) (w : World) (hal : a.length ≤ 1048576) (hbl : b.length ≤ a.length) (hha : ha ≤ w.heap.size) (hhb : hb ≤ w.heap.size) (oa : DigN a) (ob : DigN b) (hle : nval b ≤ nval a)
    (hra : Row w la ha va (intsV a)) (hrb : Row w lb hb vb (intsV b)) : Calls Tryz.prog 194 #[va, vb] w (NewInts (limbs (nval a - nval b).toNat) w) := by
  have h := subL_val a b 0 oa ob hbl (by omega) (by omega) (by omega)
  have e := trim_limbs _ h.2.1
  rw [h.1, Int.sub_zero] at e
  rw [← e]
  exact specSub_any va vb a b la ha lb hb w hal (by omega) hha hhb oa ob hra hrb h.2.2

set_option maxHeartbeats 1000000 in
set_option maxRecDepth 100000 in
theorem specDigit_any (vr vb : Value) (r b : List Int) (lr hr lb hb_ : Nat) (w : World) (hrl : r.length ≤ 1048576) (hbl : b.length ≤ 50) (hhr : hr ≤ w.heap.size) (hhb : hb_ ≤ w.heap.size) (or_ : DigN r ∧ r.getLastD 1 ≠ 0) (ob : DigN b ∧ b.getLastD 1 ≠ 0)
    (hb0 : 0 < nval b) (hlt : nval r < 1000000000 * nval b) (hrr : Row w lr hr vr (intsV r)) (hrb : Row w lb hb_ vb (intsV b)) :
    Calls Tryz.prog 193 #[vr, vb] w fun e w' => e = .returned (.int .i64 (nval r / nval b)) ∧ Below w.heap.size w w' := by
  have hb1 : 0 < b.length := by
    rcases Nat.eq_zero_or_pos b.length with h | h
    · rw [List.eq_nil_of_length_eq_zero h] at hb0; exact absurd hb0 (by decide)
    · exact h
  have HQ := Lib.hid (show 0 ≤ nval r / nval b ∧ nval r / nval b ≤ 999999999 from ⟨Int.ediv_nonneg (nval_nonneg r or_.1) (by omega), by have := Int.ediv_lt_of_lt_mul hb0 hlt; omega⟩)
  have HL := Lib.hid (fun q : Int => digit_le q (nval r) (nval b) hb0)
  have OR := Lib.hid or_
  have OB := Lib.hid ob
  clear or_ ob hlt hb0
  go_enter Tryz.func193, Tryz.ntmps193
  go_wp2
  go_loopw [5, 6] (fun x y wr => ∃ lo hi : Int, x = .int .i64 lo ∧ y = .int .i64 hi ∧ 0 ≤ lo ∧ hi ≤ 999999999 ∧ lo ≤ hi ∧ Hid (lo ≤ nval r / nval b ∧ nval r / nval b ≤ hi) ∧ Below w.heap.size w wr) (fun x y _ => (intOf y - intOf x).toNat)
  case atStart => exact ⟨0, 999999999, rfl, rfl, by omega, by omega, by omega, HQ, Below.refl _ _⟩
  case round =>
    obtain ⟨lo, hi, rfl, rfl, h0, h9, hlh, HB, hb⟩ := hrel
    by_cases hc : lo < hi
    · have hq0 : 0 < (lo + hi + 1) / 2 := by omega
      have hq9 : (lo + hi + 1) / 2 ≤ 999999999 := by omega
      have hql : lo < (lo + hi + 1) / 2 := by omega
      have hqh : (lo + hi + 1) / 2 ≤ hi := by omega
      obtain ⟨q, HE⟩ : ∃ q, Hid (q = (lo + hi + 1) / 2) := ⟨_, Lib.hid rfl⟩
      have hz := hb.size
      go_wp2_with fail
      rw [← HE.out] at hq0 hq9 hql hqh ⊢
      refine (specNatOf_any q _ (by omega)).mono ?_
      rintro e w1 ⟨v1, rfl, o1, b1⟩
      have HLQ := Lib.hid (show limbs q.toNat = [q] by rw [limbs, dif_neg (by omega), show q.toNat / 1000000000 = 0 by omega, limbs_none, show ((q.toNat % 1000000000 : Nat) : Int) = q by omega])
      rw [HLQ.out] at o1
      go_wp2_with fail
      have bb1 : Below w.heap.size w w1 := Below.next hb b1
      refine (specMulV_any vb v1 b [q] lb hb_ _ _ _ hbl (by simp) (by have := bb1.size; omega) (Nat.le_refl _) OB.out.1 (dig_one (by omega) (by omega)) (hrb.below bb1 hhb) (Row.of_own o1)).mono ?_
      rintro e w2 ⟨v2, rfl, o2, b2⟩
      have HV : Hid (nval b * nval [q] = q * nval b) := Lib.hid (by show nval b * (q + 1000000000 * 0) = _; rw [Int.mul_zero, Int.add_zero, Int.mul_comm])
      have bb2 : Below w.heap.size w w2 := Below.next bb1 b2
      rw [HV.out] at o2
      have hnn : 0 ≤ q * nval b := Int.mul_nonneg (by omega) (nval_nonneg b OB.out.1)
      have HLV := Lib.hid (limbs_toNat (q * nval b) hnn)
      have HLN := Lib.hid (show (limbs (q * nval b).toNat).length ≤ 1048576 from Nat.le_trans (limbs_length_le _ 51 (by
        rw [Int.toNat_of_nonneg hnn]
        have h1 := nval_lt b OB.out.1
        have h2 := bp_mono hbl
        have h3 : bp 51 = 1000000000 * bp 50 := rfl
        have h4 := Int.mul_le_mul (show q ≤ 999999999 from hq9) (show nval b ≤ bp 50 by omega) (nval_nonneg b OB.out.1) (by omega)
        have h5 := bp_pos 50
        omega)) (by decide))
      clear hnn
      go_wp2_with fail
      refine (specCmp_any v2 vr (limbs (q * nval b).toNat) r _ _ lr hr _ HLN.out hrl ⟨limbs_digN _, limbs_lastN _⟩ OR.out (Row.of_own o2) (hrr.below bb2 hhr)).mono ?_
      rintro e w3 ⟨rfl, qd, rfl⟩
      rw [HLV.out]
      have hb3 := below_drewN bb2 qd
      by_cases hle : q * nval b ≤ nval r
      · have hcl : cmpI (q * nval b) (nval r) ≤ 0 := by unfold cmpI; split; omega; split <;> omega
        have HQ2 := Lib.hid ((HL.out q).1 hle)
        clear hle
        go_wp2
        exact ⟨⟨q, hi, rfl, rfl, by omega, h9, hqh, Lib.hid ⟨HQ2.out, HB.out.2⟩, hb3⟩, by simp [intOf]; omega⟩
      · have hcl : ¬ cmpI (q * nval b) (nval r) ≤ 0 := by rw [cmp_gt (by omega)]; omega
        have HQ2 := Lib.hid (Int.not_le.1 (fun h => hle ((HL.out q).2 h)))
        clear hle
        go_wp2
        exact ⟨⟨lo, q - 1, rfl, rfl, h0, by omega, by omega, Lib.hid ⟨HB.out.1, by have := HQ2.out; omega⟩, hb3⟩, by simp [intOf]; omega⟩
    · obtain rfl : lo = hi := by omega
      have HF := Lib.hid (show lo = nval r / nval b by have := HB.out; omega)
      go_wp2
      go_ret
      exact ⟨ret_int HF.out, hb⟩
end Go.Proofs.YtcenmdiblbooeaaGreatDoor
