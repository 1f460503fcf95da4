/-
  RateOwn, Rates, RateMark, RatPlain, Rat, Loc, RatePairs, SignSpec, SignCmp, SignAdd, RatSpec, RatOk, RatLow, RatPlain2, ModePlain, RoundPlain, FnRatPlain0, DecQ, RateStep, RateFacts
-/
import Derived.Deep.RegionHeld3
import Derived.Test.YtehkknphcflofaaGreatDoorJU2
namespace Go.Proofs.YtehkknphcflofaaGreatDoor
open Go.RowKit

/-- an element's cells: From, To, the sign, the limbs' slice, the scale -/
abbrev CE : Type := ByteArray × ByteArray × Bool × Value × Int
/-- it stands for this rate, its limbs of the call's own -/
def CellE (p : CE) (x : EI) (w : World) : Prop := p.1 = x.1 ∧ p.2.1 = x.2.1 ∧ p.2.2.1 = x.2.2.1.1 ∧ p.2.2.2.2 = x.2.2.2 ∧ OwnI p.2.2.2.1 x.2.2.1.2 w
/-- no two limbs' slices on one block, and none on v's -/
def ApartE (v : Value) (e : List CE) : Prop :=
  (∀ (i j : Nat) p q b, e[i]? = some p → e[j]? = some q → p.2.2.2.1.ownBlock = some b → q.2.2.2.1.ownBlock = some b → i = j) ∧ ∀ (i : Nat) p b, e[i]? = some p → p.2.2.2.1.ownBlock = some b → v.ownBlock ≠ some b
/-- such a slice, of the call's own -/
def OwnEP (v : Value) (l : List EI) (w : World) : Prop :=
  ∃ e : List CE, w.ownsRow 0 54 5 v l.length (flatE e) ∧ e.length = l.length ∧ (∀ (j : Nat) x p, l[j]? = some x → e[j]? = some p → CellE p x w) ∧ ApartE v e
/-- a slice that reads as these rates, their limbs of the call's own -/
def OwnER (w : World) (v : Value) (l : List EI) : Prop :=
  ∃ A c, v = .slice A l.length c ∧ ∀ (j : Nat) x, l[j]? = some x → ∃ a u, A = some a ∧ a.block < w.heap.size ∧ w.cell? (a.add (j * 5)) = some (.string x.1) ∧ w.cell? ⟨(a.add (j * 5)).block, (a.add (j * 5)).off + 1, none⟩ = some (.string x.2.1) ∧ w.cell? ⟨(a.add (j * 5)).block, (a.add (j * 5)).off + 2, none⟩ = some (.bool x.2.2.1.1) ∧ w.cell? ⟨(a.add (j * 5)).block, (a.add (j * 5)).off + 3, none⟩ = some u ∧ w.cell? ⟨(a.add (j * 5)).block, (a.add (j * 5)).off + 4, none⟩ = some (.int .i64 x.2.2.2) ∧ OwnI u x.2.2.1.2 w
theorem OwnER.below {w w' : World} {v : Value} {l : List EI} (h : OwnER w v l) (hb : Below w.heap.size w w') : OwnER w' v l := by
  obtain ⟨A, c, rfl, h⟩ := h
  refine ⟨A, c, rfl, fun j x hj => ?_⟩
  obtain ⟨a, u, rfl, h1, h2, h3, h4, h5, h6, h7⟩ := h j x hj
  exact ⟨a, u, rfl, Nat.lt_of_lt_of_le h1 hb.size, (cell_keep5' hb h1 j).trans h2, (cell_keep5 hb h1 j 1).trans h3, (cell_keep5 hb h1 j 2).trans h4, (cell_keep5 hb h1 j 3).trans h5, (cell_keep5 hb h1 j 4).trans h6, own_below h7 hb⟩
theorem OwnER.rd {w : World} {v : Value} {l : List EI} (h : OwnER w v l) : RdEL w v l := by
  obtain ⟨A, c, rfl, h⟩ := h
  refine ⟨A, c, rfl, fun j x hj => ?_⟩
  obtain ⟨a, u, rfl, h1, h2, h3, h4, h5, h6, h7⟩ := h j x hj
  exact ⟨a, u, rfl, h1, h2, h3, h4, h5, h6, h7.row⟩
theorem own_lenE {w : World} {base n size : Nat} {e : TypeId} {v : Value} {xs : List Value} (h : w.ownsRow base e size v n xs) : ∃ A c, v = .slice A n c := by
  rcases h.2 with ⟨rfl, rfl⟩ | ⟨g, cap, cur, rfl, _⟩
  · exact ⟨_, _, rfl⟩
  · exact ⟨_, _, rfl⟩
theorem own_lowE {w : World} {base base' n size : Nat} {e : TypeId} {v : Value} {xs : List Value} (h : w.ownsRow base e size v n xs) (hb : base' ≤ base) : w.ownsRow base' e size v n xs := by
  obtain ⟨hl, h | ⟨g, cap, cur, rfl, hg, r⟩⟩ := h
  · exact ⟨hl, .inl h⟩
  · exact ⟨hl, .inr ⟨g, cap, cur, rfl, by omega, r⟩⟩
theorem OwnEP.below {v : Value} {l : List EI} {w w' : World} (h : OwnEP v l w) (hb : Below w.heap.size w w') : OwnEP v l w' := by
  obtain ⟨e, h4, h5, h6, h7⟩ := h
  refine ⟨e, own_below h4 hb, h5, fun j x p hx hp => ?_, h7⟩
  obtain ⟨e0, e1, e2, e3, ho⟩ := h6 j x p hx hp
  exact ⟨e0, e1, e2, e3, own_below ho hb⟩
theorem OwnEP.ownR {v : Value} {l : List EI} {w : World} (h : OwnEP v l w) : OwnER w v l := by
  obtain ⟨e, h4, hlen, h5, _⟩ := h
  obtain ⟨A, c, rfl⟩ := own_lenE h4
  refine ⟨A, c, rfl, fun j x hj => ?_⟩
  have hjl := (List.getElem?_eq_some_iff.1 hj).1
  obtain ⟨g, cap, ev, _, hg, _⟩ := own_form h4 (by omega)
  cases ev
  obtain ⟨p, hp⟩ : ∃ p, e[j]? = some p := ⟨_, List.getElem?_eq_getElem (by omega)⟩
  obtain ⟨e0, e1, e2, e3, ho⟩ := h5 j x p hj hp
  have hf := flatE_get hp
  rw [e0, e1, e2, e3] at hf
  refine ⟨⟨g, 0, none⟩, p.2.2.2.1, rfl, hg, ?_, ?_, ?_, ?_, ?_, ho⟩
  · have := h4.cellAt (j * 5) (by omega)
    rw [hf.1] at this
    rw [add_ownE]
    exact this
  · have := h4.cellAt (j * 5 + 1) (by omega)
    rw [hf.2.1] at this
    rw [add_ownE]
    exact this
  · have := h4.cellAt (j * 5 + 2) (by omega)
    rw [hf.2.2.1] at this
    rw [add_ownE]
    exact this
  · have := h4.cellAt (j * 5 + 3) (by omega)
    rw [hf.2.2.2.1] at this
    rw [add_ownE]
    exact this
  · have := h4.cellAt (j * 5 + 4) (by omega)
    rw [hf.2.2.2.2] at this
    rw [add_ownE]
    exact this
theorem OwnEG.blocks {w : World} {lo hi : Nat} {l : List EI} {e : List CE} (h : OwnEG w lo l e hi) : ∀ (i : Nat) p b, e[i]? = some p → p.2.2.2.1.ownBlock = some b → lo ≤ b ∧ b < hi := by
  induction l generalizing lo e with
  | nil =>
    cases e with
    | nil => intro i p b hp; simp at hp
    | cons _ _ => exact h.elim
  | cons x l ih =>
    cases e with
    | nil => exact h.elim
    | cons q e =>
      obtain ⟨mid, h1, _, _, _, _, h3, h4, h5⟩ := h
      intro i p b hp hb
      have hle := h5.le
      cases i with
      | zero =>
        obtain rfl : q = p := by simpa using hp
        have := h4 b hb
        exact ⟨(own_lt h3 hb).1, by omega⟩
      | succ i =>
        have := ih h5 i p b (by simpa using hp) hb
        omega
theorem OwnEG.apart {w : World} {lo hi : Nat} {l : List EI} {e : List CE} (h : OwnEG w lo l e hi) : ∀ (i j : Nat) p q b, e[i]? = some p → e[j]? = some q → p.2.2.2.1.ownBlock = some b → q.2.2.2.1.ownBlock = some b → i = j := by
  induction l generalizing lo e with
  | nil =>
    cases e with
    | nil => intro i j p q b hp; simp at hp
    | cons _ _ => exact h.elim
  | cons x l ih =>
    cases e with
    | nil => exact h.elim
    | cons r e =>
      obtain ⟨mid, h1, _, _, _, _, h3, h4, h5⟩ := h
      intro i j p q b hp hq hpb hqb
      cases i with
      | zero =>
        cases j with
        | zero => rfl
        | succ j =>
          exfalso
          obtain rfl : r = p := by simpa using hp
          have := h4 b hpb
          have := (h5.blocks j q b (by simpa using hq) hqb).1
          omega
      | succ i =>
        cases j with
        | zero =>
          exfalso
          obtain rfl : r = q := by simpa using hq
          have := h4 b hqb
          have := (h5.blocks i p b (by simpa using hp) hpb).1
          omega
        | succ j => rw [ih h5 i j p q b (by simpa using hp) (by simpa using hq) hpb hqb]
theorem OwnEL.own {v : Value} {l : List EI} {lo hi : Nat} {w : World} (h : OwnEL v l lo hi w) : OwnEP v l w := by
  obtain ⟨g, e, rfl, h1, h2, h3, h4, h5⟩ := h
  refine ⟨e, own_lowE h4 (Nat.zero_le _), h5.length, fun j x p hx hp => ?_, h5.apart, fun i p b hp hb hv => ?_⟩
  · obtain ⟨u, he, ho⟩ := h5.at_ hx
    rw [he] at hp
    cases hp
    exact ⟨rfl, rfl, rfl, rfl, ho⟩
  · have := (h5.blocks i p b hp hb).1
    have hg : g = b := by
      have : (some g : Option Nat) = some b := hv
      injection this
    omega
/-- a fact that says what a row holds leans on its block -/
theorem at_row_memE {S : List Nat} {φ : World → Prop} {w : World} {u : Value} {T : TypeId} {size : Nat} (hT : ¬ T = 4) (h : At S φ w) (hi : ∀ w', φ w' → ∃ base n xs, w'.ownsRow base T size u n xs) : ∀ g, u.ownBlock = some g → g ∈ S := by
  intro g hg
  rcases Classical.em (g ∈ S) with hin | hout
  · exact hin
  · exfalso
    obtain ⟨b1, n1, x1, h1⟩ := hi _ h.here
    obtain ⟨b2, n2, x2, hst⟩ := hi _ (h.stays { w with heap := w.heap.set! g (.cells #[] 4 (0, 0)) } (fun i hi => by
      have : i ≠ g := fun e => hout (e ▸ hi)
      simp [Ne.symm this]))
    have hlt := (own_lt h1 hg).2
    obtain ⟨_, ⟨rfl, _⟩ | ⟨g', cap, cur, rfl, _, hh, _⟩⟩ := hst
    · cases hg
    · cases hg
      have hlt' : g' < w.heap.size := hlt
      have hh' : (w.heap.setIfInBounds g' (.cells #[] 4 (0, 0)))[g']? = some (.cells cur T (0, 0)) := hh
      rw [Array.getElem?_setIfInBounds_self_of_lt hlt'] at hh'
      injection hh' with hh'
      injection hh' with e1 e2
      exact hT e2.symm
theorem atEP_mem {S : List Nat} {u : Value} {l : List EI} {w : World} (h : At S (OwnEP u l) w) : ∃ e : List CE, w.ownsRow 0 54 5 u l.length (flatE e) ∧ e.length = l.length ∧ (∀ (j : Nat) x p, l[j]? = some x → e[j]? = some p → CellE p x w) ∧ ApartE u e ∧ (∀ b, u.ownBlock = some b → b ∈ S) ∧ ∀ p ∈ e, ∀ b, p.2.2.2.1.ownBlock = some b → b ∈ S := by
  have hg : ∀ b, u.ownBlock = some b → b ∈ S := at_row_memE (T := 54) (size := 5) (by decide) h (fun W k => by
    obtain ⟨e, k4, _⟩ := k
    exact ⟨_, _, _, k4⟩)
  obtain ⟨e, h4, hl, h5, h6⟩ := h.here
  refine ⟨e, h4, hl, h5, h6, hg, fun p hp b hb => ?_⟩
  obtain ⟨j, hj⟩ := List.mem_iff_getElem?.1 hp
  have hjl : j < l.length := by have := (List.getElem?_eq_some_iff.1 hj).1; omega
  obtain ⟨x, hx⟩ : ∃ x, l[j]? = some x := ⟨_, List.getElem?_eq_getElem hjl⟩
  obtain ⟨g, cap, rfl, _, _, _⟩ := own_form h4 (by omega)
  have hgS := hg g rfl
  have hc := h4.cellAt (j * 5 + 3) (by omega)
  rw [(flatE_get hj).2.2.2.1] at hc
  have h' : At S (fun W => OwnEP (.slice (some ⟨g, 0, none⟩) l.length cap) l W ∧ W.heap[g]? = w.heap[g]?) w := ⟨⟨h.here, rfl⟩, h.lt, fun W hk => ⟨h.stays W hk, hk g hgS⟩⟩
  refine at_row_memE (T := 3) (size := 1) (by decide) h' (fun W k => ?_) b hb
  obtain ⟨⟨e', k4, kl, k5, _⟩, kw⟩ := k
  obtain ⟨p', hp'⟩ : ∃ p', e'[j]? = some p' := ⟨_, List.getElem?_eq_getElem (by omega)⟩
  obtain ⟨_, _, _, _, ho'⟩ := k5 j x p' hx hp'
  have hc' := k4.cellAt (j * 5 + 3) (by omega)
  rw [(flatE_get hp').2.2.2.1] at hc'
  have e3 : W.cell? ⟨g, j * 5 + 3, none⟩ = w.cell? ⟨g, j * 5 + 3, none⟩ := World.cell?_of_block kw
  rw [e3, hc] at hc'
  rw [Option.some.inj hc']
  exact ⟨_, _, _, ho'⟩

/-! ### marks -/
def MarkedE (M : Int) (x : EI) (p : CE) (w : World) : Prop :=
  p.1 = markB M ∧ p.2.1 = markB (M + 1) ∧ p.2.2.1 = ((M + 1 + 1) % 3 == 0) ∧ p.2.2.2.2 = M + 1 + 1 + 1 + x.2.2.1.2.length ∧ MarkI p.2.2.2.1 x.2.2.1.2 (M + 1 + 1 + 1) w
/-- a slice of marks from m on -/
def MkEP (v : Value) (l : List EI) (m : Int) (w : World) : Prop :=
  ∃ e : List CE, w.ownsRow 0 54 5 v l.length (flatE e) ∧ e.length = l.length ∧ ∀ (j : Nat) x p, l[j]? = some x → e[j]? = some p → MarkedE (m + mkEL (l.take j)) x p w
theorem flatE_set {e : List CE} {k : Nat} {p : CE} (h : e[k]? = some p) (a b : ByteArray) (c : Bool) (n : Int) :
    ((((flatE e).set (k * 5) (.string a)).set (k * 5 + 1) (.string b)).set (k * 5 + 2) (.bool c)).set (k * 5 + 4) (.int .i64 n) = flatE (e.set k (a, b, c, p.2.2.2.1, n)) := by
  induction e generalizing k with
  | nil => simp at h
  | cons q e ih =>
    cases k with
    | zero =>
      obtain rfl : q = p := by simpa using h
      rfl
    | succ k =>
      have := ih (k := k) (by simpa using h)
      rw [show (k + 1) * 5 = k * 5 + 1 + 1 + 1 + 1 + 1 by omega, List.set_cons_succ]
      show _ = _ :: _ :: _ :: _ :: _ :: flatE (e.set k _)
      rw [← this]
      rfl
def MkRel (l : List EI) (e : List CE) (m : Int) (k : Nat) (f : List CE) (W : World) : Prop :=
  f.length = e.length ∧ (∀ (j : Nat) p q, e[j]? = some p → f[j]? = some q → q.2.2.2.1 = p.2.2.2.1) ∧ ∀ (j : Nat) x q, l[j]? = some x → f[j]? = some q → if j < k then MarkedE (m + mkEL (l.take j)) x q W else OwnI q.2.2.2.1 x.2.2.1.2 W
theorem mkRel_zero {l : List EI} {e : List CE} {m : Int} {w : World} (h : ∀ (j : Nat) x p, l[j]? = some x → e[j]? = some p → CellE p x w) : MkRel l e m 0 e w :=
  ⟨rfl, fun j p q hp hq => by rw [hp] at hq; cases hq; rfl, fun j x q hx hq => by rw [if_neg (Nat.not_lt_zero _)]; exact (h j x q hx hq).2.2.2.2⟩
theorem mkRel_step {l : List EI} {e f : List CE} {m z : Int} {k g : Nat} {W W' : World} {x : EI} {p : CE} (h : MkRel l e m k f W)
    (ha : ∀ (i j : Nat) p q b, e[i]? = some p → e[j]? = some q → p.2.2.2.1.ownBlock = some b → q.2.2.2.1.ownBlock = some b → i = j) (hg : ∀ (i : Nat) p b, e[i]? = some p → p.2.2.2.1.ownBlock = some b → ¬ g = b)
    (hx : l[k]? = some x) (hp : f[k]? = some p) (c : Chg (g :: p.2.2.2.1.ownBlock.toList) W W') (hz : z = m + mkEL (l.take k)) (hm : MarkI p.2.2.2.1 x.2.2.1.2 (z + 1 + 1 + 1) W') :
    MkRel l e m (k + 1) (f.set k (markB z, markB (z + 1), ((z + 1 + 1) % 3 == 0), p.2.2.2.1, z + 1 + 1 + 1 + x.2.2.1.2.length)) W' := by
  obtain ⟨h1, h2, h3⟩ := h
  have hkf := (List.getElem?_eq_some_iff.1 hp).1
  have hpe : ∀ (j : Nat) q, f[j]? = some q → ∃ p0, e[j]? = some p0 ∧ q.2.2.2.1 = p0.2.2.2.1 := fun j q hq => by
    have hj := (List.getElem?_eq_some_iff.1 hq).1
    exact ⟨_, List.getElem?_eq_getElem (by omega), h2 j _ q (List.getElem?_eq_getElem (by omega)) hq⟩
  refine ⟨by rw [List.length_set]; exact h1, fun j p0 q hp0 hq => ?_, fun j y q hy hq => ?_⟩
  · by_cases hj : k = j
    · subst hj
      rw [List.getElem?_set_self hkf] at hq
      cases hq
      exact h2 k p0 p hp0 hp
    · rw [List.getElem?_set_ne hj] at hq
      exact h2 j p0 q hp0 hq
  · by_cases hj : k = j
    · subst hj
      rw [List.getElem?_set_self hkf] at hq
      cases hq
      rw [hx] at hy
      cases hy
      rw [if_pos (Nat.lt_succ_self _)]
      subst hz
      exact ⟨rfl, rfl, rfl, rfl, hm⟩
    · rw [List.getElem?_set_ne hj] at hq
      have hthis := h3 j y q hy hq
      have hkeep : ∀ b, q.2.2.2.1.ownBlock = some b → b < W.heap.size → W'.heap[b]? = W.heap[b]? := fun b hb hlt => c.block b hlt (fun hmem => by
        obtain ⟨q0, hq0, eq0⟩ := hpe j q hq
        obtain ⟨p0, hp0, ep0⟩ := hpe k p hp
        rw [eq0] at hb
        rcases List.mem_cons.1 hmem with rfl | hmem
        · exact hg j q0 _ hq0 hb rfl
        · rw [ep0] at hmem
          exact hj (ha k j p0 q0 b hp0 hq0 (by simpa using hmem) hb))
      by_cases hjk : j < k
      · rw [if_pos hjk] at hthis
        rw [if_pos (by omega)]
        obtain ⟨a1, a2, a3, a4, a5⟩ := hthis
        exact ⟨a1, a2, a3, a4, own_stays a5 fun b hb => hkeep b hb (own_lt a5 hb).2⟩
      · rw [if_neg hjk] at hthis
        rw [if_neg (by omega)]
        exact own_stays hthis fun b hb => hkeep b hb (own_lt hthis hb).2
theorem mkRel_end {l : List EI} {e f : List CE} {m : Int} {W : World} {v : Value} (hl : e.length = l.length) (h : MkRel l e m l.length f W) (ho : W.ownsRow 0 54 5 v l.length (flatE f)) : MkEP v l m W :=
  ⟨f, ho, by rw [h.1, hl], fun j x p hx hp => by
    have := h.2.2 j x p hx hp
    rwa [if_pos (List.getElem?_eq_some_iff.1 hx).1] at this⟩
theorem MkEP.stays {v : Value} {l : List EI} {m : Int} {w w' : World} (h : MkEP v l m w) (hb : Below w.heap.size w w') : MkEP v l m w' := by
  obtain ⟨e, h1, h2, h3⟩ := h
  refine ⟨e, own_below h1 hb, h2, fun j x p hx hp => ?_⟩
  obtain ⟨a1, a2, a3, a4, a5⟩ := h3 j x p hx hp
  exact ⟨a1, a2, a3, a4, own_below a5 hb⟩
set_option maxHeartbeats 4000000 in
set_option maxRecDepth 100000 in
theorem markRateS_any (v : Value) (e : List CE) (l : List EI) (S : List Nat) (m : Int) (w : World) (hm : m + mkEL l ≤ 9223372036854775807) (hm0 : 0 ≤ m)
    (ho : w.ownsRow 0 54 5 v l.length (flatE e)) (hel : e.length = l.length) (hes : ∀ (j : Nat) x p, l[j]? = some x → e[j]? = some p → CellE p x w) (hap : ApartE v e) (hTv : ∀ b, v.ownBlock = some b → b ∈ S) (hTe : ∀ p ∈ e, ∀ b, p.2.2.2.1.ownBlock = some b → b ∈ S) :
    Calls Tryz.prog 122 #[v, .int .i64 m] w fun e' w' => e' = .returned (.int .i64 (m + mkEL l)) ∧ (∃ f, w'.ownsRow 0 54 5 v l.length (flatE f) ∧ MkRel l e m l.length f w') ∧ Chg S w w' := by
  have HEL := Lib.hid hel
  have hln := mkEL_nonneg l
  have hll : (l.length : Int) ≤ 9223372036854775807 := by have := mkEL_len l; omega
  have HR0 := Lib.hid (mkRel_zero (m := m) hes)
  have HAP := Lib.hid hap
  have HTV := Lib.hid hTv
  have HTE := Lib.hid hTe
  clear hes hel hap hTv hTe
  obtain ⟨A, c, rfl⟩ := own_lenE ho
  go_enter Tryz.func122, Tryz.ntmps122
  go_wp2
  go_loopw [1, 5] (fun a i wr => ∃ (k : Nat) (z : Int) (f : List CE), k ≤ l.length ∧ i = .int .i64 k ∧ a = .int .i64 z ∧ Hid (z = m + mkEL (l.take k)) ∧ wr.ownsRow 0 54 5 (.slice A l.length c) l.length (flatE f) ∧ Hid (MkRel l e m k f wr) ∧ Chg S w wr) (fun _ i _ => l.length - (intOf i).toNat)
  case atStart => exact ⟨0, m, e, Nat.zero_le _, rfl, rfl, Lib.hid (by rw [List.take_zero]; show _ = _ + (0 : Int); omega), ho, HR0, Chg.refl _ _⟩
  case round =>
    clear ho HR0
    obtain ⟨k, z, f, hk, rfl, rfl, HZ, ho, HRL, hc⟩ := hrel
    by_cases hlt : k < l.length
    · obtain ⟨x, hxk⟩ : ∃ x, l[k]? = some x := ⟨_, List.getElem?_eq_getElem hlt⟩
      obtain ⟨g, cap, ev, _, hgl, _⟩ := own_form ho (by omega)
      cases ev
      have hfl : f.length = l.length := HRL.out.1.trans HEL.out
      obtain ⟨p, hpk⟩ : ∃ p, f[k]? = some p := ⟨_, List.getElem?_eq_getElem (by omega)⟩
      have hxs : (flatE f).length = l.length * 5 := ho.1
      have HT := Lib.hid (mkEL_take hxk)
      have HTL := Lib.hid (mkEL_take_le l (k + 1))
      have HT0 := Lib.hid (mkEL_nonneg (l.take k))
      have hoi : OwnI p.2.2.2.1 x.2.2.1.2 wr := by
        have := HRL.out.2.2 k x p hxk hpk
        rwa [if_neg (Nat.lt_irrefl _)] at this
      obtain ⟨p0, hp0⟩ : ∃ p0, e[k]? = some p0 := ⟨_, List.getElem?_eq_getElem (by have := HEL.out; omega)⟩
      have hpp : p.2.2.2.1 = p0.2.2.2.1 := HRL.out.2.1 k p0 p hp0 hpk
      have hgp : ∀ b, p.2.2.2.1.ownBlock = some b → ¬ g = b := fun b hb he => HAP.out.2 k p0 b hp0 (hpp ▸ hb) (by rw [he]; rfl)
      have hgS : g ∈ S := HTV.out g rfl
      have hpS : ∀ b, p.2.2.2.1.ownBlock = some b → b ∈ S := fun b hb => HTE.out p0 (List.mem_of_getElem? hp0) b (hpp ▸ hb)
      have HSTEP := Lib.hid (show ∀ W', Chg (g :: p.2.2.2.1.ownBlock.toList) wr W' → MarkI p.2.2.2.1 x.2.2.1.2 (z + 1 + 1 + 1) W' → MkRel l e m (k + 1) (f.set k (markB z, markB (z + 1), ((z + 1 + 1) % 3 == 0), p.2.2.2.1, z + 1 + 1 + 1 + x.2.2.1.2.length)) W' from
        fun W' hcW hmW => mkRel_step HRL.out HAP.out.1 (fun i q b hq hb he => HAP.out.2 i q b hq hb (by rw [he]; rfl)) hxk hpk hcW HZ.out hmW)
      have HFS := Lib.hid (flatE_set hpk (markB z) (markB (z + 1)) ((z + 1 + 1) % 3 == 0) (z + 1 + 1 + 1 + x.2.2.1.2.length))
      have hx3 : (flatE f)[k * 5 + 3]? = some p.2.2.2.1 := (flatE_get hpk).2.2.2.1
      have hzb : 0 ≤ z ∧ z + 4 + x.2.2.1.2.length ≤ 9223372036854775807 ∧ z + 1 + 1 + 1 + x.2.2.1.2.length + 1 = m + mkEL (l.take (k + 1)) := by
        have h1 := HZ.out
        have h2 := HT.out
        have h3 := HTL.out
        have h4 := HT0.out
        omega
      have hz0 : 0 ≤ z := hzb.1
      have hz1 : z + 4 + x.2.2.1.2.length ≤ 9223372036854775807 := hzb.2.1
      have HZ2 := Lib.hid hzb.2.2
      have HO := Lib.hid ho
      have HC0 := Lib.hid hc
      have HX3 := Lib.hid hx3
      have HOI := Lib.hid hoi
      have HGP := Lib.hid hgp
      have HGS := Lib.hid (And.intro hgS hpS)
      have HXS := Lib.hid hxs
      have HC := Lib.hid (Chg.refl (g :: p.2.2.2.1.ownBlock.toList) wr)
      generalize p.2.2.2.1 = P at *
      generalize flatE f = xs at *
      clear hc hzb HT HTL HT0 ho hx3 hoi hgp hgS hpS HZ HRL hfl hpk hpp hxk hgl
      go_wp2_with fail
      refine (markText_any z _ (by omega)).mono ?_
      rintro e' w1 ⟨rfl, b1⟩
      have ho1 := own_below HO.out b1
      have hcell0 := ho1.cellAt (k * 5) (by omega)
      rw [List.getElem?_eq_getElem (by omega)] at hcell0
      have hfr0 := ho1.frozenAt (k * 5)
      obtain ⟨ho2, _⟩ := ho1.stored (k * 5) (.string (markB z))
      have H1 := Lib.hid ho2
      have H3 := Lib.hid (show OwnI P x.2.2.1.2 (w1.setCell ⟨g, k * 5, none⟩ (.string (markB z))) from own_stays (own_below HOI.out b1) fun i hi => by
        rw [Below.heap_setCell _ _ _ _ (Ne.symm (HGP.out i hi))])
      have HC1 := Lib.hid ((HC.out.trans (Chg.of_below b1)).setCell (p := ⟨g, k * 5, none⟩) (List.mem_cons_self ..) (.string (markB z)))
      clear ho1 ho2 HO HC HOI b1
      generalize hM : markB z = M at *
      go_wp2_with fail
      clear hcell0 hfr0
      refine (markText_any (z + 1) _ (by omega)).mono ?_
      rintro e' w2 ⟨rfl, b2⟩
      have ho3 := own_below H1.out b2
      have hcell1 := ho3.cellAt (k * 5 + 1) (by omega)
      have hcell2 := ho3.cellAt (k * 5 + 2) (by omega)
      rw [List.getElem?_eq_getElem (by rw [List.length_set]; omega)] at hcell1 hcell2
      have hcell3 := ho3.cellAt (k * 5 + 3) (by omega)
      rw [List.getElem?_set_ne (by omega), HX3.out] at hcell3
      have hfr1 := ho3.frozenAt (k * 5 + 1)
      have hfr2 := ho3.frozenAt (k * 5 + 2)
      obtain ⟨ho4, _⟩ := ho3.stored (k * 5 + 1) (.string (markB (z + 1)))
      obtain ⟨ho5, _⟩ := ho4.stored (k * 5 + 2) (.bool ((z + 1 + 1) % 3 == 0))
      have K1 := Lib.hid ho5
      have K3 := Lib.hid (show ((w2.setCell ⟨g, k * 5 + 1, none⟩ (.string (markB (z + 1)))).setCell ⟨g, k * 5 + 2, none⟩ (.bool ((z + 1 + 1) % 3 == 0))).ownsRow 0 3 1 P x.2.2.1.2.length (intsV x.2.2.1.2) from own_stays (own_below H3.out b2) fun i hi => by
        rw [Below.heap_setCell _ _ _ _ (Ne.symm (HGP.out i hi)), Below.heap_setCell _ _ _ _ (Ne.symm (HGP.out i hi))])
      have KC := Lib.hid (((HC1.out.trans (Chg.of_below b2)).setCell (p := ⟨g, k * 5 + 1, none⟩) (List.mem_cons_self ..) (.string (markB (z + 1)))).setCell (p := ⟨g, k * 5 + 2, none⟩) (List.mem_cons_self ..) (.bool ((z + 1 + 1) % 3 == 0)))
      clear ho3 ho4 ho5 H1 H3 HC1 b2
      generalize hM2 : markB (z + 1) = M2 at *
      go_wp2_with fail
      with_reducible refine (markIntS_any P x.2.2.1.2.length (intsV x.2.2.1.2) 0 (z + 1 + 1 + 1) _ (by omega) (by omega) K3.out).mono ?_
      rintro e' w3 ⟨rfl, o2, g2⟩
      clear hcell1 hcell2 hcell3 hfr1 hfr2
      have hlt2 := (own_lt K1.out (g := g) rfl).2
      have ho6 : w3.ownsRow 0 54 5 (.slice (some ⟨g, 0, none⟩) l.length c) l.length (((xs.set (k * 5) (.string M)).set (k * 5 + 1) (.string M2)).set (k * 5 + 2) (.bool ((z + 1 + 1) % 3 == 0))) := own_stays K1.out fun i hi => by
        cases hi
        exact g2.block g hlt2 (fun e => HGP.out g e.symm rfl)
      have hc2 := KC.out.trans ((Chg.of_grown g2).more (T := P.ownBlock.toList) fun i hi => List.mem_cons_of_mem _ hi)
      have hcell4 := ho6.cellAt (k * 5 + 4) (by omega)
      rw [List.getElem?_eq_getElem (by rw [List.length_set, List.length_set, List.length_set]; omega)] at hcell4
      have hfr4 := ho6.frozenAt (k * 5 + 4)
      obtain ⟨ho7, _⟩ := ho6.stored (k * 5 + 4) (.int .i64 (z + 1 + 1 + 1 + x.2.2.1.2.length))
      have HC7 := Lib.hid (hc2.setCell (p := ⟨g, k * 5 + 4, none⟩) (List.mem_cons_self ..) (.int .i64 (z + 1 + 1 + 1 + x.2.2.1.2.length)))
      have HM7 := Lib.hid (show MarkI P x.2.2.1.2 (z + 1 + 1 + 1) (w3.setCell ⟨g, k * 5 + 4, none⟩ (.int .i64 (z + 1 + 1 + 1 + x.2.2.1.2.length))) from own_stays o2 fun i hi => by
        rw [Below.heap_setCell _ _ _ _ (Ne.symm (HGP.out i hi))])
      have HR7 := Lib.hid (HSTEP.out _ HC7.out HM7.out)
      have HO7 := Lib.hid (HFS.out ▸ ho7)
      have HS7 := Lib.hid (HC0.out.trans (HC7.out.more fun i hi => by
        rcases List.mem_cons.1 hi with rfl | hi
        · exact HGS.out.1
        · exact HGS.out.2 i (by simpa using hi)))
      clear ho6 ho7 hc2 g2 o2 K1 K3 KC HSTEP HFS HC7 HM7
      go_wp2
      go_roundw
      case rel => exact ⟨k + 1, _, _, by omega, by go_num, rfl, HZ2, HO7.out, HR7, HS7.out⟩
      case measure => simp [intOf]; omega
    · obtain rfl : k = l.length := by omega
      have HV := Lib.hid (show m + mkEL l = z by
        have h3 := HZ.out
        rw [List.take_length] at h3
        omega)
      go_wp2
      go_ret
      exact ⟨ret_int HV.out.symm, ⟨f, ho, HRL.out⟩, hc⟩
end Go.Proofs.YtehkknphcflofaaGreatDoor

namespace Go.Proofs.YtehkknphcflofaaGreatDoor
open Go.RowKit

instance decEqT : DecidableEq TI := fun x y => @instDecidableEqProd _ _ inferInstance (fun _ _ => inferInstance) x y
theorem ownEL_at {v : Value} {l : List EI} {lo hi : Nat} {w : World} (h : OwnEL v l lo hi w) : At (rangeE lo hi) (OwnEL v l lo hi) w := by
  have hh := h
  obtain ⟨g, e, rfl, h1, h2, h3, h4, h5⟩ := hh
  refine ⟨h, fun i hi => by have := rangeE_mem hi; omega, fun w' hk => ?_⟩
  have hz : hi ≤ w'.heap.size := by
    have hm := hk (hi - 1) (mem_rangeE (by omega) (by omega))
    rw [Array.getElem?_eq_getElem (show hi - 1 < w.heap.size by omega)] at hm
    have := (Array.getElem?_eq_some_iff.1 hm).1
    omega
  exact ⟨g, e, rfl, h1, h2, hz, own_stays h4 fun i hi => by cases hi; exact hk g (mem_rangeE h1 h2), h5.stays fun i hi hi2 => hk i (mem_rangeE (by omega) hi2)⟩
/-- a value that stands for it, its list of the call's own -/
def OwnT (v : Value) (q : TI) (w : World) : Prop := ∃ u, v = .agg #[.string q.1, u] ∧ OwnEP u q.2 w
/-- a value that reads as it -/
def RdT (w : World) (v : Value) (q : TI) : Prop := ∃ u, v = .agg #[.string q.1, u] ∧ RdEL w u q.2
theorem OwnT.rd {v : Value} {q : TI} {w : World} (h : OwnT v q w) : RdT w v q := by
  obtain ⟨u, rfl, o⟩ := h
  exact ⟨u, rfl, o.ownR.rd⟩
theorem OwnT.below {w W : World} {v : Value} {q : TI} (h : OwnT v q w) (hb : Below w.heap.size w W) : OwnT v q W := by
  obtain ⟨u, rfl, o⟩ := h
  exact ⟨u, rfl, o.below hb⟩
theorem RdT.below {w W : World} {v : Value} {q : TI} (h : RdT w v q) (hb : Below w.heap.size w W) : RdT W v q := by
  obtain ⟨u, rfl, o⟩ := h
  exact ⟨u, rfl, o.below hb⟩
def szT (q : TI) : Int := q.1.size + (q.2.length + szEL q.2)
def mkT (q : TI) : Int := mkEL q.2
def capT (q : TI) : Prop := q.1.size ≤ 9223372036854775807 ∧ q.2.length ≤ 9223372036854775807 ∧ ∀ x ∈ q.2, capE x
theorem szT_nonneg (q : TI) : 0 ≤ szT q := by have := szEL_nonneg q.2; unfold szT; omega
theorem szT_mem {q : TI} (h : szT q ≤ 1048576) : q.2.length ≤ 1048576 ∧ ∀ x ∈ q.2, szE x ≤ 1048576 := by
  have h0 := szEL_nonneg q.2
  unfold szT at h
  exact ⟨by omega, fun x hx => by have := szEL_mem hx; omega⟩
theorem capT_of {q : TI} (h : szT q ≤ 1048576) : capT q := by
  obtain ⟨h1, h2⟩ := szT_mem h
  have h0 := szEL_nonneg q.2
  refine ⟨?_, by omega, fun x hx => capE_of (h2 x hx)⟩
  unfold szT at h
  omega
theorem rdT_form {v : Value} {q : TI} {w : World} (h : RdT w v q) : ∃ A c, v = .agg #[.string q.1, .slice A q.2.length c] := by
  obtain ⟨u, rfl, o⟩ := h
  obtain ⟨A, c, rfl, _⟩ := o
  exact ⟨A, c, rfl⟩
theorem ownT_form {v : Value} {q : TI} {w : World} (h : OwnT v q w) : ∃ A c, v = .agg #[.string q.1, .slice A q.2.length c] := rdT_form h.rd
theorem ownT_open {u c : Value} {q : TI} {w : World} (h : OwnT (.agg #[c, u]) q w) : OwnEP u q.2 w := by
  obtain ⟨u', e, hu⟩ := h
  injection e with e
  simp at e
  obtain ⟨_, e2⟩ := e
  subst e2
  exact hu
theorem rdT_open {u c : Value} {q : TI} {w : World} (h : RdT w (.agg #[c, u]) q) : RdEL w u q.2 := by
  obtain ⟨u', e, hu⟩ := h
  injection e with e
  simp at e
  obtain ⟨_, e2⟩ := e
  subst e2
  exact hu
theorem mkEL_le (l : List EI) : mkEL l ≤ 4 * (l.length + szEL l) := by
  induction l with
  | nil => exact Int.le_refl _
  | cons x l ih =>
    show 4 + (x.2.2.1.2.length : Int) + mkEL l ≤ 4 * (((l.length + 1 : Nat) : Int) + (szE x + szEL l))
    have : (x.2.2.1.2.length : Int) ≤ szE x := by unfold szE szD szS szI; omega
    have h0 := szE_nonneg x
    omega
theorem mkT_range (q : TI) : 0 ≤ mkT q ∧ mkT q ≤ 4 * szT q := by
  have h1 := mkEL_nonneg q.2
  have h2 := mkEL_le q.2
  unfold mkT szT
  omega
/-- so few that a walk over two of them stays in range -/
def capTS (q : TI) : Prop := capT q ∧ q.2.length ≤ 1099511627776
theorem capTS_of {q : TI} (h : szT q ≤ 1048576) : capTS q := ⟨capT_of h, by have := (szT_mem h).1; omega⟩
set_option maxHeartbeats 1000000 in
set_option maxRecDepth 100000 in
theorem szT_cal (v : Value) (x : TI) (left : Int) (w : World) (hl : capT x) (h0 : 0 ≤ left) (h1 : left ≤ 1048576) (h : RdT w v x) : Calls Tryz.prog 46 #[v, .int .i64 left] w (Postn (leftI left (szT x)) w) := by
  obtain ⟨A, c, rfl⟩ := rdT_form h
  have hb := below_al (Below.refl w.heap.size w) (.cells #[.string x.1, .slice A x.2.length c] 78)
  have kx := box_new w #[.string x.1, .slice A x.2.length c] 78
  have kx_c0 := kx.here.cell 0 _ rfl
  have kx_c1 := kx.here.cell 1 _ rfl
  obtain ⟨hl1, hl2, hl3⟩ := hl
  have hd0 := szEL_nonneg x.2
  have HSD := Lib.hid (fun (z : Int) (hz0 : 0 ≤ z) (hz1 : z ≤ 1048576) => szRateS_any (.slice A x.2.length c) x.2 z _ (by omega) hl3 hz0 hz1 ((rdT_open h).below hb))
  clear h hl3
  by_cases hs : left - x.1.size < 0
  · have HV := Lib.hid (show leftI left (szT x) = -1 by unfold leftI szT; rw [if_pos (by omega)])
    have hw : IntKind.i64.wrap (left - (x.1.size : Int)) = left - x.1.size := IntWalk.i64_in _ (by omega)
    have hneg : decide (left - (x.1.size : Int) < 0) = true := decide_eq_true hs
    clear hs kx HSD
    go_enter Tryz.func46, Tryz.ntmps46
    go_wp2
    go_ret
    exact ⟨ret_int HV.out.symm, hb⟩
  · obtain ⟨z0, hz0⟩ : ∃ z0 : Int, left - x.1.size = z0 := ⟨_, rfl⟩
    have hw : IntKind.i64.wrap (left - (x.1.size : Int)) = z0 := by rw [IntWalk.i64_in _ (by omega)]; exact hz0
    have hneg0 : decide (z0 < 0) = false := decide_eq_false (by omega)
    have HZ := Lib.hid (show 0 ≤ z0 ∧ z0 ≤ 1048576 by omega)
    have HLL := Lib.hid (show leftI left (szT x) = leftI z0 (x.2.length + szEL x.2) by unfold leftI szT; rw [show left - ((x.1.size : Int) + (x.2.length + szEL x.2)) = z0 - (x.2.length + szEL x.2) by omega])
    clear hs hz0
    go_enter Tryz.func46, Tryz.ntmps46
    go_wp2_with fail
    clear kx_c0 kx_c1 kx
    refine (HSD.out z0 HZ.out.1 HZ.out.2).mono ?_
    rintro e w1 ⟨rfl, b1⟩
    have bb1 := Lib.hid (Below.next hb b1)
    have hq : leftI z0 (x.2.length + szEL x.2) < 0 ∧ leftI z0 (x.2.length + szEL x.2) = -1 ∨ ¬ leftI z0 (x.2.length + szEL x.2) < 0 := by unfold leftI; split <;> omega
    generalize leftI z0 (x.2.length + szEL x.2) = z at *
    clear hb b1 HZ HSD
    rcases hq with ⟨h2, h3⟩ | h2
    · have hneg : decide (z < 0) = true := decide_eq_true h2
      have H3 := Lib.hid h3
      clear h2 h3
      go_wp2
      go_ret
      exact ⟨ret_int (H3.out.symm.trans HLL.out.symm), bb1.out⟩
    · have hneg : decide (z < 0) = false := decide_eq_false h2
      clear h2
      go_wp2
      go_ret
      exact ⟨ret_int HLL.out.symm, bb1.out⟩
set_option maxHeartbeats 1000000 in
set_option maxRecDepth 100000 in
theorem eqT_cal (u v : Value) (x y : TI) (w : World) (hz : capTS x) (hu : RdT w u x) (hv : RdT w v y) : Calls Tryz.prog 50 #[u, v] w (Postb (decide (x = y)) w) := by
  obtain ⟨Ap, cp, rfl⟩ := rdT_form hu
  obtain ⟨Aq, cq, rfl⟩ := rdT_form hv
  have hb : Below w.heap.size w ((w.alloc (.cells #[.string x.1, .slice Ap x.2.length cp] 25)).alloc (.cells #[.string y.1, .slice Aq y.2.length cq] 25)) := below_al (below_al (Below.refl _ _) _) _
  have kx := (box_new w #[.string x.1, .slice Ap x.2.length cp] 25).below (below_al (Below.refl _ _) (.cells #[.string y.1, .slice Aq y.2.length cq] 25))
  have ky := box_new (w.alloc (.cells #[.string x.1, .slice Ap x.2.length cp] 25)) #[.string y.1, .slice Aq y.2.length cq] 25
  rw [show (w.alloc (.cells #[.string x.1, .slice Ap x.2.length cp] 25)).heap.size = w.heap.size + 1 by simp] at ky
  have kx_c0 := kx.here.cell 0 _ rfl
  have kx_c1 := kx.here.cell 1 _ rfl
  have ky_c0 := ky.here.cell 0 _ rfl
  have ky_c1 := ky.here.cell 1 _ rfl
  have HE := Lib.hid (eqRateS_any (.slice Ap x.2.length cp) (.slice Aq y.2.length cq) x.2 y.2 _ (by have := hz.2; omega) hz.1.2.2 ((rdT_open hu).below hb) ((rdT_open hv).below hb))
  have HB := Lib.hid hb
  clear kx ky hb hu hv hz
  by_cases h1 : x.1 = y.1
  · have HV := Lib.hid (show decide (x = y) = decide (x.2 = y.2) from decide_eq_decide.2 ⟨fun e => by rw [e], fun e => Prod.ext h1 e⟩)
    rw [← h1] at ky_c0 HE HB
    have H1 := Lib.hid h1
    clear h1
    go_enter Tryz.func50, Tryz.ntmps50
    rw [← H1.out]
    go_wp2_with fail
    refine HE.out.mono ?_
    rintro e w1 ⟨rfl, b1⟩
    have bb1 := Lib.hid (Below.next HB.out b1)
    clear kx_c0 kx_c1 ky_c0 ky_c1 b1
    by_cases h3 : x.2 = y.2
    · rw [decide_eq_true h3] at HV ⊢
      clear h3
      go_wp2
      go_ret
      exact ⟨ret_bool HV.out.symm, bb1.out⟩
    · rw [decide_eq_false h3] at HV ⊢
      clear h3
      go_wp2
      go_ret
      exact ⟨ret_bool HV.out.symm, bb1.out⟩
  · have hne := bytes_neC h1
    have hne2 : (x.1.toList != y.1.toList) = true := by rw [bne, hne]; rfl
    have HV := Lib.hid (show decide (x = y) = false from decide_eq_false (fun e => h1 (by rw [e])))
    clear h1 HE
    go_enter Tryz.func50, Tryz.ntmps50
    go_wp2
    go_ret
    exact ⟨ret_bool HV.out.symm, HB.out⟩
theorem newEL_at {l : List EI} {w w' : World} {e : Ending} (h : NewEL l w e w') : ∃ v S, e = .returned v ∧ At S (OwnEP v l) w' ∧ Within S w.heap.size w'.heap.size ∧ Below w.heap.size w w' ∧ ∃ A c, v = .slice A l.length c := by
  obtain ⟨v, rfl, o, b⟩ := h
  refine ⟨v, _, rfl, (ownEL_at o).imp fun _ k => k.own, fun i hi => rangeE_mem hi, b, ?_⟩
  obtain ⟨g, e, rfl, _⟩ := o
  exact ⟨_, _, rfl⟩
set_option maxHeartbeats 2000000 in
set_option maxRecDepth 100000 in
theorem toT_new (v : Value) (x : TI) (w : World) (hz : szT x ≤ 1048576) (h : RdT w v x) : Calls Tryz.prog 48 #[v] w (NewV (fun u => OwnT u x) w) := by
  obtain ⟨hl, hx⟩ := szT_mem hz
  obtain ⟨A, c, rfl⟩ := rdT_form h
  have h3 := alloc3 w (.cells #[.string x.1, .slice A x.2.length c] 78) (.cells #[.string ⟨#[]⟩, .slice none 0 0] 25) (.cells #[.string x.1, .slice none 0 0] 25)
  have hb3 := below3 w (.cells #[.string x.1, .slice A x.2.length c] 78) (.cells #[.string ⟨#[]⟩, .slice none 0 0] 25) (.cells #[.string x.1, .slice none 0 0] 25)
  obtain ⟨W0, hW0⟩ : ∃ W0, W0 = (((w.alloc (.cells #[.string x.1, .slice A x.2.length c] 78)).alloc (.cells #[.string ⟨#[]⟩, .slice none 0 0] 25)).alloc (.cells #[.string x.1, .slice none 0 0] 25)) := ⟨_, rfl⟩
  rw [← hW0] at h3 hb3
  have kb : At [w.heap.size] (BoxAt w.heap.size #[.string x.1, .slice A x.2.length c] 78) W0 := box_at h3.1
  have kr : At [w.heap.size + 1] (BoxAt (w.heap.size + 1) #[.string ⟨#[]⟩, .slice none 0 0] 25) W0 := box_at h3.2.1
  have ko : At [w.heap.size + 1 + 1] (BoxAt (w.heap.size + 1 + 1) #[.string x.1, .slice none 0 0] 25) W0 := box_at h3.2.2.1
  have hz0 : W0.heap.size = w.heap.size + 3 := h3.2.2.2
  have HW := Lib.hid hW0
  clear h3 hW0
  have kb_c0 := kb.here.cell 0 _ rfl
  have kb_c1 := kb.here.cell 1 _ rfl
  go_enter Tryz.func48, Tryz.ntmps48
  go_wp2_with fail
  rw [← HW.out]
  refine (toRateS_any (.slice A x.2.length c) x.2 _ hl hx ((rdT_open h).below hb3)).mono ?_
  intro e w1 hnew
  obtain ⟨u, Su, rfl, o1, l1, b1, Au, cu, rfl⟩ := newEL_at hnew
  clear hnew
  have bb1 := Below.next hb3 b1
  replace kb := kb.below b1
  replace kr := kr.below b1
  replace ko := ko.below b1
  have HR := Lib.hid (newV_chgM (φ := fun u => OwnT u x) (v := .agg #[.string x.1, .slice Au x.2.length cu]) (T := [w.heap.size + 1, w.heap.size + 1 + 1]) (o1.imp fun _ h => (⟨_, rfl, h⟩ : OwnT _ x _)) (fun i hi hm => by have := (l1 i hi).1; simp at hm; omega) (fun i hi => by simp at hi; omega) (fun i hi => by have := (l1 i hi).1; omega) bb1)
  have ko_c0 := ko.here.cell 0 _ rfl
  have ko_c1 := ko.here.cell 1 _ rfl
  have ko_f0 := Lib.frozen_of_heap ko.here 0
  have ko_f1 := Lib.frozen_of_heap ko.here 1
  have kr_c0 := kr.here.cell 0 _ rfl
  have kr_c1 := kr.here.cell 1 _ rfl
  have kr_f0 := Lib.frozen_of_heap kr.here 0
  have kr_f1 := Lib.frozen_of_heap kr.here 1
  clear kb kr ko o1 b1 bb1 h kb_c0 kb_c1
  go_wp2
  refine bodyPost_ret (v := .agg #[.string x.1, .slice Au x.2.length cu]) (by simp [results, Tryz.results48, go_sem, kr_c0, kr_c1]) rfl ?_
  refine HR.out _ ?_
  repeat (first | with_reducible exact Chg.refl _ _ | with_reducible refine Chg.setCell ?_ (by simp) _)
end Go.Proofs.YtehkknphcflofaaGreatDoor

namespace Go.Proofs.YtehkknphcflofaaGreatDoor
open Go.RowKit

def MarkT (v : Value) (x : TI) (m : Int) (w : World) : Prop := ∃ u, v = .agg #[.string x.1, u] ∧ MkEP u x.2 m w
theorem mkRel_at {l : List EI} {e f : List CE} {m : Int} {W : World} {v : Value} {S : List Nat} (hl : e.length = l.length) (h : MkRel l e m l.length f W) (ho : W.ownsRow 0 54 5 v l.length (flatE f)) (h7 : ∀ b, v.ownBlock = some b → b ∈ S) (h8 : ∀ p ∈ e, ∀ b, p.2.2.2.1.ownBlock = some b → b ∈ S)
    (hS : ∀ g ∈ S, g < W.heap.size) : At S (MkEP v l m) W :=
  ⟨mkRel_end hl h ho, hS, fun w' hk => ⟨f, own_stays ho fun g hg => hk g (h7 g hg), by rw [h.1, hl], fun j x p hx hp => by
    have h3 := h.2.2 j x p hx hp
    rw [if_pos (List.getElem?_eq_some_iff.1 hx).1] at h3
    obtain ⟨a1, a2, a3, a4, a5⟩ := h3
    refine ⟨a1, a2, a3, a4, own_stays a5 fun g hg => hk g ?_⟩
    have hj := (List.getElem?_eq_some_iff.1 hp).1
    have hje : j < e.length := by have := h.1; omega
    have := h.2.1 j _ p (List.getElem?_eq_getElem hje) hp
    exact h8 _ (List.getElem_mem hje) g (this ▸ hg)⟩⟩
set_option maxHeartbeats 1000000 in
set_option maxRecDepth 100000 in
theorem markT_cal (v : Value) (x : TI) (S : List Nat) (m : Int) (w : World) (hm : m + mkT x ≤ 9223372036854775807) (hm0 : 0 ≤ m) (h : At S (OwnT v x) w) :
    Calls Tryz.prog 51 #[v, .int .i64 m] w fun e w' => e = .returned (.int .i64 (m + mkT x)) ∧ At S (MarkT v x m) w' ∧ Chg S w w' := by
  obtain ⟨A, c, rfl⟩ := ownT_form h.here
  have hbx := below_al (Below.refl w.heap.size w) (.cells #[.string x.1, .slice A x.2.length c] 25)
  have kx := box_new w #[.string x.1, .slice A x.2.length c] 25
  have ax : At S (OwnEP (.slice A x.2.length c) x.2) _ := (h.below hbx).imp fun _ k => ownT_open k
  obtain ⟨e, h4, hl, h5, h6, h7, h8⟩ := atEP_mem ax
  have kx_c0 := kx.here.cell 0 _ rfl
  have kx_c1 := kx.here.cell 1 _ rfl
  have HZ := Lib.hid (show mkT x = mkEL x.2 from rfl)
  have HBX := Lib.hid hbx
  have HLT := Lib.hid h.lt
  have HM := Lib.hid (markRateS_any _ e x.2 S m _ hm hm0 h4 hl h5 h6 h7 h8)
  have H7 := Lib.hid h7
  have H8 := Lib.hid h8
  have HL := Lib.hid hl
  clear h kx ax h4 hl h5 h6 h7 h8
  go_enter Tryz.func51, Tryz.ntmps51
  go_wp2_with fail
  clear kx_c0 kx_c1
  refine HM.out.mono ?_
  rintro e' w1 ⟨rfl, ⟨f, hf, hfr⟩, c1⟩
  have hchg := Lib.hid ((Chg.of_below HBX.out).trans c1 : Chg S w w1)
  have hall := Lib.hid ((mkRel_at HL.out hfr hf H7.out H8.out (fun i hi => Nat.lt_of_lt_of_le (HLT.out i hi) hchg.out.size)).imp fun _ k => (⟨_, rfl, k⟩ : MarkT (.agg #[.string x.1, .slice A x.2.length c]) x m _))
  clear c1 HM hf hfr
  go_wp2
  go_ret
  exact ⟨ret_int (by rw [HZ.out]), hall.out, hchg.out⟩
end Go.Proofs.YtehkknphcflofaaGreatDoor

namespace Go.Proofs.YtehkknphcflofaaGreatDoor
open Go.RowKit

/-- a fraction as data -/
abbrev QI : Type := SI × List Int
def zeroQ : QI := (zeroS, [])
/-- what RatOk answers -/
def okQ (q : QI) : Bool := okS q.1 && natOkB q.2 && decide (0 < q.2.length ∧ q.2.length ≤ 18 ∧ q.1.2.length ≤ 18 ∧ Nat.gcd (nval q.1.2).toNat (nval q.2).toNat = 1)
/-- a fraction in lowest terms, with its sign; false where it has too many limbs, or is by 0 -/
def lowQ (n : Bool) (a b : Nat) : QI × Bool :=
  if b ≠ 0 ∧ (limbs (a / Nat.gcd a b)).length ≤ 18 ∧ (limbs (b / Nat.gcd a b)).length ≤ 18 then ((mkS n (limbs (a / Nat.gcd a b)), limbs (b / Nat.gcd a b)), true) else (zeroQ, false)
def numQ (q : QI) : Int := valS q.1
def denQ (q : QI) : Nat := (nval q.2).toNat
theorem okQ_parts {q : QI} (h : okQ q = true) : okS q.1 = true ∧ natOkB q.2 = true ∧ 0 < q.2.length ∧ q.2.length ≤ 18 ∧ q.1.2.length ≤ 18 ∧ Nat.gcd (nval q.1.2).toNat (nval q.2).toNat = 1 := by
  unfold okQ at h
  rw [Bool.and_eq_true, Bool.and_eq_true, decide_eq_true_eq] at h
  exact ⟨h.1.1, h.1.2, h.2.1, h.2.2.1, h.2.2.2.1, h.2.2.2.2⟩
/-- what the functions answer -/
def makeQ (x y : SI) : QI × Bool := if okS x = true ∧ okS y = true then lowQ (x.1 != y.1) (nval x.2).toNat (nval y.2).toNat else (zeroQ, false)
def addQ (r s : QI) : QI × Bool := if okQ r = true ∧ okQ s = true then lowQ (decide (numQ r * denQ s + numQ s * denQ r < 0)) (numQ r * denQ s + numQ s * denQ r).natAbs (denQ r * denQ s) else (zeroQ, false)
def negQ (r : QI) : QI × Bool := if okQ r = true then ((negS r.1, r.2), true) else (zeroQ, false)
def mulQ (r s : QI) : QI × Bool := if okQ r = true ∧ okQ s = true then lowQ (r.1.1 != s.1.1) ((nval r.1.2).toNat * (nval s.1.2).toNat) (denQ r * denQ s) else (zeroQ, false)
def divQ (r s : QI) : QI × Bool := if okQ r = true ∧ okQ s = true then lowQ (r.1.1 != s.1.1) ((nval r.1.2).toNat * denQ s) (denQ r * (nval s.1.2).toNat) else (zeroQ, false)
def subQ (r s : QI) : QI × Bool := if (negQ s).2 = true then addQ r (negQ s).1 else (zeroQ, false)
theorem denQ_pos {q : QI} (h : okQ q = true) : 0 < denQ q := by
  have hp := okQ_parts h
  have h1 := ok_ge hp.2.1 hp.2.2.1
  have h2 := bp_pos (q.2.length - 1)
  unfold denQ
  omega
theorem limbs_18 {n : Bool} {m : Nat} (h : (limbs m).length ≤ 18) : mkS n (limbs m) = (n && decide (0 < (limbs m).length), limbs m) := by
  unfold mkS capL
  rw [if_neg (by omega)]
/-- what comes out in lowest terms is right -/
theorem lowQ_ok (n : Bool) (a b : Nat) (h : (lowQ n a b).2 = true) : okQ (lowQ n a b).1 = true := by
  unfold lowQ at h ⊢
  split
  · rename_i hc
    obtain ⟨hb, h1, h2⟩ := hc
    have hg : 0 < Nat.gcd a b := Nat.gcd_pos_of_pos_right _ (by omega)
    have hbq : b / Nat.gcd a b ≠ 0 := by
      have := Nat.div_pos (Nat.le_of_dvd (by omega) (Nat.gcd_dvd_right a b)) hg
      omega
    have hlb : 0 < (limbs (b / Nat.gcd a b)).length := by
      rcases Nat.eq_zero_or_pos (limbs (b / Nat.gcd a b)).length with h0 | h0
      · exact absurd ((limbs_zero_iff _).1 h0) hbq
      · exact h0
    have hs : okS (mkS n (limbs (a / Nat.gcd a b))) = true := by rw [mkS_limbs]; exact ofZ_ok _
    have e2 : (mkS n (limbs (a / Nat.gcd a b))).2 = limbs (a / Nat.gcd a b) := by rw [limbs_18 h1]
    unfold okQ
    simp only
    rw [hs, limbs_okL _ (by omega), e2, limbs_val, limbs_val, Int.toNat_natCast, Int.toNat_natCast]
    simp only [Bool.true_and, decide_eq_true_eq]
    exact ⟨hlb, h2, h1, Nat.gcd_div_gcd_div_gcd_of_pos_right (by omega)⟩
  · rename_i hc
    rw [if_neg hc] at h
    cases h
end Go.Proofs.YtehkknphcflofaaGreatDoor

namespace Go.Proofs.YtehkknphcflofaaGreatDoor
open Go.RowKit

/-- a value that stands for it, its limbs of the call's own, those of the two parts apart -/
def OwnQ (v : Value) (q : QI) (w : World) : Prop := ∃ u d, v = .agg #[.bool q.1.1, u, d] ∧ OwnI u q.1.2 w ∧ OwnI d q.2 w ∧ (∀ g, u.ownBlock = some g → d.ownBlock ≠ some g)
def MarkQ (v : Value) (q : QI) (m : Int) (w : World) : Prop := ∃ u d, v = .agg #[.bool q.1.1, u, d] ∧ MarkI u q.1.2 m w ∧ MarkI d q.2 (m + szS q.1) w
/-- a value that reads as it -/
def RdQ (w : World) (v : Value) (q : QI) : Prop := ∃ u d, v = .agg #[.bool q.1.1, u, d] ∧ Row w 0 w.heap.size u (intsV q.1.2) ∧ Row w 0 w.heap.size d (intsV q.2)
def szQ (q : QI) : Int := szS q.1 + szI q.2
theorem OwnQ.rd {v : Value} {q : QI} {w : World} (h : OwnQ v q w) : RdQ w v q := by
  obtain ⟨u, d, rfl, o, p, _⟩ := h
  exact ⟨u, d, rfl, o.row, p.row⟩
theorem RdQ.below {w W : World} {v : Value} {q : QI} (h : RdQ w v q) (hb : Below w.heap.size w W) : RdQ W v q := by
  obtain ⟨u, d, rfl, o, p⟩ := h
  exact ⟨u, d, rfl, (o.below hb (Nat.le_refl _)).wide (Nat.le_refl _) hb.size, (p.below hb (Nat.le_refl _)).wide (Nat.le_refl _) hb.size⟩
/-- a new fraction -/
def NewQ (q : QI) (w : World) (e : Ending) (w' : World) : Prop :=
  ∃ u d, e = .returned (.agg #[.bool q.1.1, u, d]) ∧ w'.ownsRow w.heap.size 3 1 u q.1.2.length (intsV q.1.2) ∧ w'.ownsRow w.heap.size 3 1 d q.2.length (intsV q.2) ∧ (∀ g, u.ownBlock = some g → d.ownBlock ≠ some g) ∧ Below w.heap.size w w'

set_option maxHeartbeats 400000 in
set_option maxRecDepth 100000 in
theorem eqRat_at (u v : Value) (x y : QI) (w : World) (hl : x.1.2.length ≤ 9223372036854775807) (hl2 : x.2.length ≤ 9223372036854775807) (hu : RdQ w u x) (hv : RdQ w v y) :
    Calls Tryz.prog 49 #[u, v] w fun e w' => e = .returned (.bool (decide (x = y))) ∧ Below w.heap.size w w' := by
  obtain ⟨p, d, rfl, hp, hd⟩ := hu
  obtain ⟨q, f, rfl, hq, hf⟩ := hv
  obtain ⟨Ap, cp, rfl⟩ := row_form hp
  obtain ⟨Ad, cd, rfl⟩ := row_form hd
  obtain ⟨Aq, cq, rfl⟩ := row_form hq
  obtain ⟨Af, cf, rfl⟩ := row_form hf
  simp only [intsV_length] at hp hd hq hf ⊢
  have hb : Below w.heap.size w ((w.alloc (.cells #[.bool x.1.1, .slice Ap x.1.2.length cp, .slice Ad x.2.length cd] 36)).alloc (.cells #[.bool y.1.1, .slice Aq y.1.2.length cq, .slice Af y.2.length cf] 36)) := below_al (below_al (Below.refl _ _) _) _
  have kx := (box_new w #[.bool x.1.1, .slice Ap x.1.2.length cp, .slice Ad x.2.length cd] 36).below (below_al (Below.refl _ _) (.cells #[.bool y.1.1, .slice Aq y.1.2.length cq, .slice Af y.2.length cf] 36))
  have ky := box_new (w.alloc (.cells #[.bool x.1.1, .slice Ap x.1.2.length cp, .slice Ad x.2.length cd] 36)) #[.bool y.1.1, .slice Aq y.1.2.length cq, .slice Af y.2.length cf] 36
  rw [show (w.alloc (.cells #[.bool x.1.1, .slice Ap x.1.2.length cp, .slice Ad x.2.length cd] 36)).heap.size = w.heap.size + 1 by simp] at ky
  go_enter Tryz.func49, Tryz.ntmps49
  go_wp2_with fail
  refine (eqSigned_at _ _ x.1 y.1 _ hl (rdS_below hp hb) (rdS_below hq hb)).mono ?_
  rintro e w1 ⟨rfl, b1⟩
  have bb1 := Below.next hb b1
  replace kx := kx.below b1
  replace ky := ky.below b1
  have cx2 := kx.here.cell 2 _ rfl
  have cy2 := ky.here.cell 2 _ rfl
  have hd1 := hd.below bb1 (Nat.le_refl _)
  have hf1 := hf.below bb1 (Nat.le_refl _)
  clear hp hq kx ky hd hf
  by_cases h1 : x.1 = y.1
  · rw [decide_eq_true h1]
    have H1 := Lib.hid h1
    clear h1
    go_wp2_with fail
    refine (eqIntS_any _ _ x.2 y.2 0 w.heap.size 0 w.heap.size _ hl2 hd1 hf1).mono ?_
    rintro e w2 ⟨rfl, n, rfl⟩
    by_cases h2 : x.2 = y.2
    · rw [decide_eq_true h2]
      have HV := Lib.hid (show decide (x = y) = true from decide_eq_true (Prod.ext H1.out h2))
      clear h2
      go_wp2
      go_ret
      exact ⟨ret_bool HV.out.symm, below_drewN bb1 n⟩
    · rw [decide_eq_false h2]
      have HV := Lib.hid (show decide (x = y) = false from decide_eq_false (fun e => h2 (by rw [e])))
      clear h2
      go_wp2
      go_ret
      exact ⟨ret_bool HV.out.symm, below_drewN bb1 n⟩
  · rw [decide_eq_false h1]
    have HV := Lib.hid (show decide (x = y) = false from decide_eq_false (fun e => h1 (by rw [e])))
    clear h1
    go_wp2
    go_ret
    exact ⟨ret_bool HV.out.symm, bb1⟩


/-- the blocks of the limbs of both parts -/
def partsB (u d : Value) : List Nat := u.ownBlock.toList ++ d.ownBlock.toList
theorem At.both {S T : List Nat} {φ ψ : World → Prop} {w : World} (h : At S φ w) (k : At T ψ w) : At (S ++ T) (fun w => φ w ∧ ψ w) w :=
  ⟨⟨h.here, k.here⟩, fun g hg => by rcases List.mem_append.1 hg with hg | hg; exact h.lt g hg; exact k.lt g hg,
    fun w' hk => ⟨h.stays w' fun g hg => hk g (List.mem_append_left _ hg), k.stays w' fun g hg => hk g (List.mem_append_right _ hg)⟩⟩
set_option maxHeartbeats 400000 in
set_option maxRecDepth 100000 in
theorem markRat_at (u d : Value) (x : QI) (m : Int) (w : World) (hm : m + szQ x ≤ 9223372036854775807) (hm0 : 0 ≤ m) (ou : OwnI u x.1.2 w) (od : OwnI d x.2 w) (hap : ∀ g, u.ownBlock = some g → d.ownBlock ≠ some g) :
    Calls Tryz.prog 52 #[.agg #[.bool x.1.1, u, d], .int .i64 m] w fun e w' => e = .returned (.int .i64 (m + szQ x)) ∧ At (partsB u d) (MarkQ (.agg #[.bool x.1.1, u, d]) x m) w' ∧ Chg (partsB u d) w w' := by
  obtain ⟨A, c, rfl⟩ := own_len ou
  obtain ⟨B, f, rfl⟩ := own_len od
  have hs0 : 0 ≤ szS x.1 := by unfold szS szI; omega
  have hs1 : 0 ≤ szI x.2 := by unfold szI; omega
  have HZ := Lib.hid (show szQ x = szS x.1 + szI x.2 from rfl)
  rw [HZ.out] at hm
  have hbx := below_al (Below.refl w.heap.size w) (.cells #[.bool x.1.1, .slice A x.1.2.length c, .slice B x.2.length f] 36)
  have kx := box_new w #[.bool x.1.1, .slice A x.1.2.length c, .slice B x.2.length f] 36
  have au := (own_at' ou).below hbx
  have ad := (own_at' od).below hbx
  have hltu := (own_at' ou).lt
  have hltd := (own_at' od).lt
  have dis : ∀ g ∈ (Value.slice B x.2.length f).ownBlock.toList, g ∉ (Value.slice A x.1.2.length c).ownBlock.toList := fun g hg hm => hap g (by simpa using hm) (by simpa using hg)
  have DIS := Lib.hid dis
  have HLU := Lib.hid hltu
  have HLD := Lib.hid hltd
  clear ou od hap dis hltu hltd
  go_enter Tryz.func52, Tryz.ntmps52
  go_wp2_with fail
  refine (markSigned_at _ x.1 _ m _ (by omega) hm0 (au.imp fun _ h => OwnS.mk (x := x.1) h)).mono ?_
  rintro e w1 ⟨rfl, mu, c1⟩
  replace ad := ad.chg c1 DIS.out
  replace kx := kx.chg c1 (fun i hi hm => by have := HLU.out i hm; simp at hi; omega)
  have cx2 := kx.here.cell 2 _ rfl
  have HC1 := Lib.hid c1
  have HMU := Lib.hid mu
  clear kx c1 au mu
  go_wp2_with fail
  refine (markIntS_at _ x.2 _ (m + szS x.1) _ (by omega) (by omega) ad).mono ?_
  rintro e w2 ⟨rfl, md, c2⟩
  have mu2 := HMU.out.chg c2 (fun i hi hm => DIS.out i hm hi)
  have hall := Lib.hid (show At (partsB (.slice A x.1.2.length c) (.slice B x.2.length f)) (MarkQ (.agg #[.bool x.1.1, .slice A x.1.2.length c, .slice B x.2.length f]) x m) w2 from
    (At.both mu2 md).imp fun W hh => by
      obtain ⟨⟨u', e1, hu'⟩, hd'⟩ := hh
      injection e1 with e1
      have e2 : u' = .slice A x.1.2.length c := by simpa using e1.symm
      rw [e2] at hu'
      exact ⟨_, _, rfl, hu', hd'⟩)
  have hchg := Lib.hid (show Chg (partsB (.slice A x.1.2.length c) (.slice B x.2.length f)) w w2 from
    (Chg.of_below hbx).trans ((HC1.out.more fun g hg => List.mem_append_left _ hg).trans (c2.more fun g hg => List.mem_append_right _ hg)))
  clear md c2 mu2 ad HMU
  go_wp2
  go_ret
  exact ⟨ret_int (by rw [HZ.out]; omega), hall.out, hchg.out⟩

set_option maxHeartbeats 400000 in
set_option maxRecDepth 100000 in
theorem heldRat_at (v : Value) (x : QI) (m : Int) (w : World) (hm : m + szQ x ≤ 9223372036854775807) (hm0 : 0 ≤ m) (h : MarkQ v x m w) :
    Calls Tryz.prog 53 #[v, .int .i64 m] w fun e w' => e = .returned (.int .i64 (m + szQ x)) ∧ Below w.heap.size w w' := by
  obtain ⟨u, d, rfl, ou, od⟩ := h
  obtain ⟨A, c, rfl⟩ := own_len ou
  obtain ⟨B, f, rfl⟩ := own_len od
  have hs0 : 0 ≤ szS x.1 := by unfold szS szI; omega
  have hs1 : 0 ≤ szI x.2 := by unfold szI; omega
  have HZ := Lib.hid (show szQ x = szS x.1 + szI x.2 from rfl)
  rw [HZ.out] at hm
  have hbx := below_al (Below.refl w.heap.size w) (.cells #[.bool x.1.1, .slice A x.1.2.length c, .slice B x.2.length f] 36)
  have kx := box_new w #[.bool x.1.1, .slice A x.1.2.length c, .slice B x.2.length f] 36
  have ou1 : MarkS (.agg #[.bool x.1.1, .slice A x.1.2.length c]) x.1 m _ := ⟨_, rfl, own_below ou hbx⟩
  have od1 := own_below od hbx
  clear ou od
  go_enter Tryz.func53, Tryz.ntmps53
  go_wp2_with fail
  refine (heldSigned_at _ x.1 m _ (by omega) hm0 ou1).mono ?_
  rintro e w1 ⟨rfl, b1⟩
  have bb1 := Below.next hbx b1
  replace kx := kx.below b1
  replace od1 := own_below od1 b1
  have cx2 := kx.here.cell 2 _ rfl
  have hn1 : decide (m + szS x.1 < 0) = false := decide_eq_false (by omega)
  clear ou1 kx
  go_wp2_with fail
  refine (heldIntS_at _ x.2 (m + szS x.1) _ (by omega) (by omega) od1).mono ?_
  rintro e w2 ⟨rfl, b2⟩
  have bb2 := Below.next bb1 b2
  have hn2 : decide (m + szS x.1 + szI x.2 < 0) = false := decide_eq_false (by omega)
  clear hn1
  go_wp2
  go_ret
  exact ⟨ret_int (by rw [HZ.out]; omega), bb2⟩
end Go.Proofs.YtehkknphcflofaaGreatDoor

namespace Go.Proofs.YtehkknphcflofaaGreatDoor
open Go.RowKit

/-! ### kind R: impl.Rat -/
def capQ (x : QI) : Prop := x.1.2.length ≤ 9223372036854775807 ∧ x.2.length ≤ 9223372036854775807
theorem szQ_nonneg (x : QI) : 0 ≤ szQ x := by unfold szQ szS szI; omega
theorem szQ_len {x : QI} (h : szQ x ≤ 1048576) : x.1.2.length ≤ 1048576 ∧ x.2.length ≤ 1048576 := by unfold szQ szS szI at h; omega
theorem capQ_of {x : QI} (h : szQ x ≤ 1048576) : capQ x := by have := szQ_len h; unfold capQ; omega
theorem ownQ_form {v : Value} {x : QI} {w : World} (h : OwnQ v x w) : ∃ A c B d, v = .agg #[.bool x.1.1, .slice A x.1.2.length c, .slice B x.2.length d] := by
  obtain ⟨u, d, rfl, o, p, _⟩ := h
  obtain ⟨A, c, rfl⟩ := own_len o
  obtain ⟨B, d, rfl⟩ := own_len p
  exact ⟨A, c, B, d, rfl⟩
theorem partsQ_at {u d : Value} {x : QI} {B C : Nat} {w : World} (ou : w.ownsRow B 3 1 u x.1.2.length (intsV x.1.2)) (od : w.ownsRow C 3 1 d x.2.length (intsV x.2)) (hap : ∀ g, u.ownBlock = some g → d.ownBlock ≠ some g) :
    At (partsB u d) (OwnQ (.agg #[.bool x.1.1, u, d]) x) w := (At.both (own_at' ou) (own_at' od)).imp fun _ h => ⟨u, d, rfl, h.1, h.2, hap⟩
theorem NewQ.newV {x : QI} {w w' : World} {e : Ending} (h : NewQ x w e w') : NewV (fun v => OwnQ v x) w e w' := by
  obtain ⟨u, d, rfl, o, p, hap, b⟩ := h
  exact ⟨_, partsB u d, rfl, partsQ_at o p hap, fun g hg => by
    rcases List.mem_append.1 hg with hg | hg
    · exact own_within o g hg
    · exact own_within p g hg, b⟩
theorem eqQ_cal (u v : Value) (x y : QI) (w : World) (hz : capQ x) (hu : RdQ w u x) (hv : RdQ w v y) : Calls Tryz.prog 49 #[u, v] w (Postb (decide (x = y)) w) :=
  eqRat_at u v x y w hz.1 hz.2 hu hv
theorem ownQ_open {u d : Value} {c : Value} {x : QI} {w : World} (h : OwnQ (.agg #[c, u, d]) x w) : c = .bool x.1.1 ∧ OwnI u x.1.2 w ∧ OwnI d x.2 w ∧ (∀ g, u.ownBlock = some g → d.ownBlock ≠ some g) := by
  obtain ⟨u', d', e, hu, hd, hap⟩ := h
  injection e with e
  simp at e
  obtain ⟨e1, e2, e3⟩ := e
  subst e1 e2 e3
  exact ⟨rfl, hu, hd, hap⟩
theorem markQ_cal (v : Value) (x : QI) (S : List Nat) (m : Int) (w : World) (hm : m + szQ x ≤ 9223372036854775807) (hm0 : 0 ≤ m) (h : At S (OwnQ v x) w) :
    Calls Tryz.prog 52 #[v, .int .i64 m] w fun e w' => e = .returned (.int .i64 (m + szQ x)) ∧ At S (MarkQ v x m) w' ∧ Chg S w w' := by
  obtain ⟨u, d, rfl, ou, od, hap⟩ := h.here
  have hs : ∀ g ∈ partsB u d, g ∈ S := fun g hg => by
    rcases List.mem_append.1 hg with hg | hg
    · exact toList_own (at_ints_mem h fun w' k => (ownQ_open k).2.1) g hg
    · exact toList_own (at_ints_mem h fun w' k => (ownQ_open k).2.2.1) g hg
  refine (markRat_at u d x m w hm hm0 ou od hap).mono fun e w' k => ?_
  obtain ⟨e1, k1, k2⟩ := k
  have hc := k2.more hs
  exact ⟨e1, k1.more hs (fun g hg => Nat.lt_of_lt_of_le (h.lt g hg) hc.size), hc⟩
theorem heldQ_cal (v : Value) (x : QI) (m : Int) (w : World) (hm : m + szQ x ≤ 9223372036854775807) (hm0 : 0 ≤ m) (h : MarkQ v x m w) : Calls Tryz.prog 53 #[v, .int .i64 m] w (Postn (m + szQ x) w) :=
  heldRat_at v x m w hm hm0 h

/-! ### what calls answer: a new fraction or signed number, and scalars with it -/
def PostQb (R0 : QI) (R1 : Bool) (w : World) (e : Ending) (w' : World) : Prop :=
  ∃ (v : Value) (S : List Nat), e = .returned (.tuple #[v, .bool R1]) ∧ At S (OwnQ v R0) w' ∧ Within S w.heap.size w'.heap.size ∧ Below w.heap.size w w'
end Go.Proofs.YtehkknphcflofaaGreatDoor

namespace Go.Proofs.YtehkknphcflofaaGreatDoor
open Go.RowKit

/-- how many rates of the list have this pair -/
def cntE (l : List EI) (a b : ByteArray) : Nat := l.countP fun r => decide (r.1 = a) && decide (r.2.1 = b)
def differE (l : List EI) : Bool := l.all fun r => decide (cntE l r.1 r.2.1 ≤ 1)
theorem countP_two {α : Type} {p : α → Bool} {l : List α} {i j : Nat} {x y : α} (h : i < j) (hx : l[i]? = some x) (hy : l[j]? = some y) (px : p x = true) (py : p y = true) : 2 ≤ l.countP p := by
  induction l generalizing i j with
  | nil => simp at hx
  | cons z l ih =>
    obtain ⟨j, rfl⟩ : ∃ k, j = k + 1 := ⟨j - 1, by omega⟩
    have hy' : l[j]? = some y := by simpa using hy
    rw [List.countP_cons]
    cases i with
    | zero =>
      obtain rfl : z = x := by simpa using hx
      have : 0 < l.countP p := List.countP_pos_iff.2 ⟨y, List.mem_of_getElem? hy', py⟩
      rw [if_pos px]
      omega
    | succ i =>
      have := ih (i := i) (j := j) (by omega) (by simpa using hx) hy'
      omega
theorem two_countP {α : Type} {p : α → Bool} {l : List α} (h : 2 ≤ l.countP p) : ∃ (i j : Nat) (x y : α), i < j ∧ l[i]? = some x ∧ l[j]? = some y ∧ p x = true ∧ p y = true := by
  induction l with
  | nil => simp at h
  | cons z l ih =>
    rw [List.countP_cons] at h
    by_cases hz : p z = true
    · rw [if_pos hz] at h
      obtain ⟨y, hy, py⟩ := List.countP_pos_iff.1 (show 0 < l.countP p by omega)
      obtain ⟨j, hj⟩ := List.mem_iff_getElem?.1 hy
      exact ⟨0, j + 1, z, y, by omega, rfl, by simpa using hj, hz, py⟩
    · rw [if_neg hz] at h
      obtain ⟨i, j, x, y, h1, h2, h3, h4, h5⟩ := ih (by omega)
      exact ⟨i + 1, j + 1, x, y, by omega, by simpa using h2, by simpa using h3, h4, h5⟩
theorem pair_is {r : EI} {a b : ByteArray} : ((decide (r.1 = a) && decide (r.2.1 = b)) = true) ↔ (r.1 = a ∧ r.2.1 = b) := by simp
theorem atE_le {l : List EI} {i : Nat} {x : EI} {a b : ByteArray} (hx : l[i]? = some x) (hp : x.1 = a ∧ x.2.1 = b) : atE l a b ≤ i := by
  rcases Nat.lt_or_ge i (atE l a b) with h | h
  · exfalso
    have := List.not_of_lt_findIdx (xs := l) (p := fun r => decide (r.1 = a) && decide (r.2.1 = b)) h
    rw [(List.getElem?_eq_some_iff.1 hx).2] at this
    simp at this
    exact this hp.1 hp.2
  · exact h
theorem atE_has {l : List EI} {a b : ByteArray} (h : atE l a b < l.length) : ∃ x, l[atE l a b]? = some x ∧ x.1 = a ∧ x.2.1 = b := by
  refine ⟨_, List.getElem?_eq_getElem h, ?_⟩
  have := List.findIdx_getElem (xs := l) (p := fun r : EI => decide (r.1 = a) && decide (r.2.1 = b)) (w := h)
  exact pair_is.1 this
theorem posE_self {l : List EI} {i : Nat} {x : EI} (hx : l[i]? = some x) (h : atE l x.1 x.2.1 = i) : posE l x.1 x.2.1 = i := by
  unfold posE
  rw [if_pos (by rw [h]; exact (List.getElem?_eq_some_iff.1 hx).1), h]
theorem rows_differ (l : List EI) : (List.range l.length).all (rowT l) = (l.all okE && differE l) := by
  rw [Bool.eq_iff_iff, Bool.and_eq_true, List.all_eq_true, List.all_eq_true]
  unfold differE
  rw [List.all_eq_true]
  constructor
  · intro h
    have hr : ∀ (i : Nat) x, l[i]? = some x → okE x = true ∧ posE l x.1 x.2.1 = i := fun i x hx => by
      have := h i (List.mem_range.2 (List.getElem?_eq_some_iff.1 hx).1)
      rw [rowT_at hx, Bool.and_eq_true, decide_eq_true_eq] at this
      exact this
    refine ⟨fun x hx => ?_, fun x hx => ?_⟩
    · obtain ⟨i, hi⟩ := List.mem_iff_getElem?.1 hx
      exact (hr i x hi).1
    · rw [decide_eq_true_eq]
      rcases Nat.lt_or_ge 1 (cntE l x.1 x.2.1) with hc | hc
      · exfalso
        obtain ⟨i, j, y, z, hij, hy, hz, py, pz⟩ := two_countP (show 2 ≤ l.countP _ from hc)
        have py := pair_is.1 py
        have pz := pair_is.1 pz
        have h1 := (hr j z hz).2
        rw [pz.1, pz.2] at h1
        have h2 := atE_le hy py
        unfold posE at h1
        split at h1 <;> omega
      · exact hc
  · rintro ⟨h1, h2⟩ i hi
    have hil := List.mem_range.1 hi
    have hx : l[i]? = some l[i] := List.getElem?_eq_getElem hil
    rw [rowT_at hx, h1 _ (List.getElem_mem hil), Bool.true_and, decide_eq_true_eq]
    refine posE_self hx ?_
    have hle := atE_le hx ⟨rfl, rfl⟩
    rcases Nat.lt_or_eq_of_le hle with hlt | he
    · exfalso
      obtain ⟨y, hy, py⟩ := atE_has (show atE l l[i].1 l[i].2.1 < l.length by omega)
      have := countP_two (p := fun r : EI => decide (r.1 = l[i].1) && decide (r.2.1 = l[i].2.1)) hlt hy hx (pair_is.2 py) (pair_is.2 ⟨rfl, rfl⟩)
      have h3 := h2 _ (List.getElem_mem hil)
      rw [decide_eq_true_eq] at h3
      unfold cntE at h3
      omega
    · exact he
theorem okT_pairs (t : TI) : okT t = (knownC t.1 && (decide (t.2.length ≤ 12) && (t.2.all okE && differE t.2))) := by rw [okT_rows, rows_differ]
theorem cntE_take {l : List EI} {k : Nat} {x : EI} (h : l[k]? = some x) (a b : ByteArray) : cntE (l.take (k + 1)) a b = cntE (l.take k) a b + if x.1 = a ∧ x.2.1 = b then 1 else 0 := by
  have hj := (List.getElem?_eq_some_iff.1 h).1
  unfold cntE
  rw [List.take_succ_eq_append_getElem hj, List.countP_append, (List.getElem?_eq_some_iff.1 h).2, List.countP_singleton]
  simp only [pair_is]
theorem cntE_le (l : List EI) (a b : ByteArray) : cntE l a b ≤ l.length := List.countP_le_length
theorem all_okE_bad {l : List EI} {x : EI} (h : x ∈ l) (hx : ¬ okE x = true) : l.all okE = false := by
  rw [Bool.eq_false_iff]
  intro ha
  exact hx (List.all_eq_true.1 ha x h)
end Go.Proofs.YtehkknphcflofaaGreatDoor

namespace Go.Proofs.YtehkknphcflofaaGreatDoor
open Go.RowKit

/-- a parameter's box, new -/
theorem own_up {w w' : World} {base n : Nat} {e : TypeId} {v : Value} {xs : List Value} (h : w.ownsRow base e 1 v n xs) (hb : Below w.heap.size w w') : w'.ownsRow base e 1 v n xs := own_below h hb

set_option maxHeartbeats 400000 in
set_option maxRecDepth 100000 in
theorem specIntOk_any (v : Value) (x : SI) (w : World) (hl : x.2.length ≤ 1048576) (h : RdS w v x) :
    Calls Tryz.prog 155 #[v] w fun e w' => e = .returned (.bool (okS x)) ∧ Below w.heap.size w w' := by
  obtain ⟨n, xs⟩ := x
  obtain ⟨u, rfl, hp⟩ := h
  obtain ⟨A, c, rfl⟩ := row_form hp
  rw [intsV_length] at hp ⊢
  simp only at hl hp ⊢
  have hbx : Below w.heap.size w (w.alloc (.cells #[.bool n, .slice A xs.length c] 30)) := below_al (Below.refl _ _) _
  have HV := Lib.hid (show okS (n, xs) = (natOkB xs && (!n || decide (0 < xs.length))) from rfl)
  by_cases ok : natOkB xs = true
  · rw [ok] at HV
    go_enter Tryz.func155, Tryz.ntmps155
    go_wp2_with fail
    refine (specNatOk_any _ xs 0 w.heap.size _ hl (hp.below hbx (Nat.le_refl _))).mono ?_
    rintro e w1 ⟨rfl, rfl⟩
    rw [ok]
    cases n with
    | false =>
      go_wp2
      go_ret
      exact ⟨ret_bool (by rw [HV.out]; rfl), hbx⟩
    | true =>
      go_wp2
      go_ret
      exact ⟨ret_bool (by rw [HV.out]; simp), hbx⟩
  · have ok' : natOkB xs = false := by simpa using ok
    rw [ok'] at HV
    clear ok
    go_enter Tryz.func155, Tryz.ntmps155
    go_wp2_with fail
    refine (specNatOk_any _ xs 0 w.heap.size _ hl (hp.below hbx (Nat.le_refl _))).mono ?_
    rintro e w1 ⟨rfl, rfl⟩
    rw [ok']
    go_wp2
    go_ret
    exact ⟨ret_bool (by rw [HV.out]; rfl), hbx⟩

set_option maxHeartbeats 1000000 in
set_option maxRecDepth 100000 in
theorem l04Make_any (n : Bool) (v : Value) (xs : List Int) (base : Nat) (w : World) (hl : xs.length ≤ 1048576) (ho : w.ownsRow base 3 1 v xs.length (intsV xs)) :
    Calls Tryz.prog 142 #[.bool n, v] w (NewS (mkS n (trimL xs)) w) := by
  obtain ⟨i0, hi0, hz0, hz1, hz2⟩ := info_parts intInfo
  have hbx : Below w.heap.size w (w.alloc (.cells #[.bool false, .slice none 0 0] 30)) := below_al (Below.refl _ _) _
  obtain ⟨A, c, rfl⟩ := own_len ho
  have HO := Lib.hid ho
  clear ho
  have hcl : (capL (trimL xs)).length ≤ 50 := by
    unfold capL
    split
    · simp
    · omega
  have HR := Lib.hid (show mkS n (trimL xs) = (n && decide (0 < (capL (trimL xs)).length), capL (trimL xs)) from rfl)
  have hmade : ((w.alloc (.cells #[.bool false, .slice none 0 0] 30)).alloc (.cells #[] 3)).ownsRow w.heap.size 3 1 (.slice (some ⟨w.heap.size + 1, 0, none⟩) 0 0) 0 [] := by
    have h := World.ownsRow_made (base := w.heap.size) (e := 3) (size := 1) (w.alloc (.cells #[.bool false, .slice none 0 0] 30)) #[] 0 hbx.size (Nat.zero_le _) rfl
    simpa using h
  have hbx2 := below_al hbx (.cells #[] 3)
  have HM := Lib.hid hmade
  clear hmade
  have hone : Hid (∀ l : List Int, ∀ u ∈ intsV l, u.oneCell' = true) := Lib.hid (fun l u hu => by obtain ⟨x, _, rfl⟩ := List.mem_map.1 hu; rfl)
  have hsz1 : (w.alloc (.cells #[.bool false, .slice none 0 0] 30)).heap.size = w.heap.size + 1 := by simp
  cases n
  all_goals
    go_enter Tryz.func142, Tryz.ntmps142
    go_wp2_with fail
    refine (specCap_any _ xs base _ hl (own_up HO.out hbx)).mono ?_
    rintro e w1 ⟨rfl, v1, rfl, o1⟩
    have HO1 := Lib.hid (own_alloc o1 (.cells #[] 3))
    have HR2 := HR.out
    generalize capL (trimL xs) = ys at *
    obtain ⟨A1, c1, rfl⟩ := own_len o1
    have HRR := Lib.hid HR2
    clear o1 HR2 HR
    go_wp2_with (at_builtin; refine append_owned rfl _ _ 28 rfl w.heap.size 3 i0 (.int .i64 0) 8 Tryz.underlying28 hi0 hz0 hz1 hz2 rfl _ 0 [] rfl HM.out _ ys.length base 3 (intsV ys) rfl HO1.out (hone.out ys) (by unfold maxLen; omega) (by omega) hbx2.size ?_)
    intro v2 w2 o2 g2
    obtain ⟨A2, c2, rfl⟩ := own_len o2
    have b2 : Below w.heap.size w w2 := hbx2.grown g2 hbx2.size (fun k hk => by cases hk; show w.heap.size ≤ w.heap.size + 1; omega)
    have hbox : At [w.heap.size] (BoxAt w.heap.size #[.bool false, .slice none 0 0] 30) w2 :=
      ((box_new w #[.bool false, .slice none 0 0] 30).below (below_al (Below.refl _ _) (.cells #[] 3))).chg (Chg.of_grown g2) (fun i hi hm => by simp at hi; simp [Value.ownBlock] at hm; omega)
    have cz0 : w2.cell? ⟨w.heap.size, 0, none⟩ = some (.bool false) := hbox.here.cell 0 _ rfl
    have cz1 : w2.cell? ⟨w.heap.size, 1, none⟩ = some (.slice none 0 0) := hbox.here.cell 1 _ rfl
    have fz0 := Lib.frozen_of_heap hbox.here 0
    have fz1 := Lib.frozen_of_heap hbox.here 1
    have HO2 := Lib.hid o2
    have HBX := Lib.hid hbox
    have HB2 := Lib.hid b2
    clear o2 g2 hbox b2 hbx2 hbx
    go_wp2
    refine bodyPost_ret (v := .agg #[.bool _, .slice A2 ys.length c2]) (by simp [results, Tryz.results142, go_sem, cz0, cz1]; rfl) rfl ?_
    rw [HRR.out]
    refine ⟨.slice A2 ys.length c2, rfl, ?_, below_set2 HB2.out (Nat.le_refl _)⟩
    have hne := Lib.ownBlock_ne HO2.out HBX.out.here (by decide)
    refine own_stays HO2.out fun i hi => ?_
    have : i ≠ w.heap.size := fun e => hne (by rw [hi, e])
    exact (Below.heap_setCell _ _ _ _ this).trans (Below.heap_setCell _ _ _ _ this)

/-- a result that lies in its cell at block r -/
theorem newS_ret {r : Nat} {u c0 c1 : Value} {x : SI} {w W : World} {B : Nat} (hb : BoxAt r #[c0, c1] 30 W) (o : W.ownsRow B 3 1 u x.2.length (intsV x.2)) (hB : w.heap.size ≤ B) (hr : w.heap.size ≤ r) (hW : Below w.heap.size w W) :
    NewS x w (.returned (.agg #[.bool x.1, u])) ((W.setCell ⟨r, 0, none⟩ (.bool x.1)).setCell ⟨r, 1, none⟩ u) := by
  have hne := Lib.ownBlock_ne o hb (by decide)
  refine ⟨u, rfl, own_low (own_stays o fun i hi => ?_) hB, below_set2 hW hr⟩
  have : i ≠ r := fun e => hne (by rw [hi, e])
  exact (Below.heap_setCell _ _ _ _ this).trans (Below.heap_setCell _ _ _ _ this)
theorem newS_zero {w W : World} (hW : Below w.heap.size w W) : NewS zeroS w (.returned (.agg #[.bool false, .slice none 0 0])) W := ⟨_, rfl, World.ownsRow_nil _ _ _ _, hW⟩
theorem ok_trimL {xs : List Int} (h : natOkB xs = true) : trimL xs = limbs (nval xs).toNat := by rw [trim_limbs xs (natOk_parts h).1]
theorem negS_mk {x : SI} (h : okS x = true) : mkS (!x.1) (trimL x.2) = negS x := by
  have hp := okS_parts h
  have h0 := nval_ok hp.1
  unfold negS
  rw [if_pos h, ok_trimL hp.1, mkS_limbs]
  congr 1
  unfold valS
  cases x.1 <;> simp <;> omega
set_option maxHeartbeats 1000000 in
set_option maxRecDepth 100000 in
theorem specIntNeg_any (v : Value) (x : SI) (w : World) (hl : x.2.length ≤ 1048576) (h : OwnS v x w) :
    Calls Tryz.prog 312 #[v] w (NewS (negS x) w) := by
  obtain ⟨u, rfl, ho⟩ := h
  obtain ⟨A, c, rfl⟩ := own_len ho
  have hbb : Below w.heap.size w ((w.alloc (.cells #[.bool x.1, .slice A x.2.length c] 30)).alloc (.cells #[.bool false, .slice none 0 0] 30)) := below_al (below_al (Below.refl _ _) _) _
  have kb := (box_new w #[.bool x.1, .slice A x.2.length c] 30).below (below_al (Below.refl _ _) (.cells #[.bool false, .slice none 0 0] 30))
  have kr := box_new (w.alloc (.cells #[.bool x.1, .slice A x.2.length c] 30)) #[.bool false, .slice none 0 0] 30
  rw [show (w.alloc (.cells #[.bool x.1, .slice A x.2.length c] 30)).heap.size = w.heap.size + 1 by simp] at kr
  have hoB := own_below ho hbb
  have hrd : RdS _ (.agg #[.bool x.1, .slice A x.2.length c]) x := (OwnS.mk (x := x) (ownI_of hoB)).rd
  by_cases ok : okS x = true
  · have HV := Lib.hid (negS_mk ok)
    go_enter Tryz.func312, Tryz.ntmps312
    go_wp2_with fail
    refine (specIntOk_any _ x _ hl hrd).mono ?_
    rintro e w1 ⟨rfl, b1⟩
    rw [ok]
    clear ok
    have bb1 := Below.next hbb b1
    replace kb := kb.below b1
    replace kr := kr.below b1
    have ho1 := own_below hoB b1
    have cb0 := kb.here.cell 0 _ rfl
    have cb1 := kb.here.cell 1 _ rfl
    clear hoB hrd ho
    go_wp2_with fail
    refine (l04Make_any _ _ x.2 0 _ hl ho1).mono ?_
    rintro e w2 ⟨u2, rfl, o2, b2⟩
    obtain ⟨A2, c2, rfl⟩ := own_len o2
    have bb2 := Below.next bb1 b2
    replace kr := kr.below b2
    have cz0 := kr.here.cell 0 _ rfl
    have cz1 := kr.here.cell 1 _ rfl
    have fz0 := Lib.frozen_of_heap kr.here 0
    have fz1 := Lib.frozen_of_heap kr.here 1
    have HO2 := Lib.hid o2
    have HK := Lib.hid kr
    clear o2 kr kb cb0 cb1 ho1
    go_wp2
    refine bodyPost_ret (v := .agg #[.bool _, .slice A2 _ c2]) (by simp [results, Tryz.results312, go_sem, cz0, cz1]; exact ⟨rfl, rfl⟩) rfl ?_
    rw [← HV.out]
    exact newS_ret HK.out.here HO2.out bb1.size (by omega) bb2
  · have ok' : okS x = false := by simpa using ok
    have HV := Lib.hid (show negS x = zeroS by unfold negS; rw [if_neg ok])
    clear ok
    go_enter Tryz.func312, Tryz.ntmps312
    go_wp2_with fail
    refine (specIntOk_any _ x _ hl hrd).mono ?_
    rintro e w1 ⟨rfl, b1⟩
    rw [ok']
    have bb1 := Below.next hbb b1
    replace kr := kr.below b1
    have cz0 := kr.here.cell 0 _ rfl
    have cz1 := kr.here.cell 1 _ rfl
    have fz0 := Lib.frozen_of_heap kr.here 0
    have fz1 := Lib.frozen_of_heap kr.here 1
    clear kb hoB hrd ho
    go_wp2
    refine bodyPost_ret (v := .agg #[.bool false, .slice none 0 0]) (by simp [results, Tryz.results312, go_sem, cz0, cz1]) rfl ?_
    rw [HV.out]
    exact newS_zero (below_set2 bb1 (by omega))

theorem trimL_limbs (m : Nat) : trimL (limbs m) = limbs m := trim_last _ (limbs_lastN m)
theorem min_limbs : limbs 9223372036854775808 = [854775808, 223372036, 9] := by
  rw [limbs_pos _ (by decide), limbs_pos _ (by decide), limbs_pos _ (by decide), limbs, dif_pos (by decide)]
  rfl
theorem ofZ_neg {n : Int} (h : n < 0) : mkS true (trimL (limbs (-n).toNat)) = ofZ n := by
  rw [trimL_limbs, mkS_limbs]
  congr 1
  simp
  omega
theorem ofZ_pos {n : Int} (h : ¬ n < 0) : mkS false (trimL (limbs n.toNat)) = ofZ n := by
  rw [trimL_limbs, mkS_limbs]
  congr 1
  simp
  omega
theorem Row.lit3 (w : World) (x y z : Value) (t : TypeId) : (w.alloc (.cells #[x, y, z] t)).ownsRow w.heap.size t 1 (.slice (some ⟨w.heap.size, 0, none⟩) 3 3) 3 [x, y, z] := by
  have h := World.ownsRow_lit (e := t) (size := 1) (base := w.heap.size) w #[x, y, z] 3 (Nat.le_refl _) (by unfold maxLen; omega) rfl
  simpa using h

set_option maxHeartbeats 1000000 in
set_option maxRecDepth 100000 in
theorem specIntOf_any (n : Int) (w : World) (h0 : -9223372036854775808 ≤ n) (h1 : n ≤ 9223372036854775807) :
    Calls Tryz.prog 70 #[.int .i64 n] w (NewS (ofZ n) w) := by
  have hbb : Below w.heap.size w (w.alloc (.cells #[.bool false, .slice none 0 0] 30)) := below_al (Below.refl _ _) _
  have kr := box_new w #[.bool false, .slice none 0 0] 30
  by_cases hmin : n = -9223372036854775808
  · subst hmin
    have HV := Lib.hid (show mkS true (trimL [854775808, 223372036, 9]) = ofZ (-9223372036854775808) by rw [← min_limbs]; exact ofZ_neg (n := -9223372036854775808) (by decide))
    have ho := Row.lit3 (w.alloc (.cells #[.bool false, .slice none 0 0] 30)) (.int .i64 854775808) (.int .i64 223372036) (.int .i64 9) 3
    rw [show (w.alloc (.cells #[.bool false, .slice none 0 0] 30)).heap.size = w.heap.size + 1 by simp] at ho
    have bb1 := below_al hbb (.cells #[.int .i64 854775808, .int .i64 223372036, .int .i64 9] 3)
    replace kr := kr.below (below_al (Below.refl _ _) (.cells #[.int .i64 854775808, .int .i64 223372036, .int .i64 9] 3))
    have HO := Lib.hid ho
    clear ho
    go_enter Tryz.func70, Tryz.ntmps70
    go_wp2_with fail
    refine (l04Make_any _ _ [854775808, 223372036, 9] (w.heap.size + 1) _ (by decide) HO.out).mono ?_
    rintro e w2 ⟨u2, rfl, o2, b2⟩
    obtain ⟨A2, c2, rfl⟩ := own_len o2
    have bb2 := Below.next bb1 b2
    replace kr := kr.below b2
    have cz0 := kr.here.cell 0 _ rfl
    have cz1 := kr.here.cell 1 _ rfl
    have fz0 := Lib.frozen_of_heap kr.here 0
    have fz1 := Lib.frozen_of_heap kr.here 1
    have HO2 := Lib.hid o2
    have HK := Lib.hid kr
    clear o2 kr
    go_wp2
    refine bodyPost_ret (v := .agg #[.bool _, .slice A2 _ c2]) (by simp [results, Tryz.results70, go_sem, cz0, cz1]; exact ⟨rfl, rfl⟩) rfl ?_
    rw [← HV.out]
    exact newS_ret HK.out.here HO2.out bb1.size (by omega) bb2
  · have hmb : (n == -9223372036854775808) = false := by rw [beq_eq_false_iff_ne]; exact hmin
    by_cases hneg : n < 0
    · have HV := Lib.hid (ofZ_neg hneg)
      have hm2 : -9223372036854775807 ≤ n := by omega
      clear hmin h0
      go_enter Tryz.func70, Tryz.ntmps70
      go_wp2_with fail
      refine (specNatOf_any (-n) _ (by omega)).mono ?_
      rintro e w1 ⟨u1, rfl, o1, b1⟩
      have bb1 := Below.next hbb b1
      replace kr := kr.below b1
      go_wp2_with fail
      refine (l04Make_any _ _ (limbs (-n).toNat) _ _ (Nat.le_trans (limbs_length_le _ 3 (by show _ < (1000000000 * (1000000000 * (1000000000 * 1)) : Int); omega)) (by decide)) o1).mono ?_
      rintro e w2 ⟨u2, rfl, o2, b2⟩
      obtain ⟨A2, c2, rfl⟩ := own_len o2
      have bb2 := Below.next bb1 b2
      replace kr := kr.below b2
      have cz0 := kr.here.cell 0 _ rfl
      have cz1 := kr.here.cell 1 _ rfl
      have fz0 := Lib.frozen_of_heap kr.here 0
      have fz1 := Lib.frozen_of_heap kr.here 1
      have HO2 := Lib.hid o2
      have HK := Lib.hid kr
      clear o2 kr o1
      go_wp2
      refine bodyPost_ret (v := .agg #[.bool _, .slice A2 _ c2]) (by simp [results, Tryz.results70, go_sem, cz0, cz1]; exact ⟨rfl, rfl⟩) rfl ?_
      rw [← HV.out]
      exact newS_ret HK.out.here HO2.out bb1.size (by omega) bb2
    · have HV := Lib.hid (ofZ_pos hneg)
      clear hmin h0
      go_enter Tryz.func70, Tryz.ntmps70
      go_wp2_with fail
      refine (specNatOf_any n _ (by omega)).mono ?_
      rintro e w1 ⟨u1, rfl, o1, b1⟩
      have bb1 := Below.next hbb b1
      replace kr := kr.below b1
      go_wp2_with fail
      refine (l04Make_any _ _ (limbs n.toNat) _ _ (Nat.le_trans (limbs_length_le _ 3 (by show _ < (1000000000 * (1000000000 * (1000000000 * 1)) : Int); omega)) (by decide)) o1).mono ?_
      rintro e w2 ⟨u2, rfl, o2, b2⟩
      obtain ⟨A2, c2, rfl⟩ := own_len o2
      have bb2 := Below.next bb1 b2
      replace kr := kr.below b2
      have cz0 := kr.here.cell 0 _ rfl
      have cz1 := kr.here.cell 1 _ rfl
      have fz0 := Lib.frozen_of_heap kr.here 0
      have fz1 := Lib.frozen_of_heap kr.here 1
      have HO2 := Lib.hid o2
      have HK := Lib.hid kr
      clear o2 kr o1
      go_wp2
      refine bodyPost_ret (v := .agg #[.bool _, .slice A2 _ c2]) (by simp [results, Tryz.results70, go_sem, cz0, cz1]; exact ⟨rfl, rfl⟩) rfl ?_
      rw [← HV.out]
      exact newS_ret HK.out.here HO2.out bb1.size (by omega) bb2
end Go.Proofs.YtehkknphcflofaaGreatDoor

namespace Go.Proofs.YtehkknphcflofaaGreatDoor
open Go.RowKit

set_option maxHeartbeats 2000000 in
set_option maxRecDepth 100000 in
theorem specIntCmp_any (vx vy : Value) (x y : SI) (w : World) (hlx : x.2.length ≤ 1048576) (hly : y.2.length ≤ 1048576) (hx : OwnS vx x w) (hy : OwnS vy y w) :
    Calls Tryz.prog 284 #[vx, vy] w fun e w' => e = .returned (.int .i64 (cmpS x y)) ∧ Below w.heap.size w w' := by
  obtain ⟨ux, rfl, hox⟩ := hx
  obtain ⟨uy, rfl, hoy⟩ := hy
  obtain ⟨Ax, cx, rfl⟩ := own_len hox
  obtain ⟨Ay, cy, rfl⟩ := own_len hoy
  have hbb : Below w.heap.size w ((w.alloc (.cells #[.bool x.1, .slice Ax x.2.length cx] 30)).alloc (.cells #[.bool y.1, .slice Ay y.2.length cy] 30)) := below_al (below_al (Below.refl _ _) _) _
  have kx := (box_new w #[.bool x.1, .slice Ax x.2.length cx] 30).below (below_al (Below.refl _ _) (.cells #[.bool y.1, .slice Ay y.2.length cy] 30))
  have ky := box_new (w.alloc (.cells #[.bool x.1, .slice Ax x.2.length cx] 30)) #[.bool y.1, .slice Ay y.2.length cy] 30
  rw [show (w.alloc (.cells #[.bool x.1, .slice Ax x.2.length cx] 30)).heap.size = w.heap.size + 1 by simp] at ky
  have ox := own_below hox hbb
  have oy := own_below hoy hbb
  have rdx := (OwnS.mk (x := x) (ownI_of ox)).rd
  clear hox hoy
  by_cases okx : okS x = true
  · go_enter Tryz.func284, Tryz.ntmps284
    go_wp2_with fail
    refine (specIntOk_any _ x _ hlx rdx).mono ?_
    rintro e w1 ⟨rfl, b1⟩
    rw [okx]
    have bb1 := Below.next hbb b1
    replace kx := kx.below b1
    replace ky := ky.below b1
    replace ox := own_below ox b1
    replace oy := own_below oy b1
    have cy0 := ky.here.cell 0 _ rfl
    have cy1 := ky.here.cell 1 _ rfl
    clear rdx
    go_wp2_with fail
    refine (specIntOk_any _ y w1 hly (OwnS.mk (x := y) (ownI_of oy)).rd).mono ?_
    rintro e w2 ⟨rfl, b2⟩
    have bb2 := Below.next bb1 b2
    replace kx := kx.below b2
    replace ky := ky.below b2
    replace ox := own_below ox b2
    replace oy := own_below oy b2
    clear cy0 cy1
    by_cases oky : okS y = true
    · rw [oky]
      have HV := Lib.hid (show cmpS x y = cmpI (valS x) (valS y) by unfold cmpS; rw [if_pos ⟨okx, oky⟩])
      have px := okS_parts okx
      have py := okS_parts oky
      have h0x := nval_ok px.1
      have h0y := nval_ok py.1
      have Dx := Lib.hid (natOk_parts px.1)
      have Dy := Lib.hid (natOk_parts py.1)
      have cx0 := kx.here.cell 0 _ rfl
      have cx1 := kx.here.cell 1 _ rfl
      have cy0 := ky.here.cell 0 _ rfl
      have cy1 := ky.here.cell 1 _ rfl
      have hpx : x.1 = true → 0 < nval x.2 := fun h => okS_pos okx (px.2 h)
      have hpy : y.1 = true → 0 < nval y.2 := fun h => okS_pos oky (py.2 h)
      have HPX := Lib.hid hpx
      have HPY := Lib.hid hpy
      have rx := (ownI_of ox).row
      have ry := (ownI_of oy).row
      clear px py hpx hpy okx oky kx ky
      cases hx1 : x.1 <;> cases hy1 : y.1
      · rw [hx1] at cx0
        rw [hy1] at cy0
        have HC := Lib.hid (show cmpI (valS x) (valS y) = cmpI (nval x.2) (nval y.2) by unfold valS; rw [hx1, hy1]; rfl)
        clear hx1 hy1
        go_wp2_with fail
        refine (specCmp_any _ _ x.2 y.2 0 _ 0 _ w2 hlx hly ⟨Dx.out.1, Dx.out.2.2⟩ ⟨Dy.out.1, Dy.out.2.2⟩ rx ry).mono ?_
        rintro e w' ⟨rfl, q, rfl⟩
        go_wp2
        go_ret
        exact ⟨ret_int (by rw [HV.out, HC.out]), below_drewN bb2 q⟩
      · rw [hx1] at cx0
        rw [hy1] at cy0
        have HC := Lib.hid (show cmpI (valS x) (valS y) = 1 by have := HPY.out hy1; unfold valS; rw [hx1, hy1]; simp; unfold cmpI; rw [if_neg (by omega), if_pos (by omega)])
        clear hx1 hy1
        go_wp2
        go_ret
        exact ⟨ret_int (by rw [HV.out, HC.out]), bb2⟩
      · rw [hx1] at cx0
        rw [hy1] at cy0
        have HC := Lib.hid (show cmpI (valS x) (valS y) = -1 by have := HPX.out hx1; unfold valS; rw [hx1, hy1]; simp; unfold cmpI; rw [if_pos (by omega)])
        clear hx1 hy1
        go_wp2
        go_ret
        exact ⟨ret_int (by rw [HV.out, HC.out]), bb2⟩
      · rw [hx1] at cx0
        rw [hy1] at cy0
        have HC := Lib.hid (show cmpI (valS x) (valS y) = cmpI (nval y.2) (nval x.2) by unfold valS; rw [hx1, hy1]; simp; unfold cmpI; split <;> split <;> (try split) <;> (try split) <;> omega)
        clear hx1 hy1
        go_wp2_with fail
        refine (specCmp_any _ _ y.2 x.2 0 _ 0 _ w2 hly hlx ⟨Dy.out.1, Dy.out.2.2⟩ ⟨Dx.out.1, Dx.out.2.2⟩ ry rx).mono ?_
        rintro e w' ⟨rfl, q, rfl⟩
        go_wp2
        go_ret
        exact ⟨ret_int (by rw [HV.out, HC.out]), below_drewN bb2 q⟩
    · have oky' : okS y = false := by simpa using oky
      have HV := Lib.hid (show cmpS x y = 0 by unfold cmpS; rw [if_neg (fun h => oky h.2)])
      rw [oky']
      clear oky kx ky
      go_wp2
      go_ret
      exact ⟨ret_int HV.out.symm, bb2⟩
  · have okx' : okS x = false := by simpa using okx
    have HV := Lib.hid (show cmpS x y = 0 by unfold cmpS; rw [if_neg (fun h => okx h.1)])
    clear okx
    go_enter Tryz.func284, Tryz.ntmps284
    go_wp2_with fail
    refine (specIntOk_any _ x _ hlx rdx).mono ?_
    rintro e w1 ⟨rfl, b1⟩
    rw [okx']
    have bb1 := Below.next hbb b1
    clear kx ky rdx
    go_wp2
    go_ret
    exact ⟨ret_int HV.out.symm, bb1⟩

set_option maxHeartbeats 400000 in
set_option maxRecDepth 100000 in
theorem specIntSign_any (v : Value) (x : SI) (w : World) (hl : x.2.length ≤ 1048576) (h : OwnS v x w) :
    Calls Tryz.prog 237 #[v] w fun e w' => e = .returned (.int .i64 (cmpS x zeroS)) ∧ Below w.heap.size w w' := by
  obtain ⟨u, rfl, ho⟩ := h
  obtain ⟨A, c, rfl⟩ := own_len ho
  have hbb : Below w.heap.size w (w.alloc (.cells #[.bool x.1, .slice A x.2.length c] 30)) := below_al (Below.refl _ _) _
  have hoB := OwnS.mk (x := x) (ownI_of (own_below ho hbb))
  have hz : OwnS (.agg #[.bool false, .slice none 0 0]) zeroS (w.alloc (.cells #[.bool x.1, .slice A x.2.length c] 30)) := ⟨_, rfl, World.ownsRow_nil _ _ _ _⟩
  go_enter Tryz.func237, Tryz.ntmps237
  go_wp2_with fail
  refine (specIntCmp_any _ _ x zeroS _ hl (by decide) hoB hz).mono ?_
  rintro e w1 ⟨rfl, b1⟩
  go_wp2
  go_ret
  exact ⟨rfl, Below.next hbb b1⟩
end Go.Proofs.YtehkknphcflofaaGreatDoor

namespace Go.Proofs.YtehkknphcflofaaGreatDoor
open Go.RowKit

theorem At.behind {S : List Nat} {φ : World → Prop} {w w1 w2 : World} (h : At S φ w) (hb : Below w1.heap.size w1 w2) (hh : w1.heap = w.heap) : At S φ w2 :=
  (At.move (w' := w1) h (fun _ _ => by rw [hh]) (by rw [hh]; exact Nat.le_refl _)).below hb
theorem Chg.drew1 {T : List Nat} {w w1 : World} (h : Chg T w w1) : Chg T w w1.drew := ⟨h.os, h.tape, h.output, h.size, h.block⟩
theorem mk_add {n : Bool} {a b : List Int} (oa : natOkB a = true) (ob : natOkB b = true) : mkS n (trimL (addL a b 0)) = ofZ (if n = true then -(nval a + nval b) else nval a + nval b) := by
  have hv := addL_val a b 0 (natOk_parts oa).1 (natOk_parts ob).1 (by omega) (by omega)
  have h1 := nval_ok oa
  have h2 := nval_ok ob
  rw [trim_limbs _ hv.2.1, hv.1, mkS_limbs]
  congr 1
  split <;> omega
theorem mk_sub {n : Bool} {a b : List Int} (oa : natOkB a = true) (ob : natOkB b = true) (hle : nval b ≤ nval a) : mkS n (trimL (trimL (subL a b 0))) = ofZ (if n = true then -(nval a - nval b) else nval a - nval b) ∧ (subL a b 0).length = a.length := by
  have pa := natOk_parts oa
  have pb := natOk_parts ob
  have hll := len_of_le a b pa.1 ⟨pb.1, pb.2.2⟩ hle
  have hv := subL_val a b 0 pa.1 pb.1 hll (by omega) (by omega) (by omega)
  have h1 := nval_ok oa
  have h2 := nval_ok ob
  refine ⟨?_, hv.2.2⟩
  rw [trim_limbs (subL a b 0) hv.2.1, trimL_limbs, hv.1, mkS_limbs]
  congr 1
  split <;> omega

set_option maxHeartbeats 4000000 in
set_option maxRecDepth 100000 in
theorem l04Add_any (vx vy : Value) (x y : SI) (w : World) (okx : okS x = true) (oky : okS y = true) (hx : OwnS vx x w) (hy : OwnS vy y w) :
    Calls Tryz.prog 203 #[vx, vy] w (NewS (ofZ (valS x + valS y)) w) := by
  obtain ⟨ux, rfl, hox⟩ := hx
  obtain ⟨uy, rfl, hoy⟩ := hy
  obtain ⟨Ax, cx, rfl⟩ := own_len hox
  obtain ⟨Ay, cy, rfl⟩ := own_len hoy
  have px := okS_parts okx
  have py := okS_parts oky
  have DX := natOk_parts px.1
  have DY := natOk_parts py.1
  have hlx := DX.2.1
  have hly := DY.2.1
  have Dx := Lib.hid DX
  have Dy := Lib.hid DY
  obtain ⟨W0, hW0⟩ : ∃ W0, W0 = ((w.alloc (.cells #[.bool x.1, .slice Ax x.2.length cx] 30)).alloc (.cells #[.bool y.1, .slice Ay y.2.length cy] 30)).alloc (.cells #[.bool false, .slice none 0 0] 30) := ⟨_, rfl⟩
  have hbb : Below w.heap.size w W0 := by rw [hW0]; exact below_al (below_al (below_al (Below.refl _ _) _) _) _
  have h3 := alloc3 w (.cells #[.bool x.1, .slice Ax x.2.length cx] 30) (.cells #[.bool y.1, .slice Ay y.2.length cy] 30) (.cells #[.bool false, .slice none 0 0] 30)
  rw [← hW0] at h3
  have kx : At [w.heap.size] (BoxAt w.heap.size #[.bool x.1, .slice Ax x.2.length cx] 30) W0 := box_at h3.1
  have ky : At [w.heap.size + 1] (BoxAt (w.heap.size + 1) #[.bool y.1, .slice Ay y.2.length cy] 30) W0 := box_at h3.2.1
  have kr : At [w.heap.size + 1 + 1] (BoxAt (w.heap.size + 1 + 1) #[.bool false, .slice none 0 0] 30) W0 := box_at h3.2.2.1
  have atx := own_at hox
  have aty := own_at hoy
  have ltx := atx.lt
  have lty := aty.lt
  have OFx := Lib.hid (show ∀ W, Chg [w.heap.size + 1 + 1] W0 W → OwnI (.slice Ax x.2.length cx) x.2 W from fun W hc => ((atx.below hbb).chg hc (fun i hi hm => by have := ltx i hi; simp at hm; omega)).here)
  have OFy := Lib.hid (show ∀ W, Chg [w.heap.size + 1 + 1] W0 W → OwnI (.slice Ay y.2.length cy) y.2 W from fun W hc => ((aty.below hbb).chg hc (fun i hi hm => by have := lty i hi; simp at hm; omega)).here)
  have KL := Lib.hid (show ∀ W, Chg [w.heap.size + 1 + 1] W0 W → W.cell? ⟨w.heap.size, 0, none⟩ = some (.bool x.1) ∧ W.cell? ⟨w.heap.size, 1, none⟩ = some (.slice Ax x.2.length cx) ∧ W.cell? ⟨w.heap.size + 1, 0, none⟩ = some (.bool y.1) ∧ W.cell? ⟨w.heap.size + 1, 1, none⟩ = some (.slice Ay y.2.length cy) ∧ Hid (Chg [w.heap.size + 1 + 1] W0 W) from
    fun W hc => ⟨(kx.chg hc (fun i hi hm => by simp at hi hm; omega)).here.cell 0 _ rfl, (kx.chg hc (fun i hi hm => by simp at hi hm; omega)).here.cell 1 _ rfl, (ky.chg hc (fun i hi hm => by simp at hi hm; omega)).here.cell 0 _ rfl, (ky.chg hc (fun i hi hm => by simp at hi hm; omega)).here.cell 1 _ rfl, Lib.hid hc⟩)
  have HW := Lib.hid hW0
  clear h3 atx aty ltx lty DX DY hW0
  by_cases hs : x.1 = y.1
  · have HV : Hid (mkS x.1 (trimL (addL x.2 y.2 0)) = ofZ (valS x + valS y)) := Lib.hid (by
      rw [mk_add px.1 py.1]
      unfold valS
      rw [← hs]
      congr 1
      split <;> omega)
    have hsb : (x.1 == y.1) = true := by rw [hs]; simp
    have hal := (addL_val x.2 y.2 0 Dx.out.1 Dy.out.1 (by omega) (by omega)).2.2
    have cx0 := kx.here.cell 0 _ rfl
    have cx1 := kx.here.cell 1 _ rfl
    have cy0 := ky.here.cell 0 _ rfl
    have cy1 := ky.here.cell 1 _ rfl
    clear hs px py hox hoy okx oky
    go_enter Tryz.func203, Tryz.ntmps203
    go_wp2_with fail
    rw [← HW.out]
    clear cx0 cx1 cy0 cy1
    go_region_held3 (fun W => W.cell? ⟨w.heap.size, 0, none⟩ = some (.bool x.1) ∧ W.cell? ⟨w.heap.size, 1, none⟩ = some (.slice Ax x.2.length cx) ∧ W.cell? ⟨w.heap.size + 1, 0, none⟩ = some (.bool y.1) ∧ W.cell? ⟨w.heap.size + 1, 1, none⟩ = some (.slice Ay y.2.length cy) ∧ Hid (Chg [w.heap.size + 1 + 1] W0 W))
      ((refine KL.out _ ?_; (first | exact HC2.out | exact HC1.out | exact (Chg.setCell (Chg.setCell HC2.out (by simp) _) (by simp) _) | exact Chg.drew1 HC0.out | exact ⟨rfl, rfl, rfl, Nat.le_refl _, fun _ _ _ => rfl⟩ | fail)))
      (first
        | (go_at_call 257; (have hBB := (‹_ ∧ _ ∧ _ ∧ _ ∧ Hid (Chg [w.heap.size + 1 + 1] W0 _)›).2.2.2.2); (with_reducible refine (specAdd_any _ _ x.2 y.2 0 _ 0 _ _ (by omega) (by omega) (Nat.le_refl _) (Nat.le_refl _) Dx.out.1 Dy.out.1 (OFx.out _ hBB.out).row (OFy.out _ hBB.out).row).mono ?_); rintro e w3 ⟨u3, rfl, o3, b3⟩; have HC1 := Lib.hid (hBB.out.trans (Chg.of_below b3)); (have kr3 := At.behind kr b3 rfl); obtain ⟨A3, c3, rfl⟩ := own_len o3; clear hBB)
        | (go_at_call 142; (have hBB := (‹_ ∧ _ ∧ _ ∧ _ ∧ Hid (Chg [w.heap.size + 1 + 1] W0 _)›).2.2.2.2); (with_reducible refine (l04Make_any _ _ (addL x.2 y.2 0) _ _ (by omega) o3).mono ?_); rintro e w4 ⟨u4, rfl, o4, b4⟩; have HC2 := Lib.hid (hBB.out.trans (Chg.of_below b4)); (have kr4 := kr3.below b4); (have cz0 := kr4.here.cell 0 _ rfl); (have cz1 := kr4.here.cell 1 _ rfl); (have fz0 := Lib.frozen_of_heap kr4.here 0); (have fz1 := Lib.frozen_of_heap kr4.here 1); obtain ⟨A4, c4, rfl⟩ := own_len o4; clear hBB))
    have HO4 := Lib.hid o4
    have HK := Lib.hid kr4
    have HW0 := HW.out
    have hB4 : w.heap.size ≤ w3.heap.size := by have h1 := HC1.out.size; have h2 := hbb.size; omega
    have hBW : Below w.heap.size w w4 := below_chg hbb HC2.out hbb.size (fun g hg => by simp at hg; omega)
    have HB4 := Lib.hid hB4
    have HBW := Lib.hid hBW
    clear o4 kr4 kr3 o3 b3 b4 hB4 hBW kr kx ky HW0
    go_wp2
    refine bodyPost_ret (v := .agg #[.bool _, .slice A4 _ c4]) (by simp [results, Tryz.results203, go_sem, cz0, cz1]; exact ⟨rfl, rfl⟩) rfl ?_
    rw [← HV.out]
    exact newS_ret HK.out.here HO4.out HB4.out (by omega) HBW.out
  · have HS := Lib.hid hs
    have hsb : (x.1 == y.1) = false := by rw [beq_eq_false_iff_ne]; exact hs
    have h0x := nval_ok px.1
    have h0y := nval_ok py.1
    clear hs
    by_cases hle : nval y.2 ≤ nval x.2
    · have hle' : nval y.2 ≤ nval x.2 := by omega
      have hms := mk_sub (n := x.1) px.1 py.1 hle'
      have HV : Hid (mkS x.1 (trimL (trimL (subL x.2 y.2 0))) = ofZ (valS x + valS y)) := Lib.hid (by
        rw [hms.1]
        congr 1
        have hd := HS.out
        unfold valS
        cases hx1 : x.1 <;> cases hy1 : y.1 <;> simp_all <;> omega)
      have HSL := Lib.hid hms.2
      have hal := trimL_length (subL x.2 y.2 0)
      rw [hms.2] at hal
      have hz : 0 ≤ cmpI (nval x.2) (nval y.2) := by unfold cmpI; split <;> (try split) <;> omega
      have cx0 := kx.here.cell 0 _ rfl
      have cx1 := kx.here.cell 1 _ rfl
      have cy0 := ky.here.cell 0 _ rfl
      have cy1 := ky.here.cell 1 _ rfl
      have rx := (OFx.out W0 (Chg.refl _ _)).row
      have ry := (OFy.out W0 (Chg.refl _ _)).row
      clear px py hox hoy okx oky hms hle hle'
      go_enter Tryz.func203, Tryz.ntmps203
      go_wp2_with fail
      rw [← HW.out]
      refine (specCmp_any _ _ x.2 y.2 0 _ 0 _ W0 (by omega) (by omega) ⟨Dx.out.1, Dx.out.2.2⟩ ⟨Dy.out.1, Dy.out.2.2⟩ rx ry).mono ?_
      rintro e w' ⟨rfl, q, rfl⟩
      generalize cmpI (nval x.2) (nval y.2) = z at *
      clear rx ry
      obtain ⟨W1, hW1⟩ : ∃ W1, W1 = W0.drewN q := ⟨_, rfl⟩
      have HC0 := Lib.hid (show Chg [w.heap.size + 1 + 1] W0 W1 by rw [hW1]; exact ⟨rfl, rfl, rfl, Nat.le_refl _, fun _ _ _ => rfl⟩)
      replace kr := At.move (w' := W1) kr (fun _ _ => by rw [hW1]; rfl) (by rw [hW1]; exact Nat.le_refl _)
      have kl := KL.out W1 HC0.out
      have cx0' := kl.1
      have cx1' := kl.2.1
      have cy0' := kl.2.2.1
      have cy1' := kl.2.2.2.1
      rw [← hW1]
      clear hW1 kl cx0 cx1 cy0 cy1
      go_wp2_with fail
      clear cx0' cx1' cy0' cy1'
      go_region_held3 (fun W => W.cell? ⟨w.heap.size, 0, none⟩ = some (.bool x.1) ∧ W.cell? ⟨w.heap.size, 1, none⟩ = some (.slice Ax x.2.length cx) ∧ W.cell? ⟨w.heap.size + 1, 0, none⟩ = some (.bool y.1) ∧ W.cell? ⟨w.heap.size + 1, 1, none⟩ = some (.slice Ay y.2.length cy) ∧ Hid (Chg [w.heap.size + 1 + 1] W0 W))
        ((refine KL.out _ ?_; (first | exact HC2.out | exact HC1.out | exact (Chg.setCell (Chg.setCell HC2.out (by simp) _) (by simp) _) | exact Chg.drew1 HC0.out | exact ⟨rfl, rfl, rfl, Nat.le_refl _, fun _ _ _ => rfl⟩ | fail)))
        (first
          | (go_at_call 258; (have hBB := (‹_ ∧ _ ∧ _ ∧ _ ∧ Hid (Chg [w.heap.size + 1 + 1] W0 _)›).2.2.2.2); (with_reducible refine (specSub_any _ _ x.2 y.2 0 _ 0 _ _ (by omega) (by omega) (Nat.le_refl _) (Nat.le_refl _) Dx.out.1 Dy.out.1 (OFx.out _ hBB.out).row (OFy.out _ hBB.out).row HSL.out).mono ?_); rintro e w3 ⟨u3, rfl, o3, b3⟩; have HC1 := Lib.hid (hBB.out.trans (Chg.of_below b3)); (have kr3 := At.behind kr b3 rfl); obtain ⟨A3, c3, rfl⟩ := own_len o3; clear hBB)
          | (go_at_call 142; (have hBB := (‹_ ∧ _ ∧ _ ∧ _ ∧ Hid (Chg [w.heap.size + 1 + 1] W0 _)›).2.2.2.2); (with_reducible refine (l04Make_any _ _ (trimL (subL x.2 y.2 0)) _ _ (by omega) o3).mono ?_); rintro e w4 ⟨u4, rfl, o4, b4⟩; have HC2 := Lib.hid (hBB.out.trans (Chg.of_below b4)); (have kr4 := kr3.below b4); (have cz0 := kr4.here.cell 0 _ rfl); (have cz1 := kr4.here.cell 1 _ rfl); (have fz0 := Lib.frozen_of_heap kr4.here 0); (have fz1 := Lib.frozen_of_heap kr4.here 1); obtain ⟨A4, c4, rfl⟩ := own_len o4; clear hBB))
      have HO4 := Lib.hid o4
      have HK := Lib.hid kr4
      have HW0 := HW.out
      have hB4 : w.heap.size ≤ w3.heap.size := by have h1 := HC1.out.size; have h2 := hbb.size; omega
      have hBW : Below w.heap.size w w4 := below_chg hbb HC2.out hbb.size (fun g hg => by simp at hg; omega)
      have HB4 := Lib.hid hB4
      have HBW := Lib.hid hBW
      clear o4 kr4 kr3 o3 b3 b4 hB4 hBW kr kx ky HW0
      go_wp2
      refine bodyPost_ret (v := .agg #[.bool _, .slice A4 _ c4]) (by simp [results, Tryz.results203, go_sem, cz0, cz1]; exact ⟨rfl, rfl⟩) rfl ?_
      rw [← HV.out]
      exact newS_ret HK.out.here HO4.out HB4.out (by omega) HBW.out
    · have hle' : nval x.2 ≤ nval y.2 := by omega
      have hms := mk_sub (n := y.1) py.1 px.1 hle'
      have HV : Hid (mkS y.1 (trimL (trimL (subL y.2 x.2 0))) = ofZ (valS x + valS y)) := Lib.hid (by
        rw [hms.1]
        congr 1
        have hd := HS.out
        unfold valS
        cases hx1 : x.1 <;> cases hy1 : y.1 <;> simp_all <;> omega)
      have HSL := Lib.hid hms.2
      have hal := trimL_length (subL y.2 x.2 0)
      rw [hms.2] at hal
      have hz : cmpI (nval x.2) (nval y.2) < 0 := by unfold cmpI; split <;> (try split) <;> omega
      have cx0 := kx.here.cell 0 _ rfl
      have cx1 := kx.here.cell 1 _ rfl
      have cy0 := ky.here.cell 0 _ rfl
      have cy1 := ky.here.cell 1 _ rfl
      have rx := (OFx.out W0 (Chg.refl _ _)).row
      have ry := (OFy.out W0 (Chg.refl _ _)).row
      clear px py hox hoy okx oky hms hle hle'
      go_enter Tryz.func203, Tryz.ntmps203
      go_wp2_with fail
      rw [← HW.out]
      refine (specCmp_any _ _ x.2 y.2 0 _ 0 _ W0 (by omega) (by omega) ⟨Dx.out.1, Dx.out.2.2⟩ ⟨Dy.out.1, Dy.out.2.2⟩ rx ry).mono ?_
      rintro e w' ⟨rfl, q, rfl⟩
      generalize cmpI (nval x.2) (nval y.2) = z at *
      clear rx ry
      obtain ⟨W1, hW1⟩ : ∃ W1, W1 = W0.drewN q := ⟨_, rfl⟩
      have HC0 := Lib.hid (show Chg [w.heap.size + 1 + 1] W0 W1 by rw [hW1]; exact ⟨rfl, rfl, rfl, Nat.le_refl _, fun _ _ _ => rfl⟩)
      replace kr := At.move (w' := W1) kr (fun _ _ => by rw [hW1]; rfl) (by rw [hW1]; exact Nat.le_refl _)
      have kl := KL.out W1 HC0.out
      have cx0' := kl.1
      have cx1' := kl.2.1
      have cy0' := kl.2.2.1
      have cy1' := kl.2.2.2.1
      rw [← hW1]
      clear hW1 kl cx0 cx1 cy0 cy1
      go_wp2_with fail
      clear cx0' cx1' cy0' cy1'
      go_region_held3 (fun W => W.cell? ⟨w.heap.size, 0, none⟩ = some (.bool x.1) ∧ W.cell? ⟨w.heap.size, 1, none⟩ = some (.slice Ax x.2.length cx) ∧ W.cell? ⟨w.heap.size + 1, 0, none⟩ = some (.bool y.1) ∧ W.cell? ⟨w.heap.size + 1, 1, none⟩ = some (.slice Ay y.2.length cy) ∧ Hid (Chg [w.heap.size + 1 + 1] W0 W))
        ((refine KL.out _ ?_; (first | exact HC2.out | exact HC1.out | exact (Chg.setCell (Chg.setCell HC2.out (by simp) _) (by simp) _) | exact Chg.drew1 HC0.out | exact ⟨rfl, rfl, rfl, Nat.le_refl _, fun _ _ _ => rfl⟩ | fail)))
        (first
          | (go_at_call 258; (have hBB := (‹_ ∧ _ ∧ _ ∧ _ ∧ Hid (Chg [w.heap.size + 1 + 1] W0 _)›).2.2.2.2); (with_reducible refine (specSub_any _ _ y.2 x.2 0 _ 0 _ _ (by omega) (by omega) (Nat.le_refl _) (Nat.le_refl _) Dy.out.1 Dx.out.1 (OFy.out _ hBB.out).row (OFx.out _ hBB.out).row HSL.out).mono ?_); rintro e w3 ⟨u3, rfl, o3, b3⟩; have HC1 := Lib.hid (hBB.out.trans (Chg.of_below b3)); (have kr3 := At.behind kr b3 rfl); obtain ⟨A3, c3, rfl⟩ := own_len o3; clear hBB)
          | (go_at_call 142; (have hBB := (‹_ ∧ _ ∧ _ ∧ _ ∧ Hid (Chg [w.heap.size + 1 + 1] W0 _)›).2.2.2.2); (with_reducible refine (l04Make_any _ _ (trimL (subL y.2 x.2 0)) _ _ (by omega) o3).mono ?_); rintro e w4 ⟨u4, rfl, o4, b4⟩; have HC2 := Lib.hid (hBB.out.trans (Chg.of_below b4)); (have kr4 := kr3.below b4); (have cz0 := kr4.here.cell 0 _ rfl); (have cz1 := kr4.here.cell 1 _ rfl); (have fz0 := Lib.frozen_of_heap kr4.here 0); (have fz1 := Lib.frozen_of_heap kr4.here 1); obtain ⟨A4, c4, rfl⟩ := own_len o4; clear hBB))
      have HO4 := Lib.hid o4
      have HK := Lib.hid kr4
      have HW0 := HW.out
      have hB4 : w.heap.size ≤ w3.heap.size := by have h1 := HC1.out.size; have h2 := hbb.size; omega
      have hBW : Below w.heap.size w w4 := below_chg hbb HC2.out hbb.size (fun g hg => by simp at hg; omega)
      have HB4 := Lib.hid hB4
      have HBW := Lib.hid hBW
      clear o4 kr4 kr3 o3 b3 b4 hB4 hBW kr kx ky HW0
      go_wp2
      refine bodyPost_ret (v := .agg #[.bool _, .slice A4 _ c4]) (by simp [results, Tryz.results203, go_sem, cz0, cz1]; exact ⟨rfl, rfl⟩) rfl ?_
      rw [← HV.out]
      exact newS_ret HK.out.here HO4.out HB4.out (by omega) HBW.out



end Go.Proofs.YtehkknphcflofaaGreatDoor

namespace Go.Proofs.YtehkknphcflofaaGreatDoor
open Go.RowKit

/-- the state of l05Gcd's loop -/
def GcdR (w : World) (G : Nat) (n : Nat) (x y : Value) (wr : World) : Prop :=
  ∃ X Y : Nat, n = Y ∧ Nat.gcd X Y = G ∧ (limbs X).length ≤ 50 ∧ (limbs Y).length ≤ 50 ∧ wr.ownsRow 0 3 1 x (limbs X).length (intsV (limbs X)) ∧ wr.ownsRow 0 3 1 y (limbs Y).length (intsV (limbs Y)) ∧ Below w.heap.size w wr
set_option maxHeartbeats 1000000 in
set_option maxRecDepth 100000 in
theorem l05Gcd_any (va vb : Value) (X0 Y0 : Nat) (w : World) (hX0 : (limbs X0).length ≤ 50) (hY0 : (limbs Y0).length ≤ 50) (oa : OwnI va (limbs X0) w) (ob : OwnI vb (limbs Y0) w) :
    Calls Tryz.prog 251 #[va, vb] w fun e w' => ∃ v, e = .returned v ∧ OwnI v (limbs (Nat.gcd X0 Y0)) w' ∧ Below w.heap.size w w' := by
  have HS : Hid (GcdR w (Nat.gcd X0 Y0) Y0 va vb w) := Lib.hid ⟨X0, Y0, rfl, rfl, hX0, hY0, oa, ob, Below.refl _ _⟩
  clear oa ob
  go_enter Tryz.func251, Tryz.ntmps251
  go_wp2
  go_loopg [5, 6] Y0 (fun n x y wr => GcdR w (Nat.gcd X0 Y0) n x y wr)
  case atStart => exact HS.out
  case round =>
    clear HS hX0 hY0
    obtain ⟨X, Y, hn, hG, hX, hY, ox, oy, hb⟩ := hrel
    have HNE := Lib.hid hn
    have HG := Lib.hid hG
    clear hn hG
    have oy0 := oy
    obtain ⟨B, c, rfl⟩ := own_len oy
    by_cases hpos : 0 < (limbs Y).length
    · have hY0 := limbs_some hpos
      go_wp2_with fail
      refine (specDiv_any _ _ (limbs X) (limbs Y) _ _ _ _ _ hX hY hpos (Nat.le_refl _) (Nat.le_refl _) (limbs_digN _) ⟨limbs_digN _, limbs_lastN _⟩ (Row.of_own ox) (Row.of_own oy0)).mono ?_
      rintro e w3 ⟨v3, v4, rfl, o3, o4, _, b3⟩
      rw [limbs_val, limbs_val, show ((X : Int) % (Y : Int)).toNat = X % Y by omega] at o4
      have HS2 : Hid (GcdR w (Nat.gcd X0 Y0) (X % Y) (.slice B (limbs Y).length c) v4 w3) := Lib.hid ⟨Y, X % Y, rfl, by rw [gcd_step]; exact HG.out, hY, limbs_mod_len X Y hY hY0, own_below oy0 b3, own_zero o4, Below.next hb b3⟩
      clear ox oy oy0 o3 o4
      go_wp2
      go_roundg (X % Y)
      case measure => rw [HNE.out]; exact Nat.mod_lt X hY0
      case rel => exact HS2.out
    · have hY0 := Lib.hid (limbs_empty hpos)
      have HF : Hid (X = Nat.gcd X0 Y0) := Lib.hid (by have := HG.out; rw [hY0.out, Nat.gcd_zero_right] at this; exact this)
      go_wp2
      go_ret
      exact ⟨_, rfl, by rw [← HF.out]; exact ox, hb⟩
end Go.Proofs.YtehkknphcflofaaGreatDoor

namespace Go.Proofs.YtehkknphcflofaaGreatDoor
open Go.RowKit
theorem one_val : nval [1] = 1 := rfl
theorem one_dig : DigN [1] ∧ [(1 : Int)].getLastD 1 ≠ 0 := by
  refine ⟨fun d hd => ?_, by decide⟩
  simp at hd
  omega
theorem one_limbs : limbs 1 = [1] := by rw [limbs, dif_neg (by decide), show 1 / 1000000000 = 0 from rfl, limbs, dif_pos rfl]; rfl
/-- a slice literal in its block -/
theorem box_row {g : Nat} {cs : Array Value} {T : TypeId} {w : World} (h : BoxAt g cs T w) : Row w 0 w.heap.size (.slice (some ⟨g, 0, none⟩) cs.size cs.size) cs.toList := by
  have hg := (Array.getElem?_eq_some_iff.1 h).1
  refine ⟨some ⟨g, 0, none⟩, cs.size, by simp, fun j u hj => ⟨⟨g, 0, none⟩, rfl, Nat.zero_le _, hg, ?_⟩⟩
  have e1 : (Addr.add ⟨g, 0, none⟩ j) = ⟨g, j, none⟩ := by
    unfold Addr.add
    cases j with
    | zero => rfl
    | succ n => simp
  rw [e1, Lib.cell_of_heap h]
  simpa using hj
theorem gcdN_small (a b : List Int) : (gcdN a b).length ≤ 50 := by
  unfold gcdN
  split
  · rename_i h
    have pa := natOk_limbs h.1
    have pb := natOk_limbs h.2
    have la := (natOk_parts h.1).2.1
    have lb := (natOk_parts h.2).2.1
    have na := nval_ok h.1
    have nb := nval_ok h.2
    by_cases h0 : 0 < (nval a).toNat
    · have hm := limbs_mono (m := ((Nat.gcd (nval a).toNat (nval b).toNat : Nat) : Int)) (n := nval a) (by omega) (by have := Nat.gcd_le_left (nval b).toNat h0; omega)
      rw [Int.toNat_natCast, ← pa] at hm
      omega
    · rw [show (nval a).toNat = 0 by omega, Nat.gcd_zero_left, ← pb]
      exact lb
  · simp
theorem gcd_one_iff {x : QI} (h1 : natOkB x.1.2 = true) (h2 : natOkB x.2 = true) : (cmpI (nval (gcdN x.1.2 x.2)) (nval [1]) = 0) ↔ Nat.gcd (nval x.1.2).toNat (nval x.2).toNat = 1 := by
  unfold gcdN
  rw [if_pos ⟨h1, h2⟩, limbs_val, one_val]
  unfold cmpI
  split
  · omega
  · split <;> omega
set_option maxHeartbeats 1000000 in
set_option maxRecDepth 100000 in
theorem specRatOk_any (v : Value) (x : QI) (w : World) (hz : szQ x ≤ 1048576) (h : OwnQ v x w) :
    Calls Tryz.prog 85 #[v] w (Postb (okQ x) w) := by
  obtain ⟨u, d, rfl, ou, od, hap⟩ := h
  obtain ⟨A, c, rfl⟩ := own_len ou
  obtain ⟨B, f, rfl⟩ := own_len od
  have hl := szQ_len hz
  have hl1 := hl.1
  have hl2 := hl.2
  have bb0 : Below w.heap.size w (w.alloc (.cells #[.bool x.1.1, .slice A x.1.2.length c, .slice B x.2.length f] 36)) := below_al (Below.refl _ _) _
  have kr := box_new w #[.bool x.1.1, .slice A x.1.2.length c, .slice B x.2.length f] 36
  have OU := Lib.hid (show ∀ W, Below w.heap.size w W → OwnI (.slice A x.1.2.length c) x.1.2 W from fun W hb => own_below ou hb)
  have OD := Lib.hid (show ∀ W, Below w.heap.size w W → OwnI (.slice B x.2.length f) x.2 W from fun W hb => own_below od hb)
  clear ou od hap hl hz
  have kr_c0 := kr.here.cell 0 _ rfl
  have kr_c1 := kr.here.cell 1 _ rfl
  go_enter Tryz.func85, Tryz.ntmps85
  go_wp2_with fail
  refine (specIntOk_any _ x.1 _ hl1 (OwnS.rd (OwnS.mk (x := x.1) (OU.out _ bb0)))).mono ?_
  rintro e w1 ⟨rfl, b1⟩
  have bb1 := Below.next bb0 b1
  replace kr := kr.below b1
  clear kr_c0 kr_c1
  by_cases ok1 : okS x.1 = true
  · rw [ok1]
    have HO1 := Lib.hid ok1
    have kr_c0 := kr.here.cell 0 _ rfl
    have kr_c1 := kr.here.cell 1 _ rfl
    have kr_c2 := kr.here.cell 2 _ rfl
    clear ok1
    go_wp2_with fail
    refine (specNatOk_any _ x.2 _ _ _ hl2 (OD.out _ bb1).row).mono ?_
    rintro e w2 ⟨rfl, rfl⟩
    by_cases ok2 : natOkB x.2 = true
    · rw [ok2]
      have HO2 := Lib.hid ok2
      clear ok2
      by_cases hs : 0 < x.2.length ∧ x.2.length ≤ 18 ∧ x.1.2.length ≤ 18
      · have h1 : ((x.2.length : Int) == 0) = false := by rw [beq_eq_false_iff_ne]; omega
        have h2 : decide ((18 : Int) < (x.2.length : Int)) = false := decide_eq_false (by omega)
        have h3 : decide ((18 : Int) < (x.1.2.length : Int)) = false := decide_eq_false (by omega)
        have HG := Lib.hid (gcd_one_iff (okS_parts HO1.out).1 HO2.out)
        have HV := Lib.hid (show okQ x = decide (Nat.gcd (nval x.1.2).toNat (nval x.2).toNat = 1) by unfold okQ; rw [HO1.out, HO2.out]; simp [hs])
        have hgl : (gcdN x.1.2 x.2).length ≤ 1048576 := by have := gcdN_small x.1.2 x.2; omega
        have HD := Lib.hid (show DigN (gcdN x.1.2 x.2) ∧ (gcdN x.1.2 x.2).getLastD 1 ≠ 0 by unfold gcdN; split; exact ⟨limbs_digN _, limbs_lastN _⟩; exact ⟨fun d hd => (by cases hd), by decide⟩)
        clear hs
        go_wp2_with fail
        refine (specNatGcd_any _ _ x.1.2 x.2 0 _ 0 _ _ hl1 hl2 (Nat.le_refl _) (Nat.le_refl _) (own_noCap (OU.out _ bb1)) (own_noCap (OD.out _ bb1)) (OU.out _ bb1).row (OD.out _ bb1).row).mono ?_
        rintro e w2 ⟨v2, rfl, o2, b2⟩
        have bb2 := Below.next bb1 b2
        go_wp2_with fail
        have hrow := box_row (box_new w2 #[.int .i64 1] 3).here
        have o2' := own_up o2 (below_al (Below.refl _ _) (.cells #[.int .i64 1] 3))
        refine (specCmp_any _ _ (gcdN x.1.2 x.2) [1] _ _ _ _ _ hgl (by decide) HD.out one_dig (Row.of_own o2') hrow).mono ?_
        rintro e w3 ⟨rfl, q3, rfl⟩
        have HB := Lib.hid (Below.next bb2 (below_al (Below.refl _ _) (.cells #[.int .i64 1] 3)))
        have HZ : (cmpI (nval (gcdN x.1.2 x.2)) (nval [1]) == 0) = okQ x := by
          rw [HV.out]
          by_cases hg : cmpI (nval (gcdN x.1.2 x.2)) (nval [1]) = 0
          · rw [decide_eq_true (HG.out.1 hg), hg]; rfl
          · rw [decide_eq_false (fun e => hg (HG.out.2 e)), beq_eq_false_iff_ne]; exact hg
        generalize cmpI (nval (gcdN x.1.2 x.2)) (nval [1]) = z at *
        generalize okQ x = b at *
        clear o2 o2' hrow hgl h1 h2 h3 hl1 hl2 HG HV
        go_wp2
        go_ret
        exact ⟨rfl, below_drewN HB.out q3⟩
      · have HV := Lib.hid (show okQ x = false by unfold okQ; rw [HO1.out, HO2.out, decide_eq_false (fun h => hs ⟨h.1, h.2.1, h.2.2.1⟩)]; rfl)
        by_cases g1 : 0 < x.2.length
        · have h1 : ((x.2.length : Int) == 0) = false := by rw [beq_eq_false_iff_ne]; omega
          by_cases g2 : x.2.length ≤ 18
          · have h2 : decide ((18 : Int) < (x.2.length : Int)) = false := decide_eq_false (by omega)
            have h3 : decide ((18 : Int) < (x.1.2.length : Int)) = true := decide_eq_true (by omega)
            clear hs g1 g2
            go_wp2
            go_ret
            exact ⟨ret_bool HV.out.symm, bb1⟩
          · have h2 : decide ((18 : Int) < (x.2.length : Int)) = true := decide_eq_true (by omega)
            clear hs g1 g2
            go_wp2
            go_ret
            exact ⟨ret_bool HV.out.symm, bb1⟩
        · have h1 : ((x.2.length : Int) == 0) = true := by rw [beq_iff_eq]; omega
          clear hs g1
          go_wp2
          go_ret
          exact ⟨ret_bool HV.out.symm, bb1⟩
    · have ok2' : natOkB x.2 = false := by simpa using ok2
      have HV := Lib.hid (show okQ x = false by unfold okQ; rw [HO1.out, ok2']; rfl)
      rw [ok2']
      clear ok2 ok2'
      go_wp2
      go_ret
      exact ⟨ret_bool HV.out.symm, bb1⟩
  · have ok1' : okS x.1 = false := by simpa using ok1
    have HV := Lib.hid (show okQ x = false by unfold okQ; rw [ok1']; rfl)
    rw [ok1']
    clear ok1 ok1'
    go_wp2
    go_ret
    exact ⟨ret_bool HV.out.symm, bb1⟩
end Go.Proofs.YtehkknphcflofaaGreatDoor

namespace Go.Proofs.YtehkknphcflofaaGreatDoor
open Go.RowKit
theorem trim_ok (n : Nat) : trimL (limbs n) = limbs n := trim_last _ (limbs_lastN n)
theorem oneCells (l : List Int) : ∀ u ∈ intsV l, u.oneCell' = true := fun u hu => by obtain ⟨x, _, rfl⟩ := List.mem_map.1 hu; rfl
/-- a struct result that lies in its cells at block r: a new value and a bool with it -/
theorem newQb_ret {r : Nat} {u d c0 c1 c2 : Value} {x : QI} {b : Bool} {w W : World} {B C : Nat} (hb : BoxAt r #[c0, c1, c2] 36 W) (o : W.ownsRow B 3 1 u x.1.2.length (intsV x.1.2)) (p : W.ownsRow C 3 1 d x.2.length (intsV x.2))
    (hap : ∀ g, u.ownBlock = some g → d.ownBlock ≠ some g) (hB : w.heap.size ≤ B) (hC : w.heap.size ≤ C) (hr : w.heap.size ≤ r) (hW : Below w.heap.size w W) :
    PostQb x b w (.returned (.tuple #[.agg #[.bool x.1.1, u, d], .bool b])) (((W.setCell ⟨r, 0, none⟩ (.bool x.1.1)).setCell ⟨r, 1, none⟩ u).setCell ⟨r, 2, none⟩ d) := by
  have hn1 := Lib.ownBlock_ne o hb (by decide)
  have hn2 := Lib.ownBlock_ne p hb (by decide)
  have hc : Chg [r] W (((W.setCell ⟨r, 0, none⟩ (.bool x.1.1)).setCell ⟨r, 1, none⟩ u).setCell ⟨r, 2, none⟩ d) := (((Chg.refl _ _).setCell (by simp) _).setCell (by simp) _).setCell (by simp) _
  have hz := hc.size
  refine ⟨_, partsB u d, rfl, (partsQ_at o p hap).chg hc (fun i hi hm => ?_), fun i hi => ?_, below_set3 hW hr⟩
  · simp at hm
    subst hm
    rcases List.mem_append.1 hi with hi | hi
    · exact hn1 (by simpa using hi)
    · exact hn2 (by simpa using hi)
  · rcases List.mem_append.1 hi with hi | hi
    · have := own_lt o (g := i) (by simpa using hi)
      omega
    · have := own_lt p (g := i) (by simpa using hi)
      omega
theorem ownQ_zero (w : World) : OwnQ (.agg #[.bool false, .slice none 0 0, .slice none 0 0]) zeroQ w := ⟨_, _, rfl, World.ownsRow_nil _ _ _ _, World.ownsRow_nil _ _ _ _, fun g hg => by cases hg⟩
theorem newQb_zero {w W : World} (b : Bool) (hW : Below w.heap.size w W) : PostQb zeroQ b w (.returned (.tuple #[.agg #[.bool false, .slice none 0 0, .slice none 0 0], .bool b])) W :=
  ⟨_, [], rfl, ⟨ownQ_zero _, (fun g hg => by cases hg), fun w' _ => ownQ_zero _⟩, (fun g hg => by cases hg), hW⟩
theorem div_toNat (a b : Nat) : ((a : Int) / (b : Int)).toNat = a / b := by rw [← Int.natCast_ediv]; exact Int.toNat_natCast _
set_option maxHeartbeats 1000000 in
set_option maxRecDepth 100000 in
theorem l05Low_any (n : Bool) (va vb : Value) (X Y : Nat) (w : World) (hX : (limbs X).length ≤ 50) (hY : (limbs Y).length ≤ 50) (oa : OwnI va (limbs X) w) (ob : OwnI vb (limbs Y) w) :
    Calls Tryz.prog 192 #[.bool n, va, vb] w (PostQb (lowQ n X Y).1 (lowQ n X Y).2 w) := by
  obtain ⟨i0, hi0, hz0, hz1, hz2⟩ := info_parts intInfo
  have bb0 := below_al (Below.refl w.heap.size w) (.cells #[.bool false, .slice none 0 0, .slice none 0 0] 36)
  have kr := box_new w #[.bool false, .slice none 0 0, .slice none 0 0] 36
  have oa1 := own_up oa bb0
  have ob1 := own_up ob bb0
  clear oa ob
  go_enter Tryz.func192, Tryz.ntmps192
  go_wp2_with fail
  refine (specTrim_any _ _ _ _ (by omega) oa1).mono ?_
  rintro e w1 ⟨rfl, v1, rfl, o1⟩
  rw [trim_ok] at o1
  go_wp2_with fail
  refine (specTrim_any _ _ _ _ (by omega) ob1).mono ?_
  rintro e w1 ⟨rfl, v2, rfl, o2⟩
  rw [trim_ok] at o2
  obtain ⟨A1, c1, rfl⟩ := own_len o1
  obtain ⟨A2, c2, rfl⟩ := own_len o2
  clear oa1 ob1
  by_cases hy : 0 < (limbs Y).length
  · have h1 : (((limbs Y).length : Int) == 0) = false := by rw [beq_eq_false_iff_ne]; omega
    have hY0 := limbs_some hy
    go_wp2_with fail
    refine (l05Gcd_any _ _ X Y _ hX hY o1 o2).mono ?_
    rintro e w3 ⟨v3, rfl, o3, b3⟩
    have bb3 := Below.next bb0 b3
    replace kr := kr.below b3
    replace o1 := own_up o1 b3
    replace o2 := own_up o2 b3
    have HG := Lib.hid (Nat.gcd_pos_of_pos_right X hY0)
    have hgl : (limbs (Nat.gcd X Y)).length ≤ 50 := by
      have := limbs_mono (m := ((Nat.gcd X Y : Nat) : Int)) (n := (Y : Int)) (by omega) (by have := Nat.gcd_le_right X hY0; omega)
      rw [Int.toNat_natCast, Int.toNat_natCast] at this
      omega
    have hg0 : 0 < (limbs (Nat.gcd X Y)).length := by
      rcases Nat.eq_zero_or_pos (limbs (Nat.gcd X Y)).length with h | h
      · have := (limbs_zero_iff _).1 h
        have := HG.out
        omega
      · exact h
    have HLOW := Lib.hid (show lowQ n X Y = if (limbs (X / Nat.gcd X Y)).length ≤ 18 ∧ (limbs (Y / Nat.gcd X Y)).length ≤ 18 then ((mkS n (limbs (X / Nat.gcd X Y)), limbs (Y / Nat.gcd X Y)), true) else (zeroQ, false) by unfold lowQ; simp [show Y ≠ 0 by omega])
    clear hy hY0
    go_wp2_with fail
    refine (specDiv_any _ _ (limbs X) (limbs (Nat.gcd X Y)) _ _ _ _ _ hX hgl hg0 (Nat.le_refl _) (Nat.le_refl _) (limbs_digN _) ⟨limbs_digN _, limbs_lastN _⟩ (Row.of_own o1) (Row.of_own o3)).mono ?_
    rintro e w4 ⟨v4, v5, rfl, o4, o5, _, b4⟩
    rw [limbs_val, limbs_val, div_toNat] at o4
    have bb4 := Below.next bb3 b4
    replace kr := kr.below b4
    replace o2 := own_up o2 b4
    replace o3 := own_up o3 b4
    clear o1 o5
    go_wp2_with fail
    refine (specDiv_any _ _ (limbs Y) (limbs (Nat.gcd X Y)) _ _ _ _ _ hY hgl hg0 (Nat.le_refl _) (Nat.le_refl _) (limbs_digN _) ⟨limbs_digN _, limbs_lastN _⟩ (Row.of_own o2) (Row.of_own o3)).mono ?_
    rintro e w5 ⟨v6, v7, rfl, o6, o7, _, b5⟩
    rw [limbs_val, limbs_val, div_toNat] at o6
    have bb5 := Below.next bb4 b5
    replace kr := kr.below b5
    replace o4 := own_up o4 b5
    obtain ⟨A4, c4, rfl⟩ := own_len o4
    obtain ⟨A6, c6, rfl⟩ := own_len o6
    clear o2 o3 o7 hg0 hgl
    have hz5 := b5.size
    have hz4 := b4.size
    have hz3 := b3.size
    by_cases hp : (limbs (X / Nat.gcd X Y)).length ≤ 18
    · have h2 : decide ((18 : Int) < ((limbs (X / Nat.gcd X Y)).length : Int)) = false := decide_eq_false (by omega)
      by_cases hq : (limbs (Y / Nat.gcd X Y)).length ≤ 18
      · have h3 : decide ((18 : Int) < ((limbs (Y / Nat.gcd X Y)).length : Int)) = false := decide_eq_false (by omega)
        have HV := Lib.hid (show lowQ n X Y = ((mkS n (limbs (X / Nat.gcd X Y)), limbs (Y / Nat.gcd X Y)), true) by rw [HLOW.out, if_pos ⟨hp, hq⟩])
        go_wp2_with fail
        refine (l04Make_any n _ (limbs (X / Nat.gcd X Y)) _ _ (by omega) o4).mono ?_
        rintro e w6 ⟨u6, rfl, o8, b6⟩
        rw [trim_ok] at o8 ⊢
        have bb6 := Below.next bb5 b6
        replace kr := kr.below b6
        replace o6 := own_up o6 b6
        obtain ⟨A8, c8, rfl⟩ := own_len o8
        clear hp h2 h3 o4
        have HONE := Lib.hid oneCells
        go_wp2_with (at_builtin; refine append_row rfl _ _ 28 rfl w6.heap.size 3 i0 (.int .i64 0) 8 Tryz.underlying28 hi0 hz0 hz1 hz2 rfl _ 0 [] rfl (World.ownsRow_made w6 #[] 0 (Nat.le_refl _) (Nat.zero_le _) rfl) _ _ _ (intsV (limbs (Y / Nat.gcd X Y))) rfl ((Row.of_own o6).below (below_al (Below.refl _ _) _) (Nat.le_refl _)) (own_noCap o6) (HONE.out _) ?c3 ?c4 ?c5 ?_)
        case c3 => rw [intsV_length]; unfold maxLen; omega
        case c4 => rw [intsV_length]; omega
        case c5 => simp
        intro v9 w7 o9 g9
        have b7 : Below w6.heap.size w6 w7 := ((Below.refl _ w6).alloc (Nat.le_refl _) _).grown g9 (by simp) (fun k hk => by cases hk; exact Nat.le_refl _)
        have bb7 := Below.next bb6 b7
        have hz6 := b6.size
        replace kr := kr.below b7
        have hap : ∀ g, (Value.slice A8 (mkS n (limbs (X / Nat.gcd X Y))).2.length c8).ownBlock = some g → v9.ownBlock ≠ some g := fun g h1 h2 => by
          have := (own_lt o8 h1).2
          have := (own_lt o9 h2).1
          omega
        replace o8 := own_up o8 b7
        replace o9 : w7.ownsRow w6.heap.size 3 1 v9 (limbs (Y / Nat.gcd X Y)).length (intsV (limbs (Y / Nat.gcd X Y))) := by simpa [intsV_length] using o9
        obtain ⟨A9, c9, rfl⟩ := own_len o9
        have cz0 := kr.here.cell 0 _ rfl
        have cz1 := kr.here.cell 1 _ rfl
        have cz2 := kr.here.cell 2 _ rfl
        have fz0 := Lib.frozen_of_heap kr.here 0
        have fz1 := Lib.frozen_of_heap kr.here 1
        have fz2 := Lib.frozen_of_heap kr.here 2
        have HR := Lib.hid (newQb_ret (x := (mkS n (limbs (X / Nat.gcd X Y)), limbs (Y / Nat.gcd X Y))) (b := true) kr.here o8 o9 hap bb5.size bb6.size (Nat.le_refl _) bb7)
        clear g9 b7 hap o8 o9 o6 kr HONE hq
        go_wp2
        refine bodyPost_ret (v := .tuple #[.agg #[.bool _, .slice A8 _ c8, .slice A9 _ c9], .bool true]) (by simp [results, Tryz.results192, go_sem, cz0, cz1, cz2]; exact ⟨rfl, rfl, rfl⟩) rfl ?_
        rw [HV.out]
        exact HR.out
      · have h3 : decide ((18 : Int) < ((limbs (Y / Nat.gcd X Y)).length : Int)) = true := decide_eq_true (by omega)
        have HV := Lib.hid (show lowQ n X Y = (zeroQ, false) by rw [HLOW.out, if_neg (fun h => hq h.2)])
        have cz0 := kr.here.cell 0 _ rfl
        have cz1 := kr.here.cell 1 _ rfl
        have cz2 := kr.here.cell 2 _ rfl
        have fz0 := Lib.frozen_of_heap kr.here 0
        have fz1 := Lib.frozen_of_heap kr.here 1
        have fz2 := Lib.frozen_of_heap kr.here 2
        clear hp hq o4 o6 kr
        go_wp2
        refine bodyPost_ret (v := .tuple #[.agg #[.bool false, .slice none 0 0, .slice none 0 0], .bool false]) (by simp [results, Tryz.results192, go_sem, cz0, cz1, cz2]) rfl ?_
        rw [HV.out]
        exact newQb_zero _ (below_set3 bb5 (Nat.le_refl _))
    · have h2 : decide ((18 : Int) < ((limbs (X / Nat.gcd X Y)).length : Int)) = true := decide_eq_true (by omega)
      have HV := Lib.hid (show lowQ n X Y = (zeroQ, false) by rw [HLOW.out, if_neg (fun h => hp h.1)])
      have cz0 := kr.here.cell 0 _ rfl
      have cz1 := kr.here.cell 1 _ rfl
      have cz2 := kr.here.cell 2 _ rfl
      have fz0 := Lib.frozen_of_heap kr.here 0
      have fz1 := Lib.frozen_of_heap kr.here 1
      have fz2 := Lib.frozen_of_heap kr.here 2
      clear hp o4 o6 kr
      go_wp2
      refine bodyPost_ret (v := .tuple #[.agg #[.bool false, .slice none 0 0, .slice none 0 0], .bool false]) (by simp [results, Tryz.results192, go_sem, cz0, cz1, cz2]) rfl ?_
      rw [HV.out]
      exact newQb_zero _ (below_set3 bb5 (Nat.le_refl _))
  · have h1 : (((limbs Y).length : Int) == 0) = true := by rw [beq_iff_eq]; omega
    have HV := Lib.hid (show lowQ n X Y = (zeroQ, false) by unfold lowQ; simp [limbs_empty hy])
    have cz0 := kr.here.cell 0 _ rfl
    have cz1 := kr.here.cell 1 _ rfl
    have cz2 := kr.here.cell 2 _ rfl
    have fz0 := Lib.frozen_of_heap kr.here 0
    have fz1 := Lib.frozen_of_heap kr.here 1
    have fz2 := Lib.frozen_of_heap kr.here 2
    clear hy o1 o2 kr
    go_wp2
    refine bodyPost_ret (v := .tuple #[.agg #[.bool false, .slice none 0 0, .slice none 0 0], .bool false]) (by simp [results, Tryz.results192, go_sem, cz0, cz1, cz2]) rfl ?_
    rw [HV.out]
    exact newQb_zero _ bb0
end Go.Proofs.YtehkknphcflofaaGreatDoor

namespace Go.Proofs.YtehkknphcflofaaGreatDoor
open Go.RowKit

def topN (q : QI) : Nat := (nval q.1.2).toNat
structure Parts (q : QI) : Prop where
  okn : okS q.1 = true
  okd : natOkB q.2 = true
  n50 : q.1.2.length ≤ 18
  d50 : q.2.length ≤ 18
  n : q.1.2 = limbs (topN q)
  d : q.2 = limbs (denQ q)
  nlt : (topN q : Int) < bp 18
  dlt : (denQ q : Int) < bp 18
  pos : 0 < denQ q
  top : numQ q = if q.1.1 = true then -(topN q : Int) else topN q
theorem parts_of {q : QI} (h : okQ q = true) : Parts q := by
  obtain ⟨h1, h2, h3, h4, h5, h6⟩ := okQ_parts h
  have p1 := okS_parts h1
  have n1 := nval_ok p1.1
  have n2 := nval_ok h2
  have l1 := nval_lt _ (natOk_parts p1.1).1
  have l2 := nval_lt _ (natOk_parts h2).1
  have m1 := bp_mono h5
  have m2 := bp_mono h4
  refine ⟨h1, h2, h5, h4, natOk_limbs p1.1, natOk_limbs h2, by unfold topN; omega, by unfold denQ; omega, denQ_pos h, ?_⟩
  unfold numQ valS topN
  split <;> omega
theorem prod_lt {X Y : Nat} (hx : (X : Int) < bp 18) (hy : (Y : Int) < bp 18) : ((X * Y : Nat) : Int) < bp 36 := by
  have e : bp 36 = bp 18 * bp 18 := bp_add 18 18
  have p := bp_pos 18
  rw [e, Int.natCast_mul]
  rcases Nat.eq_zero_or_pos Y with h | h
  · subst h
    have := Int.mul_pos p p
    simpa using this
  · have h1 : (X : Int) * Y < bp 18 * Y := Int.mul_lt_mul_of_pos_right hx (by omega)
    have h2 : bp 18 * (Y : Int) ≤ bp 18 * bp 18 := Int.mul_le_mul_of_nonneg_left (by omega) (by omega)
    omega
theorem prod_len {X Y : Nat} (hx : (X : Int) < bp 18) (hy : (Y : Int) < bp 18) : (limbs (X * Y)).length ≤ 36 := limbs_length_le _ 36 (prod_lt hx hy)
theorem mul_toNat {a b : List Int} (ha : natOkB a = true) (hb : natOkB b = true) : (nval a * nval b).toNat = (nval a).toNat * (nval b).toNat := by
  have n1 := nval_ok ha
  have n2 := nval_ok hb
  rw [Int.toNat_mul n1 n2]
theorem bp37 : bp 36 + bp 36 ≤ bp 37 := by
  have e : bp 37 = 1000000000 * bp 36 := rfl
  have p := bp_pos 36
  omega
/-- a cross product with its sign -/
theorem cross_ofZ {n : Bool} {X Y : Nat} : mkS n (limbs (X * Y)) = ofZ (if n = true then -((X * Y : Nat) : Int) else ((X * Y : Nat) : Int)) ∧ okS (mkS n (limbs (X * Y))) = true ∧ (mkS n (limbs (X * Y))).2.length ≤ 50 := by
  rw [mkS_limbs]
  exact ⟨rfl, ofZ_ok _, ofZ_len _⟩
theorem cross_val {n : Bool} {X Y : Nat} (hx : (X : Int) < bp 18) (hy : (Y : Int) < bp 18) : valS (mkS n (limbs (X * Y))) = (if n = true then -(X : Int) else X) * Y := by
  have h := limbs_length_le _ 36 (prod_lt hx hy)
  rw [mkS_limbs, ofZ_val]
  · split
    · rw [Int.natCast_mul, Int.neg_mul]
    · rw [Int.natCast_mul]
  · rw [show (if n = true then -((X * Y : Nat) : Int) else ((X * Y : Nat) : Int)).natAbs = X * Y by split <;> omega]
    omega
theorem abs_lt {z : Int} {m : Nat} {b : Int} (h : z.natAbs = m) (hb : (m : Int) < b) : -b < z ∧ z < b := by omega
theorem cross_lt {n : Bool} {X Y : Nat} (hx : (X : Int) < bp 18) (hy : (Y : Int) < bp 18) : -(bp 36) < (if n = true then -(X : Int) else X) * Y ∧ (if n = true then -(X : Int) else X) * Y < bp 36 := by
  have h := prod_lt hx hy
  refine abs_lt (m := X * Y) ?_ h
  split
  · rw [Int.neg_mul, Int.natAbs_neg, ← Int.natCast_mul]; omega
  · rw [← Int.natCast_mul]; omega
/-- the sum of two cross products -/
theorem sum_ofZ {z : Int} (h1 : -(bp 37) < z) (h2 : z < bp 37) : ofZ z = (decide (z < 0), limbs z.natAbs) ∧ (limbs z.natAbs).length ≤ 37 := by
  have hl := limbs_length_le z.natAbs 37 (by omega)
  unfold ofZ
  rw [if_pos (by omega)]
  exact ⟨rfl, hl⟩
theorem lowQ_sz (n : Bool) (a b : Nat) : szQ (lowQ n a b).1 ≤ 1048576 := by
  unfold lowQ
  split
  · rename_i h
    unfold szQ szS szI
    simp only
    have : (mkS n (limbs (a / Nat.gcd a b))).2.length ≤ 50 := by rw [mkS_limbs]; exact ofZ_len _
    omega
  · decide
theorem zeroQ_sz : szQ zeroQ ≤ 1048576 := by decide
/-- a result that lies in its cells at block r: a new fraction and a bool with it -/
theorem newQb_at {r B : Nat} {S : List Nat} {c0 c1 c2 : Value} {x : QI} {b : Bool} {w W : World} (o : At S (OwnQ (.agg #[c0, c1, c2]) x) W) (l : Within S B W.heap.size) (hrB : r < B) (hr : w.heap.size ≤ r) (hW : Below w.heap.size w W) :
    PostQb x b w (.returned (.tuple #[.agg #[c0, c1, c2], .bool b])) (((W.setCell ⟨r, 0, none⟩ c0).setCell ⟨r, 1, none⟩ c1).setCell ⟨r, 2, none⟩ c2) := by
  have hc : Chg [r] W (((W.setCell ⟨r, 0, none⟩ c0).setCell ⟨r, 1, none⟩ c1).setCell ⟨r, 2, none⟩ c2) := (((Chg.refl _ _).setCell (by simp) _).setCell (by simp) _).setCell (by simp) _
  have hz := hc.size
  exact ⟨_, S, rfl, o.chg hc (fun i hi hm => by have := l i hi; simp at hm; omega), fun i hi => by have := l i hi; omega, below_set3 hW hr⟩
theorem Chg.setNew {T : List Nat} {w w1 : World} {p : Addr} (h : Chg T w w1) (hp : w.heap.size ≤ p.block) (u : Value) : Chg T w (w1.setCell p u) :=
  ⟨h.os, h.tape, h.output, by simpa [World.setCell] using h.size, fun i hi hn => (Below.heap_setCell _ _ _ _ (by omega)).trans (h.block i hi hn)⟩
theorem below_of_chg {w w1 : World} (h : Chg [] w w1) : Below w.heap.size w w1 := ⟨h.os, h.tape, h.output, h.size, fun i hi => h.block i hi (by simp)⟩
theorem mulX_any (va vb : Value) (a b : List Int) (X : Nat) (w : World) (hal : a.length ≤ 18) (hbl : b.length ≤ 18) (oa : natOkB a = true) (ob : natOkB b = true) (hX : (nval a * nval b).toNat = X) (ha : OwnI va a w) (hb : OwnI vb b w) :
    Calls Tryz.prog 193 #[va, vb] w (NewV (fun u => OwnI u (limbs X)) w) := by
  subst hX
  exact (specMulV_any va vb a b 0 _ 0 _ w (by omega) (by omega) (Nat.le_refl _) (Nat.le_refl _) (natOk_parts oa).1 (natOk_parts ob).1 ha.row hb.row).mono fun _ _ h => h.newV
theorem makeX_any (n : Bool) (v : Value) (X : Nat) (A : SI) (w : World) (hl : (limbs X).length ≤ 50) (hA : mkS n (limbs X) = A) (ho : OwnI v (limbs X) w) : Calls Tryz.prog 142 #[.bool n, v] w (NewV (fun u => OwnS u A) w) := by
  subst hA
  have h := l04Make_any n v (limbs X) 0 w (by omega) ho
  rw [trim_ok] at h
  exact h.mono fun _ _ h => h.newV
theorem addX_any (vx vy : Value) (x y N : SI) (w : World) (okx : okS x = true) (oky : okS y = true) (hN : ofZ (valS x + valS y) = N) (hx : OwnS vx x w) (hy : OwnS vy y w) : Calls Tryz.prog 203 #[vx, vy] w (NewV (fun u => OwnS u N) w) := by
  subst hN
  exact (l04Add_any vx vy x y w okx oky hx hy).mono fun _ _ h => h.newV
theorem lowX_any (n : Bool) (va vb : Value) (a b : List Int) (X Y : Nat) (w : World) (hX : (limbs X).length ≤ 50) (hY : (limbs Y).length ≤ 50) (ha : a = limbs X) (hb : b = limbs Y) (oa : OwnI va a w) (ob : OwnI vb b w) :
    Calls Tryz.prog 192 #[.bool n, va, vb] w (PostQb (lowQ n X Y).1 (lowQ n X Y).2 w) := by
  subst ha hb
  exact l05Low_any n va vb X Y w hX hY oa ob
end Go.Proofs.YtehkknphcflofaaGreatDoor

namespace Go.Proofs.YtehkknphcflofaaGreatDoor
open Go.RowKit

def modeB (m : Int) : Bool := decide (0 ≤ m ∧ m ≤ 6)
/-- the name of a mode -/
def nameB (m : Int) : ByteArray :=
  if m = 0 then ⟨#[100, 111, 119, 110]⟩ else if m = 1 then ⟨#[117, 112]⟩ else if m = 2 then ⟨#[102, 108, 111, 111, 114]⟩ else if m = 3 then ⟨#[99, 101, 105, 108]⟩
  else if m = 4 then ⟨#[104, 97, 108, 102, 100, 111, 119, 110]⟩ else if m = 5 then ⟨#[104, 97, 108, 102, 117, 112]⟩ else if m = 6 then ⟨#[104, 97, 108, 102, 101, 118, 101, 110]⟩ else ⟨#[]⟩
theorem modeB_cases {m : Int} (h : modeB m = true) : m = 0 ∨ m = 1 ∨ m = 2 ∨ m = 3 ∨ m = 4 ∨ m = 5 ∨ m = 6 := by
  have := of_decide_eq_true h
  omega
theorem modeB_false {m : Int} (h : ¬ modeB m = true) : nameB m = ⟨#[]⟩ ∧ ¬ (0 ≤ m ∧ m ≤ 6) := by
  have h' : ¬ (0 ≤ m ∧ m ≤ 6) := fun e => h (decide_eq_true e)
  refine ⟨?_, h'⟩
  unfold nameB
  rw [if_neg (by omega), if_neg (by omega), if_neg (by omega), if_neg (by omega), if_neg (by omega), if_neg (by omega), if_neg (by omega)]
end Go.Proofs.YtehkknphcflofaaGreatDoor

namespace Go.Proofs.YtehkknphcflofaaGreatDoor
open Go.RowKit

/-- is the size rounded up: by the sign, the whole part, what is left over, the denominator and the mode -/
def awayB (neg : Bool) (Q R D : Nat) (m : Int) : Bool :=
  if m = 0 then false else if m = 1 then true else if m = 2 then neg else if m = 3 then !neg else if m = 4 then decide (D < 2 * R) else if m = 5 then decide (D ≤ 2 * R)
  else decide (D < 2 * R) || (decide (2 * R = D) && decide (Q % 2 = 1))
def roundN (neg : Bool) (A D : Nat) (m : Int) : Nat := A / D + if A % D ≠ 0 ∧ awayB neg (A / D) (A % D) D m = true then 1 else 0
/-- a right fraction, rounded -/
def roundS (r : QI) (m : Int) : SI := mkS r.1.1 (limbs (roundN r.1.1 (topN r) (denQ r) m))
/-- what RatRound answers -/
def roundR (r : QI) (m : Int) : SI × Bool := if okQ r = true ∧ modeB m = true then (roundS r m, true) else (zeroS, false)
/-- what RatRest answers: the fraction of the rounded number, the remainder -/
def restB (r : QI) (m : Int) : Bool := (roundR r m).2 && (makeQ (roundR r m).1 (ofZ 1)).2 && (subQ r (makeQ (roundR r m).1 (ofZ 1)).1).2
def restS (r : QI) (m : Int) : SI := if restB r m = true then (roundR r m).1 else zeroS
def restQ (r : QI) (m : Int) : QI := if restB r m = true then (subQ r (makeQ (roundR r m).1 (ofZ 1)).1).1 else zeroQ
theorem roundN_le (neg : Bool) (A D : Nat) (m : Int) : roundN neg A D m ≤ A / D + 1 := by unfold roundN; split <;> omega
theorem roundN_lt {r : QI} (h : Parts r) (m : Int) : (roundN r.1.1 (topN r) (denQ r) m : Int) ≤ bp 18 := by
  have h1 := roundN_le r.1.1 (topN r) (denQ r) m
  have h2 : topN r / denQ r ≤ topN r := Nat.div_le_self ..
  have h3 := h.nlt
  omega
theorem bp_step (k : Nat) : bp k < bp (k + 1) := by
  have p := bp_pos k
  have e : bp (k + 1) = 1000000000 * bp k := rfl
  omega
theorem round_len {r : QI} (h : Parts r) (m : Int) : (limbs (roundN r.1.1 (topN r) (denQ r) m)).length ≤ 19 := limbs_length_le _ 19 (by have := roundN_lt h m; have h2 : bp 18 < bp 19 := bp_step 18; omega)
theorem roundS_ok (r : QI) (m : Int) : okS (roundS r m) = true := by unfold roundS; rw [mkS_limbs]; exact ofZ_ok _
theorem roundS_len (r : QI) (m : Int) : (roundS r m).2.length ≤ 50 := by unfold roundS; rw [mkS_limbs]; exact ofZ_len _
theorem roundR_sz (r : QI) (m : Int) : szS (roundR r m).1 ≤ 1048576 := by
  unfold roundR
  split
  · have := roundS_len r m; unfold szS szI; simp only; omega
  · decide
/-- twice the rest, against the denominator -/
theorem twice_cmp (R D : Nat) : (0 < cmpI ((R : Int) + R + 0) D ↔ D < 2 * R) ∧ (0 ≤ cmpI ((R : Int) + R + 0) D ↔ D ≤ 2 * R) ∧ (cmpI ((R : Int) + R + 0) D = 0 ↔ 2 * R = D) := by
  unfold cmpI
  split
  · omega
  · split <;> omega
theorem lastD_any {l : List Int} (h : l ≠ []) (a b : Int) : l.getLastD a = l.getLastD b := by
  cases l with
  | nil => exact absurd rfl h
  | cons x r => rfl
theorem last_tail {x : Int} {r : List Int} (h : (x :: r).getLastD 1 ≠ 0) : r.getLastD 1 ≠ 0 := by
  by_cases hr : r = []
  · subst hr; decide
  · rw [List.getLastD_cons, lastD_any hr x 1] at h; exact h
theorem last_head {x : Int} (h : [x].getLastD 1 ≠ 0) : x ≠ 0 := h
theorem last_cons {s : Int} {r : List Int} (h : r.getLastD 1 ≠ 0) (h0 : r = [] → s ≠ 0) : (s :: r).getLastD 1 ≠ 0 := by
  by_cases hr : r = []
  · subst hr; exact h0 rfl
  · rw [List.getLastD_cons, lastD_any hr s 1]; exact h
theorem addL_nil {a b : List Int} {c : Int} (h : addL a b c = []) : a = [] ∧ b = [] ∧ ¬ 0 < c := by
  cases a with
  | nil =>
    cases b with
    | nil =>
      refine ⟨rfl, rfl, fun hc => ?_⟩
      simp only [addL, if_pos hc] at h
      cases h
    | cons y r => simp only [addL] at h; cases h
  | cons x r =>
    cases b with
    | nil => simp only [addL] at h; cases h
    | cons y q => simp only [addL] at h; cases h
/-- a sum of trimmed limbs is trimmed -/
theorem addL_last (a b : List Int) (c : Int) (ha : DigN a) (hb : DigN b) (h0 : 0 ≤ c) (h1 : c ≤ 1) (la : a.getLastD 1 ≠ 0) (lb : b.getLastD 1 ≠ 0) : (addL a b c).getLastD 1 ≠ 0 := by
  induction a, b, c using addL.induct with
  | case1 c hc => simp only [addL, if_pos hc]; show c ≠ 0; omega
  | case2 c hc => simp only [addL, if_neg hc]; decide
  | case3 c x a ih =>
    have hx := ha.head
    simp only [addL]
    refine last_cons (ih ha.tail hb (by omega) (by omega) (last_tail la) lb) fun e => ?_
    obtain ⟨rfl, _, hc⟩ := addL_nil e
    have := last_head la
    omega
  | case4 c y b ih =>
    have hy := hb.head
    simp only [addL]
    refine last_cons (ih ha hb.tail (by omega) (by omega) la (last_tail lb)) fun e => ?_
    obtain ⟨_, rfl, hc⟩ := addL_nil e
    have := last_head lb
    omega
  | case5 c x a y b ih =>
    have hx := ha.head
    have hy := hb.head
    simp only [addL]
    refine last_cons (ih ha.tail hb.tail (by omega) (by omega) (last_tail la) (last_tail lb)) fun e => ?_
    obtain ⟨rfl, rfl, hc⟩ := addL_nil e
    have := last_head la
    omega
end Go.Proofs.YtehkknphcflofaaGreatDoor

namespace Go.Proofs.YtehkknphcflofaaGreatDoor
open Go.RowKit

/-- the rational number that a fraction stands for -/
def ratV (q : QI) : Rat := (numQ q : Rat) / ((denQ q : Int) : Rat)
/-- a right fraction whose parts are short -/
structure Bd (q : QI) (m : Nat) : Prop where
  ok : okQ q = true
  num : ((numQ q).natAbs : Int) < bp m
  den : (denQ q : Int) < bp m
theorem Bd.pos {q : QI} {m : Nat} (h : Bd q m) : (0 : Int) < (denQ q : Int) := by have := denQ_pos h.ok; omega
theorem Bd.mono {q : QI} {m n : Nat} (h : Bd q m) (hm : m ≤ n) : Bd q n := ⟨h.ok, Int.lt_of_lt_of_le h.num (bp_mono hm), Int.lt_of_lt_of_le h.den (bp_mono hm)⟩
theorem rat_ne {d : Int} (h : 0 < d) : (d : Rat) ≠ 0 := by
  have : d ≠ 0 := by omega
  exact_mod_cast this
theorem ratV_of {q : QI} {N D : Int} (hq : okQ q = true) (hD : 0 < D) (h : numQ q * D = N * denQ q) : ratV q = (N : Rat) / (D : Rat) := by
  have h1 : (0 : Int) < (denQ q : Int) := by have := denQ_pos hq; omega
  have n1 := rat_ne h1
  have n2 := rat_ne hD
  have h' : (numQ q : Rat) * (D : Rat) = (N : Rat) * ((denQ q : Int) : Rat) := by exact_mod_cast h
  unfold ratV
  grind
theorem low_is (n : Bool) (a b : Nat) (hb : b ≠ 0) (ha : (a : Int) < bp 18) (hb2 : (b : Int) < bp 18) :
    (lowQ n a b).2 = true ∧ numQ (lowQ n a b).1 * b = (if n = true then -(a : Int) else a) * denQ (lowQ n a b).1 ∧ (numQ (lowQ n a b).1).natAbs ≤ a ∧ denQ (lowQ n a b).1 ≤ b := by
  have hg : 0 < Nat.gcd a b := Nat.gcd_pos_of_pos_right _ (by omega)
  obtain ⟨a', ea⟩ := Nat.gcd_dvd_left a b
  obtain ⟨b', eb⟩ := Nat.gcd_dvd_right a b
  have qa : a / Nat.gcd a b = a' := by rw [Nat.div_eq_of_eq_mul_right hg ea]
  have qb : b / Nat.gcd a b = b' := by rw [Nat.div_eq_of_eq_mul_right hg eb]
  have la : a' ≤ a := by rw [← qa]; exact Nat.div_le_self ..
  have lb : b' ≤ b := by rw [← qb]; exact Nat.div_le_self ..
  have l1 : (limbs a').length ≤ 18 := limbs_length_le _ 18 (by omega)
  have l2 : (limbs b').length ≤ 18 := limbs_length_le _ 18 (by omega)
  have e : lowQ n a b = ((mkS n (limbs a'), limbs b'), true) := by
    unfold lowQ
    rw [qa, qb, if_pos ⟨hb, l1, l2⟩]
  have ev : numQ ((mkS n (limbs a'), limbs b') : QI) = if n = true then -(a' : Int) else a' := by
    show valS (mkS n (limbs a')) = _
    rw [mkS_limbs, ofZ_val]
    rw [show (if n = true then -(a' : Int) else a').natAbs = a' by split <;> omega]
    omega
  have ed : denQ ((mkS n (limbs a'), limbs b') : QI) = b' := by
    show (nval (limbs b')).toNat = b'
    rw [limbs_val, Int.toNat_natCast]
  rw [e]
  refine ⟨rfl, ?_, ?_, ?_⟩
  · rw [ev, ed]
    have key : (a' : Int) * b = a * b' := by
      have h1 : a' * b = a * b' := by
        have e1 : a * b' = (Nat.gcd a b * a') * b' := by rw [← ea]
        have e2 : a' * b = a' * (Nat.gcd a b * b') := by rw [← eb]
        rw [e1, e2]
        ac_rfl
      exact_mod_cast h1
    split
    · rw [Int.neg_mul, Int.neg_mul, key]
    · exact key
  · rw [ev]; split <;> omega
  · rw [ed]; exact lb
theorem low_bd {n : Bool} {a b m : Nat} (hb : b ≠ 0) (hm : m ≤ 18) (ha : (a : Int) < bp m) (hb2 : (b : Int) < bp m) :
    (lowQ n a b).2 = true ∧ Bd (lowQ n a b).1 m ∧ ratV (lowQ n a b).1 = ((if n = true then -(a : Int) else a : Int) : Rat) / ((b : Int) : Rat) := by
  have h18 := bp_mono hm
  obtain ⟨h1, h2, h3, h4⟩ := low_is n a b hb (by omega) (by omega)
  have ok := lowQ_ok n a b h1
  exact ⟨h1, ⟨ok, by omega, by omega⟩, ratV_of ok (by omega) h2⟩
theorem pair_eq {Q : QI × Bool} (h : Q.2 = true) : Q = (Q.1, true) := by rw [← h]
theorem abs_top {q : QI} (h : okQ q = true) : topN q = (numQ q).natAbs := by
  have := (parts_of h).top
  rw [this]
  split <;> omega
theorem mul_lt {a b : Nat} {i j : Nat} (ha : (a : Int) < bp i) (hb : (b : Int) < bp j) : ((a * b : Nat) : Int) < bp (i + j) := by
  rw [bp_add, Int.natCast_mul]
  have p := bp_pos i
  have q := bp_pos j
  have h1 : (a : Int) * b ≤ (bp i - 1) * b := Int.mul_le_mul_of_nonneg_right (by omega) (by omega)
  have h2 : (bp i - 1) * (b : Int) ≤ (bp i - 1) * (bp j - 1) := Int.mul_le_mul_of_nonneg_left (by omega) (by omega)
  have h3 : (bp i - 1) * (bp j - 1) = bp i * bp j - bp i - bp j + 1 := by grind
  omega
theorem sign_mul (x y : Bool) (X Y : Int) : (if (x != y) = true then -(X * Y) else X * Y) = (if x = true then -X else X) * (if y = true then -Y else Y) := by
  cases x <;> cases y <;> simp [Int.neg_mul, Int.mul_neg]
theorem mul_bd {r s : QI} {i k : Nat} (hr : Bd r i) (hs : Bd s k) (h : i + k ≤ 18) : (mulQ r s).2 = true ∧ Bd (mulQ r s).1 (i + k) ∧ ratV (mulQ r s).1 = ratV r * ratV s := by
  have e : mulQ r s = lowQ (r.1.1 != s.1.1) (topN r * topN s) (denQ r * denQ s) := by unfold mulQ topN; rw [if_pos ⟨hr.ok, hs.ok⟩]
  have p1 := hr.pos
  have p2 := hs.pos
  have t1 := abs_top hr.ok
  have t2 := abs_top hs.ok
  have b1 := mul_lt hr.num hs.num
  rw [← t1, ← t2] at b1
  have hd : denQ r * denQ s ≠ 0 := Nat.mul_ne_zero (by omega) (by omega)
  obtain ⟨h1, h2, h3⟩ := low_bd (n := r.1.1 != s.1.1) hd h b1 (mul_lt hr.den hs.den)
  rw [e]
  refine ⟨h1, h2, h3.trans ?_⟩
  have n1 := rat_ne p1
  have n2 := rat_ne p2
  rw [Int.natCast_mul, sign_mul, ← (parts_of hr.ok).top, ← (parts_of hs.ok).top, Int.natCast_mul]
  unfold ratV
  simp only [Rat.intCast_mul]
  grind
theorem div_bd {r s : QI} {i k : Nat} (hr : Bd r i) (hs : Bd s k) (h : i + k ≤ 18) (h0 : numQ s ≠ 0) : (divQ r s).2 = true ∧ Bd (divQ r s).1 (i + k) ∧ ratV (divQ r s).1 * ratV s = ratV r := by
  have e : divQ r s = lowQ (r.1.1 != s.1.1) (topN r * denQ s) (denQ r * topN s) := by unfold divQ topN; rw [if_pos ⟨hr.ok, hs.ok⟩]
  have p1 := hr.pos
  have p2 := hs.pos
  have t1 := abs_top hr.ok
  have t2 := abs_top hs.ok
  have b1 := mul_lt hr.num hs.den
  rw [← t1] at b1
  have b2 := mul_lt hr.den hs.num
  rw [← t2] at b2
  have hd : denQ r * topN s ≠ 0 := Nat.mul_ne_zero (by omega) (by omega)
  obtain ⟨h1, h2, h3⟩ := low_bd (n := r.1.1 != s.1.1) hd h b1 b2
  rw [e]
  refine ⟨h1, h2, ?_⟩
  have n1 := rat_ne p1
  have n2 := rat_ne p2
  have n3 := rat_ne (show (0 : Int) < (topN s : Int) by omega)
  have q1 := (parts_of hr.ok).top
  have q2 := (parts_of hs.ok).top
  rw [h3, Int.natCast_mul, Int.natCast_mul]
  unfold ratV
  rw [q1, q2]
  generalize r.1.1 = x
  generalize s.1.1 = y
  cases x <;> cases y <;> simp only [bne_self_eq_false, Bool.false_bne, Bool.true_bne, Bool.not_false, if_true, if_false, Bool.false_eq_true, Rat.intCast_mul, Rat.intCast_neg] <;> grind
theorem negS_mag {x : SI} (h : okS x = true) : (negS x).2 = x.2 := by
  have hp := okS_parts h
  have hl := (natOk_parts hp.1).2.1
  have ha := valS_abs x hp.1
  have hx := natOk_limbs hp.1
  unfold negS
  rw [if_pos h]
  have e : (-valS x).natAbs = (nval x.2).toNat := by rw [Int.natAbs_neg]; omega
  unfold ofZ
  rw [e, ← hx, if_pos hl]
theorem neg_bd {s : QI} {k : Nat} (hs : Bd s k) : (negQ s).2 = true ∧ Bd (negQ s).1 k ∧ ratV (negQ s).1 = - ratV s := by
  have hp := okQ_parts hs.ok
  have hm := negS_mag hp.1
  have e : negQ s = ((negS s.1, s.2), true) := by unfold negQ; rw [if_pos hs.ok]
  have ev : numQ ((negS s.1, s.2) : QI) = - numQ s := by
    have hl : (limbs (-valS s.1).natAbs).length ≤ 50 := by
      have := (natOk_parts (okS_parts hp.1).1).2.1
      have hx := natOk_limbs (okS_parts hp.1).1
      have ha := valS_abs s.1 (okS_parts hp.1).1
      rw [Int.natAbs_neg, show (valS s.1).natAbs = (nval s.1.2).toNat by omega, ← hx]
      exact this
    show valS (negS s.1) = - valS s.1
    unfold negS
    rw [if_pos hp.1, ofZ_val hl]
  have hok : okQ ((negS s.1, s.2) : QI) = true := by
    have hn : okS (negS s.1) = true := by unfold negS; rw [if_pos hp.1]; exact ofZ_ok _
    unfold okQ
    simp only
    rw [hn, hp.2.1, hm]
    simp only [Bool.true_and, decide_eq_true_eq]
    exact ⟨hp.2.2.1, hp.2.2.2.1, hp.2.2.2.2.1, hp.2.2.2.2.2⟩
  rw [e]
  refine ⟨rfl, ⟨hok, by rw [ev, Int.natAbs_neg]; exact hs.num, hs.den⟩, ?_⟩
  unfold ratV
  rw [ev, show denQ ((negS s.1, s.2) : QI) = denQ s from rfl]
  simp only [Rat.intCast_neg]
  grind
end Go.Proofs.YtehkknphcflofaaGreatDoor

namespace Go.Proofs.YtehkknphcflofaaGreatDoor
open Go.RowKit

def ratD (d : DI) : QI := if okD d = true then (makeQ d.1 (tenS d.2)).1 else zeroQ
theorem rat_bad {d : DI} (h : ¬ okD d = true) : ratD d = zeroQ := by unfold ratD; rw [if_neg h]
theorem ten_bd {d : DI} (h : okD d = true) : makeQ d.1 (tenS d.2) = (ratD d, true) ∧ Bd (ratD d) 6 ∧ ratV (ratD d) = (numD d : Rat) / (pt d.2 : Rat) := by
  have p := partsD h
  have hp := okS_parts p.ok
  have t := tenS_ok p.lo p.hi
  have hn := nval_ok hp.1
  have hP := pt_pos d.2
  have e : makeQ d.1 (tenS d.2) = lowQ d.1.1 (nval d.1.2).toNat (pt d.2).toNat := by
    unfold makeQ
    rw [if_pos ⟨p.ok, t.1⟩]
    have : nval (tenS d.2).2 = pt d.2 := t.2.1
    rw [this]
    show lowQ (d.1.1 != false) _ _ = _
    cases d.1.1 <;> rfl
  have hr : ratD d = (makeQ d.1 (tenS d.2)).1 := by unfold ratD; rw [if_pos h]
  have hab := valS_abs d.1 hp.1
  have hlt := num_lt p
  have h46 : bp 4 ≤ bp 6 := bp_mono (by omega)
  have h4 := pt_lt p.hi
  unfold numD at hlt
  obtain ⟨b1, b2, b3⟩ := low_bd (n := d.1.1) (a := (nval d.1.2).toNat) (b := (pt d.2).toNat) (m := 6) (by omega) (by omega) (by omega) (by omega)
  rw [hr, e]
  refine ⟨pair_eq b1, b2, b3.trans ?_⟩
  rw [Int.toNat_of_nonneg hn, Int.toNat_of_nonneg (by omega)]
  rfl
theorem ratD_sz (d : DI) : szQ (ratD d) ≤ 1048576 := by
  unfold ratD
  split
  · unfold makeQ
    split
    · exact lowQ_sz _ _ _
    · decide
  · decide
end Go.Proofs.YtehkknphcflofaaGreatDoor

namespace Go.Proofs.YtehkknphcflofaaGreatDoor
open Go.RowKit

/-- one -/
def unitQ : QI × Bool := makeQ (ofZ 1) (ofZ 1)
/-- the rate of one step -/
def stepT (l : List EI) (a b : ByteArray) : QI :=
  if 0 ≤ posE l a b then (match l[atE l a b]? with | some r => ratD r.2.2 | none => zeroQ)
  else (divQ unitQ.1 (match l[atE l b a]? with | some r => ratD r.2.2 | none => zeroQ)).1
def rateT (t : TI) (a b : ByteArray) : QI × Bool :=
  if howT t a b = 1 then unitQ else if howT t a b = 2 ∨ howT t a b = 3 then (stepT t.2 a b, true)
  else if howT t a b = 4 then mulQ (stepT t.2 a t.1) (stepT t.2 t.1 b) else (zeroQ, false)
theorem stepT_sz (l : List EI) (a b : ByteArray) : szQ (stepT l a b) ≤ 1048576 := by
  unfold stepT
  split
  · split
    · exact ratD_sz _
    · decide
  · exact (by unfold divQ; split; exact lowQ_sz _ _ _; decide : szQ (divQ unitQ.1 _).1 ≤ 1048576)
theorem howT_leg (t : TI) (a b : ByteArray) (h : howT t a b = 2 ∨ howT t a b = 3) : ¬ legT t.2 a b = 0 := by
  unfold howT at h
  split at h
  · split at h
    · omega
    · split at h
      · rename_i hl
        exact hl
      · split at h <;> omega
  · omega
theorem howT_piv (t : TI) (a b : ByteArray) (h : howT t a b = 4) : ¬ legT t.2 a t.1 = 0 ∧ ¬ legT t.2 t.1 b = 0 := by
  unfold howT at h
  split at h
  · split at h
    · omega
    · split at h
      · rename_i hl
        unfold legT at h
        split at h
        · omega
        · split at h <;> omega
      · split at h
        · rename_i hp
          exact ⟨hp.2.2.1, hp.2.2.2⟩
        · omega
  · omega
theorem one_szR : szS (ofZ 1) ≤ 1048576 := by unfold szS szI; have := ofZ_len 1; omega
end Go.Proofs.YtehkknphcflofaaGreatDoor

namespace Go.Proofs.YtehkknphcflofaaGreatDoor
open Go.RowKit

theorem limbs_one : limbs 1 = [1] := by
  rw [limbs, dif_neg (by decide), show 1 / 1000000000 = 0 from rfl, limbs, dif_pos rfl]
  rfl
theorem ofZ_one : ofZ 1 = (false, [1]) := by
  unfold ofZ
  rw [show (1 : Int).natAbs = 1 from rfl, limbs_one]
  rfl
theorem unit_low : unitQ = lowQ false 1 1 := by
  unfold unitQ makeQ
  rw [ofZ_one, if_pos ⟨by decide, by decide⟩]
  rfl
theorem unit_bd : unitQ.2 = true ∧ Bd unitQ.1 1 := by
  rw [unit_low]
  obtain ⟨h1, h2, _⟩ := low_bd (n := false) (a := 1) (b := 1) (m := 1) (by decide) (by decide) (by decide) (by decide)
  exact ⟨h1, h2⟩
theorem okT_mem {t : TI} (h : okT t = true) {x : EI} (hx : x ∈ t.2) : okE x = true := by
  rw [okT_pairs, Bool.and_eq_true, Bool.and_eq_true, Bool.and_eq_true] at h
  exact List.all_eq_true.1 h.2.2.1 x hx
theorem num_posE {x : EI} (h : okE x = true) : 0 < numD x.2.2 := by
  obtain ⟨_, _, _, h4, h5, _⟩ := okE_parts h
  unfold cmpS at h5
  split at h5
  · unfold cmpI at h5
    have e : valS zeroS = 0 := rfl
    rw [e] at h5
    unfold numD
    split at h5
    · omega
    · split at h5
      · assumption
      · omega
  · omega
theorem leg_bd {x : EI} (h : okE x = true) : Bd (ratD x.2.2) 6 ∧ numQ (ratD x.2.2) ≠ 0 := by
  obtain ⟨_, _, _, h4, _, _⟩ := okE_parts h
  have hb := ten_bd h4
  refine ⟨hb.2.1, fun h0 => ?_⟩
  have hp := num_posE h
  have hq := hb.2.2
  have hd := hb.2.1.pos
  have hpt := pt_pos x.2.2.2
  unfold ratV at hq
  rw [h0] at hq
  have n1 := rat_ne hd
  have n2 := rat_ne hpt
  have n3 : (numD x.2.2 : Rat) ≠ 0 := rat_ne hp
  apply n3
  have e : (((0 : Int)) : Rat) = 0 := rfl
  rw [e] at hq
  grind
theorem step_bd {t : TI} {a b : ByteArray} (ht : okT t = true) (h : ¬ legT t.2 a b = 0) : Bd (stepT t.2 a b) 7 := by
  by_cases h0 : 0 ≤ posE t.2 a b
  · obtain ⟨n, x, e1, e2, e3⟩ := posE_at h0
    have e : stepT t.2 a b = ratD x.2.2 := by unfold stepT; rw [if_pos h0, e3, e2]
    rw [e]
    exact (leg_bd (okT_mem ht (List.mem_of_getElem? e2))).1.mono (by decide)
  · have h1 : 0 ≤ posE t.2 b a := by
      unfold legT at h
      rw [if_neg h0] at h
      split at h
      · assumption
      · exact absurd rfl h
    obtain ⟨n, x, e1, e2, e3⟩ := posE_at h1
    have e : stepT t.2 a b = (divQ unitQ.1 (ratD x.2.2)).1 := by unfold stepT; rw [if_neg h0, e3, e2]
    have hl := leg_bd (okT_mem ht (List.mem_of_getElem? e2))
    rw [e]
    exact (div_bd unit_bd.2 hl.1 (by decide) hl.2).2.1
theorem leg_self {t : TI} (ht : okT t = true) (a : ByteArray) : legT t.2 a a = 0 := by
  have hn : ¬ 0 ≤ posE t.2 a a := fun h0 => by
    obtain ⟨n, x, e1, e2, e3⟩ := posE_at h0
    obtain ⟨y, hy, hp⟩ := atE_has (l := t.2) (a := a) (b := a) (by rw [e3]; exact (List.getElem?_eq_some_iff.1 e2).1)
    have := (okE_parts (okT_mem ht (List.mem_of_getElem? hy))).2.2.1
    exact this (hp.1.trans hp.2.symm)
  unfold legT
  rw [if_neg hn, if_neg hn]
/-- what is stored of a pair, without the pivot -/
def storeT (l : List EI) (a b : ByteArray) : QI × Int := if legT l a b = 0 then (zeroQ, 0) else (stepT l a b, legT l a b)
def pivT (t : TI) (a b : ByteArray) : QI × Int :=
  if legT t.2 a t.1 = 0 ∨ legT t.2 t.1 b = 0 then (zeroQ, 0) else ((mulQ (stepT t.2 a t.1) (stepT t.2 t.1 b)).1, 4)
def findT (t : TI) (a b : ByteArray) : QI × Int :=
  if okT t = true ∧ knownC a = true ∧ knownC b = true then (if a = b then (unitQ.1, 1) else if legT t.2 a b = 0 then pivT t a b else (stepT t.2 a b, legT t.2 a b)) else (zeroQ, 0)
theorem legT_cases (l : List EI) (a b : ByteArray) : legT l a b = 0 ∨ legT l a b = 2 ∨ legT l a b = 3 := by
  unfold legT
  split
  · exact .inr (.inl rfl)
  · split
    · exact .inr (.inr rfl)
    · exact .inl rfl
theorem find_how (t : TI) (a b : ByteArray) : (findT t a b).2 = howT t a b := by
  unfold findT howT
  by_cases h : okT t = true ∧ knownC a = true ∧ knownC b = true
  · rw [if_pos h, if_pos h]
    by_cases hab : a = b
    · rw [if_pos hab, if_pos hab]
    · rw [if_neg hab, if_neg hab]
      by_cases hl : legT t.2 a b = 0
      · rw [if_pos hl, if_neg (fun h => h hl)]
        unfold pivT
        by_cases hp : legT t.2 a t.1 = 0 ∨ legT t.2 t.1 b = 0
        · rw [if_pos hp, if_neg (fun hh => by
            rcases hp with hp | hp
            · exact hh.2.2.1 hp
            · exact hh.2.2.2 hp)]
        · rw [if_neg hp, if_pos ⟨fun e => hp (.inl (by rw [e]; exact leg_self h.1 _)), fun e => hp (.inr (by rw [e]; exact leg_self h.1 _)), fun e => hp (.inl e), fun e => hp (.inr e)⟩]
      · rw [if_neg hl, if_pos hl]
  · rw [if_neg h, if_neg h]
theorem find_rate (t : TI) (a b : ByteArray) : rateT t a b = ((findT t a b).1, (findT t a b).2 != 0) := by
  have hh := find_how t a b
  unfold rateT
  rw [← hh]
  unfold findT
  by_cases h : okT t = true ∧ knownC a = true ∧ knownC b = true
  · rw [if_pos h]
    by_cases hab : a = b
    · rw [if_pos hab, if_pos rfl]
      exact pair_eq unit_bd.1
    · rw [if_neg hab]
      by_cases hl : legT t.2 a b = 0
      · rw [if_pos hl]
        unfold pivT
        by_cases hp : legT t.2 a t.1 = 0 ∨ legT t.2 t.1 b = 0
        · rw [if_pos hp]
          rfl
        · rw [if_neg hp]
          exact pair_eq (mul_bd (step_bd h.1 (fun e => hp (.inl e))) (step_bd h.1 (fun e => hp (.inr e))) (by decide)).1
      · rw [if_neg hl]
        rcases legT_cases t.2 a b with h0 | h2 | h2
        · exact absurd h0 hl
        · rw [h2]; rfl
        · rw [h2]; rfl
  · rw [if_neg h]
    rfl
theorem findT_sz (t : TI) (a b : ByteArray) : szQ (findT t a b).1 ≤ 1048576 := by
  unfold findT
  split
  · split
    · rw [unit_low]; exact lowQ_sz _ _ _
    · split
      · unfold pivT
        split
        · exact zeroQ_sz
        · exact (by unfold mulQ; split; exact lowQ_sz _ _ _; exact zeroQ_sz : szQ (mulQ _ _).1 ≤ 1048576)
      · exact stepT_sz _ _ _
  · exact zeroQ_sz
end Go.Proofs.YtehkknphcflofaaGreatDoor
