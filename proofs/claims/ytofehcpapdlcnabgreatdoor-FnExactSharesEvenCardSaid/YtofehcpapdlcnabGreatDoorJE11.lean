/-
  ShareSpec, FairI, ShareLowW
-/
import Derived.Laws.OwnMore
import Derived.Deep.AppendLies
import Derived.Deep.RegionHeld3
import Derived.Test.YtofehcpapdlcnabGreatDoorJE10
namespace Go.Proofs.YtofehcpapdlcnabGreatDoor
open Go.RowKit

/-- what Shares answers: a slice of the call's own -/
def SharesPost (x : SI) (ws : List Int) (w : World) (e : Ending) (w' : World) : Prop :=
  ∃ u, e = .returned (.tuple #[u, .bool (sharesR x ws).2]) ∧ RowS w.heap.size u (sharesR x ws).1 w' ∧ Below w.heap.size w w'
theorem sharesPost_no {x : SI} {ws : List Int} {w w' : World} (h : okSh x ws = false) (hb : Below w.heap.size w w') : SharesPost x ws w (.returned (.tuple #[.slice none 0 0, .bool false])) w' := by
  have e : sharesR x ws = ([], false) := by unfold sharesR; rw [if_neg (by rw [h]; decide)]
  unfold SharesPost
  rw [e]
  exact ⟨_, rfl, rowS_nil _ _, hb⟩
theorem sharesPost_yes {x : SI} {ws : List Int} {w w' : World} {u : Value} {B : Nat} (h : okSh x ws = true) (hr : RowS B u (sharesL x ws) w') (hB : w.heap.size ≤ B) (hb : Below w.heap.size w w') : SharesPost x ws w (.returned (.tuple #[u, .bool true])) w' := by
  have e : sharesR x ws = (sharesL x ws, true) := by unfold sharesR; rw [if_pos h]
  unfold SharesPost
  rw [e]
  obtain ⟨e1, h1, h2, h3, h4⟩ := hr
  exact ⟨u, rfl, ⟨e1, own_lowS h1 hB, h2, fun j y p hy hp => ⟨(h3 j y p hy hp).1, own_lowS (h3 j y p hy hp).2 hB⟩, h4⟩, hb⟩
theorem rowS_made (w : World) {B : Nat} (hB : B ≤ w.heap.size) : RowS B (.slice (some ⟨w.heap.size, 0, none⟩) 0 0) [] (w.alloc (.cells #[] 29)) := by
  have h := World.ownsRow_made w (e := 29) (size := 2) (base := B) #[] 0 hB (Nat.zero_le _) rfl
  exact ⟨[], h, rfl, fun j x p hx => by simp at hx, fun i j p q b hp => by simp at hp⟩
theorem rowQ_made (w : World) {B : Nat} (hB : B ≤ w.heap.size) : RowQ B (.slice (some ⟨w.heap.size, 0, none⟩) 0 0) [] (w.alloc (.cells #[] 63)) := by
  have h := World.ownsRow_made w (e := 63) (size := 3) (base := B) #[] 0 hB (Nat.zero_le _) rfl
  exact ⟨[], h, rfl, fun j x p hx => by simp at hx⟩
/-- as far as the first loop has come -/
def lowK (x : SI) (ws : List Int) (k : Nat) : List SI := (List.range k).map fun i => (roundR (fairF x ws i) 0).1
def lackK (x : SI) (ws : List Int) (k : Nat) : List QI := (List.range k).map fun i => lackQ (fairF x ws i)
theorem lowK_succ (x : SI) (ws : List Int) (k : Nat) : lowK x ws (k + 1) = lowK x ws k ++ [(roundR (fairF x ws k) 0).1] := by unfold lowK; rw [List.range_succ, List.map_append]; rfl
theorem lackK_succ (x : SI) (ws : List Int) (k : Nat) : lackK x ws (k + 1) = lackK x ws k ++ [lackQ (fairF x ws k)] := by unfold lackK; rw [List.range_succ, List.map_append]; rfl
theorem lowK_len (x : SI) (ws : List Int) (k : Nat) : (lowK x ws k).length = k := by unfold lowK; simp
theorem lackK_len (x : SI) (ws : List Int) (k : Nat) : (lackK x ws k).length = k := by unfold lackK; simp
theorem two_newS (w : World) (x y : Value) (t : TypeId) : ∀ (j : Nat) (u : Value), [x, y][j]? = some u → (w.alloc (.cells #[x, y] t)).cell? (Addr.add ⟨w.heap.size, 0, none⟩ j) = some u := by
  intro j u h
  rw [add_own]
  match j, h with
  | 0, h => rw [World.cell?_alloc_at _ _ _ _ rfl]; simpa using h
  | 1, h => rw [World.cell?_alloc_at _ _ _ _ rfl]; simpa using h
  | j + 2, h => simp at h
theorem three_newQ (w : World) (x y z : Value) (t : TypeId) : ∀ (j : Nat) (u : Value), [x, y, z][j]? = some u → (w.alloc (.cells #[x, y, z] t)).cell? (Addr.add ⟨w.heap.size, 0, none⟩ j) = some u := by
  intro j u h
  rw [add_own]
  match j, h with
  | 0, h => rw [World.cell?_alloc_at _ _ _ _ rfl]; simpa using h
  | 1, h => rw [World.cell?_alloc_at _ _ _ _ rfl]; simpa using h
  | 2, h => rw [World.cell?_alloc_at _ _ _ _ rfl]; simpa using h
  | j + 3, h => simp at h
theorem signedInfoS : (Tryz.prog.info? 29).map (fun i => (i.zero, i.size, i.bytes)) = some (some (.agg #[.bool false, .slice none 0 0]), 2, 32) := by kernel_rfl
theorem ratInfoS : (Tryz.prog.info? 63).map (fun i => (i.zero, i.size, i.bytes)) = some (some (.agg #[.bool false, .slice none 0 0, .slice none 0 0]), 3, 56) := by kernel_rfl
theorem ownS_row {x : SI} {b : Bool} {u : Value} {w : World} {S : List Nat} {N : Nat} (o : At S (OwnS (.agg #[.bool b, u]) x) w) (l : ∀ i ∈ S, N ≤ i) : w.ownsRow N 3 1 u x.2.length (intsV x.2) := by
  have h := ownS_open o.here
  have hm := at_ints_mem o (fun w' h => ownS_open h)
  obtain ⟨hl, h0 | ⟨g, cap, cur, rfl, hg, r⟩⟩ := h
  · exact ⟨hl, .inl h0⟩
  · exact ⟨hl, .inr ⟨g, cap, cur, rfl, l g (hm g rfl), r⟩⟩

/-- a slice of numbers stays where a slice of another kind grows -/
theorem RowS.grown {B n sz : Nat} {T : TypeId} {u v : Value} {l : List SI} {xs : List Value} {W1 W2 : World} (h : RowS B u l W1) (h1 : W1.ownsRow B T sz v n xs) (hT : ¬ T = 29) (hT2 : ¬ T = 3) (hg : W1.grownBy W2 v.ownBlock) : RowS B u l W2 := by
  obtain ⟨e, a1, a2, a3, a4⟩ := h
  refine ⟨e, own_stays a1 fun g hv => hg.block g (own_lt a1 hv).2 fun e => own_typesS h1 a1 hT e.symm hv, a2, fun j x p hx hp => ?_, a4⟩
  obtain ⟨b1, b5⟩ := a3 j x p hx hp
  exact ⟨b1, own_stays b5 fun g hv => hg.block g (own_lt b5 hv).2 fun e => own_typesS h1 b5 hT2 e.symm hv⟩
theorem RowQ.grown {B n sz : Nat} {T : TypeId} {u v : Value} {l : List QI} {xs : List Value} {W1 W2 : World} (h : RowQ B u l W1) (h1 : W1.ownsRow B T sz v n xs) (hT : ¬ T = 63) (hT2 : ¬ T = 3) (hg : W1.grownBy W2 v.ownBlock) : RowQ B u l W2 := by
  obtain ⟨e, a1, a2, a3⟩ := h
  refine ⟨e, own_stays a1 fun g hv => hg.block g (own_lt a1 hv).2 fun e => own_typesS h1 a1 hT e.symm hv, a2, fun j x p hx hp => ?_⟩
  obtain ⟨b1, b5⟩ := a3 j x p hx hp
  exact ⟨b1, ownQ_grown h1 hT2 hg b5⟩
theorem at_grownS {S : List Nat} {φ : World → Prop} {W1 W2 : World} {v : Value} (h : At S φ W1) (hg : W1.grownBy W2 v.ownBlock) (hn : ∀ i ∈ S, ¬ v.ownBlock = some i) : At S φ W2 :=
  ⟨h.stays _ fun i hi => hg.block i (h.lt i hi) fun e => hn i hi e.symm, fun i hi => Nat.lt_of_lt_of_le (h.lt i hi) hg.size, fun w' hk => h.stays w' fun i hi => (hk i hi).trans (hg.block i (h.lt i hi) fun e => hn i hi e.symm)⟩
theorem below_grownS {B : Nat} {w wr w2 w3 : World} {v : Value} {o : Obj} (hb : Below B w wr) (hB : B ≤ wr.heap.size) (b2 : Below wr.heap.size wr w2) (hg : (w2.alloc o).grownBy w3 v.ownBlock) (hv : ∀ b, v.ownBlock = some b → B ≤ b) : Below B w w3 := by
  have h1 : Below B w w2 := hb.trans (b2.mono hB)
  exact (h1.alloc (Nat.le_trans hB b2.size) o).grown hg (Nat.le_trans hB (Nat.le_trans b2.size (by simp))) hv
theorem lowK_parts {x : SI} {ws : List Int} (h : Good x ws) : lowK x ws ws.length = partsK x ws [] := by
  unfold lowK partsK
  apply List.map_congr_left
  intro i hi
  rw [(h.part (List.mem_range.1 hi)).2.2.2]
  simp
/-- what each part lacks, once the places of C have got their unit -/
def lacksK (x : SI) (ws : List Int) (C : List Nat) : List QI := (List.range ws.length).map fun i => if i ∈ C then oneQ else lackQ (fairF x ws i)
theorem lackK_lacks (x : SI) (ws : List Int) : lackK x ws ws.length = lacksK x ws [] := by unfold lackK lacksK; simp
theorem partsK_len (x : SI) (ws : List Int) (C : List Nat) : (partsK x ws C).length = ws.length := by unfold partsK; simp
theorem lacksK_len (x : SI) (ws : List Int) (C : List Nat) : (lacksK x ws C).length = ws.length := by unfold lacksK; simp
theorem partsK_sz (x : SI) (ws : List Int) (C : List Nat) : ∀ y ∈ partsK x ws C, y.2.length ≤ 1048576 := by
  intro y hy
  unfold partsK at hy
  obtain ⟨i, _, rfl⟩ := List.mem_map.1 hy
  exact Nat.le_trans (ofZ_len _) (by decide)
theorem sumS_lenS {l : List SI} (h : l.all okS = true) : (sumS l).2.length ≤ 1048576 := by rw [sumS_ok h]; exact Nat.le_trans (foldS_len l) (by decide)
theorem partsK_ok (x : SI) (ws : List Int) (C : List Nat) : (partsK x ws C).all okS = true := by
  rw [List.all_eq_true]
  intro y hy
  unfold partsK at hy
  obtain ⟨i, _, rfl⟩ := List.mem_map.1 hy
  exact ofZ_ok _
theorem subS_lenS (x y : SI) : (subS x y).2.length ≤ 1048576 := by unfold subS; split; exact Nat.le_trans (ofZ_len _) (by decide); exact Nat.zero_le _
theorem absS_lenS (x : SI) : (absS x).2.length ≤ 1048576 := by unfold absS; split; exact Nat.le_trans (ofZ_len _) (by decide); exact Nat.zero_le _
theorem newS_isS {x y : SI} (e : x = y) {w w' : World} {n : Ending} (h : NewS x w n w') : NewV (fun u => OwnS u y) w n w' := by subst e; exact h.newV
theorem at_boxS {b : Nat} {cs : Array Value} {T : TypeId} {W : World} (h : BoxAt b cs T W) (hl : b < W.heap.size) : At [b] (BoxAt b cs T) W :=
  ⟨h, fun i hi => by simp at hi; omega, fun w' hk => (hk b (by simp)).trans h⟩
theorem set2_boxS {b : Nat} {x0 x1 c0 c1 : Value} {T : TypeId} {W : World} (hb : BoxAt b #[x0, x1] T W) : BoxAt b #[c0, c1] T ((W.setCell ⟨b, 0, none⟩ c0).setCell ⟨b, 1, none⟩ c1) := by
  have hb' : W.heap[b]? = some (.cells #[x0, x1] T (0, 0)) := hb
  simp [BoxAt, World.setCell, Array.getElem?_modify, hb']
/-- the unit that is given out: its box and its limbs -/
def OneAt (r : Nat) (y : SI) (S : List Nat) (A : Option Addr) (c : Nat) (W : World) : Prop := At [r] (BoxAt r #[.bool y.1, .slice A y.2.length c] 29) W ∧ At S (OwnS (.agg #[.bool y.1, .slice A y.2.length c]) y) W
/-- the second loop of spec's Shares -/
def GiveRel (x : SI) (ws : List Int) (r : Nat) (S : List Nat) (A : Option Addr) (c : Nat) (Au Aq : Option Addr) (cu cq : Nat) (w1 w0 : World) (l : Value) (wr : World) : Prop :=
  ∃ C : List Nat, C.length ≤ missN x ws ∧ l = .int .i64 ((missN x ws : Int) - (C.length : Int)) ∧ Top (rN x ws) ws.length C ∧ RowS w1.heap.size (.slice Au ws.length cu) (partsK x ws C) wr ∧ RowQ w1.heap.size (.slice Aq ws.length cq) (lacksK x ws C) wr ∧ OneAt r (ofZ (sgZ x.1 1)) S A c wr ∧ w0.heap.size ≤ wr.heap.size ∧ Below w1.heap.size w1 wr
def keyR (x : SI) (ws : List Int) (C : List Nat) (i : Nat) : Nat := if i ∈ C then 0 else rN x ws i
theorem okQ_szS {q : QI} (h : okQ q = true) : szQ q ≤ 1048576 := by have := okQ_parts h; unfold szQ szS szI; omega
theorem Good.lackAt {x : SI} {ws : List Int} (h : Good x ws) (C : List Nat) {k : Nat} (hk : k < ws.length) : ∃ y, (lacksK x ws C)[k]? = some y ∧ ValR y (tW ws) (keyR x ws C k) ∧ szQ y ≤ 1048576 := by
  unfold lacksK keyR
  rw [List.getElem?_map, List.getElem?_range hk]
  by_cases hc : k ∈ C
  · refine ⟨oneQ, by simp [hc], ?_, okQ_szS oneQ_ok⟩
    rw [if_pos hc]
    exact valR_zero _
  · refine ⟨lackQ (fairF x ws k), by simp [hc], ?_, okQ_szS (h.lack hk).ok⟩
    rw [if_neg hc]
    exact h.lack hk
theorem cmpI_z0 {a : Nat} (h : a = 0) : cmpI (a : Int) 0 = 0 := by subst h; rfl
theorem cmpI_z1 {a : Nat} (h : 0 < a) : cmpI (a : Int) 0 = 1 := by unfold cmpI; split <;> (try split) <;> omega
theorem cmpI_p1 {a b : Nat} (h : b < a) : cmpI (a : Int) (b : Int) = 1 := by unfold cmpI; split <;> (try split) <;> omega
theorem cmpI_no {a b : Nat} (h : ¬ b < a) : cmpI (a : Int) (b : Int) = 0 ∨ cmpI (a : Int) (b : Int) = -1 := by
  unfold cmpI
  split <;> (try split) <;> omega
theorem found_key {x : SI} {ws : List Int} {C : List Nat} {k : Nat} {z : Int} (h : Found (keyR x ws C) k z) : (z = -1) ∨ ∃ m : Nat, z = (m : Int) ∧ m < k := by
  rcases h with ⟨rfl, _⟩ | ⟨m, rfl, hm, _⟩
  · exact .inl rfl
  · exact .inr ⟨m, rfl, hm⟩
theorem lacksK_set {x : SI} {ws : List Int} {C : List Nat} {p : Nat} (hp : p < ws.length) : (lacksK x ws C).set p oneQ = lacksK x ws (p :: C) := by
  unfold lacksK
  apply List.ext_getElem?
  intro i
  by_cases hi : i = p
  · subst hi
    rw [List.getElem?_set_self (by simp; exact hp), List.getElem?_map, List.getElem?_range hp]
    simp
  · rw [List.getElem?_set_ne (fun e => hi e.symm), List.getElem?_map, List.getElem?_map]
    cases hg : (List.range ws.length)[i]? with
    | none => rfl
    | some j =>
      have hj : j = i := by
        have := List.getElem?_eq_some_iff.1 hg
        simp at this
        omega
      subst hj
      simp [hi]
theorem RowS.chg {B B' n m sz g c : Nat} {T : TypeId} {u : Value} {l : List SI} {xs : List Value} {W W' : World} (h : RowS B u l W) (h1 : W.ownsRow B' T sz (.slice (some ⟨g, 0, none⟩) n c) m xs) (hT : ¬ T = 29) (hT2 : ¬ T = 3) (hc : Chg [g] W W') : RowS B u l W' := by
  obtain ⟨e, a1, a2, a3, a4⟩ := h
  refine ⟨e, own_stays a1 fun b hv => hc.block b (own_lt a1 hv).2 fun hm => own_typesS h1 a1 hT (by rw [List.mem_singleton.1 hm]; rfl) hv, a2, fun j x p hx hp => ?_, a4⟩
  obtain ⟨b1, b5⟩ := a3 j x p hx hp
  exact ⟨b1, own_stays b5 fun b hv => hc.block b (own_lt b5 hv).2 fun hm => own_typesS h1 b5 hT2 (by rw [List.mem_singleton.1 hm]; rfl) hv⟩
theorem RowQ.chg {B B' n m sz g c : Nat} {T : TypeId} {u : Value} {l : List QI} {xs : List Value} {W W' : World} (h : RowQ B u l W) (h1 : W.ownsRow B' T sz (.slice (some ⟨g, 0, none⟩) n c) m xs) (hT : ¬ T = 63) (hT2 : ¬ T = 3) (hc : Chg [g] W W') : RowQ B u l W' := by
  obtain ⟨e, a1, a2, a3⟩ := h
  refine ⟨e, own_stays a1 fun b hv => hc.block b (own_lt a1 hv).2 fun hm => own_typesS h1 a1 hT (by rw [List.mem_singleton.1 hm]; rfl) hv, a2, fun j x p hx hp => ?_⟩
  obtain ⟨b1, u1, d1, ev, o1, o2, ap⟩ := a3 j x p hx hp
  exact ⟨b1, u1, d1, ev, own_stays o1 fun b hv => hc.block b (own_lt o1 hv).2 (fun hm => own_typesS h1 o1 hT2 (by rw [List.mem_singleton.1 hm]; rfl) hv), own_stays o2 fun b hv => hc.block b (own_lt o2 hv).2 (fun hm => own_typesS h1 o2 hT2 (by rw [List.mem_singleton.1 hm]; rfl) hv), ap⟩
/-- a place of a slice that a call builds: where it lies -/
theorem rowS_place {B : Nat} {u : Value} {l : List SI} {w : World} (h : RowS B u l w) {p : Nat} {y : SI} (hp : l[p]? = some y) : ∃ g c A cy, u = .slice (some ⟨g, 0, none⟩) l.length c ∧ B ≤ g ∧ g < w.heap.size ∧ (∀ W : World, W.heap[g]? = w.heap[g]? → W.cell? ⟨g, p * 2, none⟩ = some (.bool y.1) ∧ W.cell? ⟨g, p * 2 + 1, none⟩ = some (.slice A y.2.length cy) ∧ W.frozen? ⟨g, p * 2, none⟩ = false ∧ W.frozen? ⟨g, p * 2 + 1, none⟩ = false) ∧ OwnS (.agg #[.bool y.1, .slice A y.2.length cy]) y w := by
  obtain ⟨e, h1, h2, h3, _⟩ := h
  have hl := (List.getElem?_eq_some_iff.1 hp).1
  obtain ⟨g, c, rfl, hg, hlt, _⟩ := own_form h1 (by omega)
  obtain ⟨q, hq⟩ : ∃ q, e[p]? = some q := ⟨_, List.getElem?_eq_getElem (by omega)⟩
  obtain ⟨e0, ho⟩ := h3 p y q hp hq
  obtain ⟨A, cy, ea⟩ := own_lenS ho
  rw [ea] at ho
  have hf := flatC_get hq
  rw [e0, ea] at hf
  refine ⟨g, c, A, cy, rfl, hg, hlt, fun W hW => ?_, ⟨_, rfl, own_zero ho⟩⟩
  have h1' := own_stays h1 (w' := W) fun b hb => by cases hb; exact hW
  have c0 := h1'.cellAt (p * 2) (by omega)
  have c1 := h1'.cellAt (p * 2 + 1) (by omega)
  rw [hf.1] at c0
  rw [hf.2] at c1
  exact ⟨c0, c1, h1'.frozenAt _, h1'.frozenAt _⟩
theorem rowQ_place {B : Nat} {u : Value} {l : List QI} {w : World} (h : RowQ B u l w) (hn : 0 < l.length) : ∃ g c, u = .slice (some ⟨g, 0, none⟩) l.length c ∧ B ≤ g ∧ g < w.heap.size ∧ (∀ (W : World) (j : Nat), j < l.length * 3 → W.heap[g]? = w.heap[g]? → W.frozen? ⟨g, j, none⟩ = false ∧ ∃ v, W.cell? ⟨g, j, none⟩ = some v) := by
  obtain ⟨e, h1, h2, h3⟩ := h
  obtain ⟨g, c, rfl, hg, hlt, _⟩ := own_form h1 hn
  refine ⟨g, c, rfl, hg, hlt, fun W j hj hW => ?_⟩
  have h1' := own_stays h1 (w' := W) fun b hb => by cases hb; exact hW
  exact ⟨h1'.frozenAt _, _, (h1'.cellAt j (by omega)).trans (List.getElem?_eq_getElem (by rw [flatQ_length]; omega))⟩
theorem top_none (r : Nat → Nat) (n : Nat) : Top r n [] := by
  exact top_nil r n
theorem give_start {x : SI} {ws : List Int} {r : Nat} {S : List Nat} {A : Option Addr} {c : Nat} {Au Aq : Option Addr} {cu cq : Nat} {w1 W : World} (hS : RowS w1.heap.size (.slice Au ws.length cu) (partsK x ws []) W) (hQ : RowQ w1.heap.size (.slice Aq ws.length cq) (lacksK x ws []) W) (hO : OneAt r (ofZ (sgZ x.1 1)) S A c W) (hb : Below w1.heap.size w1 W) :
    GiveRel x ws r S A c Au Aq cu cq w1 W (.int .i64 (missN x ws)) W :=
  ⟨[], Nat.zero_le _, by simp, top_none _ _, hS, hQ, hO, Nat.le_refl _, hb⟩
/-- the first loop of spec's Shares -/
def ShRel (x : SI) (ws : List Int) (w1 : World) (u q i : Value) (wr : World) : Prop :=
  ∃ k : Nat, k ≤ ws.length ∧ i = .int .i64 k ∧ RowS w1.heap.size u (lowK x ws k) wr ∧ RowQ w1.heap.size q (lackK x ws k) wr ∧ (∀ j : Nat, j < k → (fairR x ws (j : Int)).2 = true) ∧ Below w1.heap.size w1 wr
theorem fair_sz (x : SI) (ws : List Int) (i : Int) : szQ (fairR x ws i).1 ≤ 1048576 := by
  unfold fairR
  split
  · exact lowQ_sz _ _ _
  · decide

set_option maxHeartbeats 8000000 in
set_option maxRecDepth 100000 in
theorem specShares_any (v vw : Value) (x : SI) (ws : List Int) (lo hi : Nat) (w : World) (hlx : x.2.length ≤ 1048576) (hlw : ws.length ≤ 1048576) (hhi : hi ≤ w.heap.size) (h : OwnS v x w) (hr : Row w lo hi vw (intsV ws)) :
    Calls Tryz.prog 17 #[v, vw] w (SharesPost x ws w) := by
  obtain ⟨iS, hiS, hS0, hS1, hS2⟩ := info_parts signedInfoS
  obtain ⟨iQ, hiQ, hQ0, hQ1, hQ2⟩ := info_parts ratInfoS
  have Hx := Lib.hid h
  obtain ⟨Ax, cx, rfl⟩ := ownS_form h
  have OSx := Lib.hid (show ∀ W, Below w.heap.size w W → OwnS (.agg #[.bool x.1, .slice Ax x.2.length cx]) x W from fun W hb => OwnS.below Hx.out hb)
  clear h Hx
  have HR0 := Lib.hid hr
  obtain ⟨Aw, cw, rfl, _⟩ := hr
  rw [intsV_length] at HR0 ⊢
  have HRW := Lib.hid (show ∀ W, Below w.heap.size w W → Row W lo hi (.slice Aw ws.length cw) (intsV ws) from fun W hb => Row.below HR0.out hb hhi)
  clear HR0
  have kx := box_new w #[.bool x.1, .slice Ax x.2.length cx] 29
  obtain ⟨w1, hw1⟩ : ∃ W, W = w.alloc (.cells #[.bool x.1, .slice Ax x.2.length cx] 29) := ⟨_, rfl⟩
  have hs1 : w1.heap.size = w.heap.size + 1 := by rw [hw1]; simp
  have BB1 := Lib.hid (show Below w.heap.size w w1 by rw [hw1]; exact below_al (Below.refl _ _) _)
  go_enter Tryz.func17, Tryz.ntmps17
  go_wp2
  rw [← hw1] at kx ⊢
  have KX := Lib.hid kx
  have HW1 := Lib.hid hw1
  clear kx hw1
  have HR1 := rowS_made w1 (Nat.le_refl w1.heap.size)
  have HQ1 := rowQ_made (w1.alloc (.cells #[] 29)) (B := w1.heap.size) (by simp)
  rw [show (w1.alloc (.cells #[] 29)).heap.size = w1.heap.size + 1 by simp] at HQ1
  have HSTART := Lib.hid (show ShRel x ws w1 (.slice (some ⟨w.heap.size + 1, 0, none⟩) 0 0) (.slice (some ⟨w.heap.size + 1 + 1, 0, none⟩) 0 0) (.int .i64 0) ((w1.alloc (.cells #[] 29)).alloc (.cells #[] 63)) from
    by rw [← hs1]; exact ⟨0, Nat.zero_le _, rfl, HR1.below (below_al (Below.refl _ _) _), HQ1, fun j hj => absurd hj (Nat.not_lt_zero _), below_al (below_al (Below.refl _ _) _) _⟩)
  have HS1 := Lib.hid hs1
  have hq1 : w.heap.size + 1 ≤ w1.heap.size := by omega
  clear HR1 HQ1 hs1
  go_loopw [6, 7, 23] (fun u q i wr => ShRel x ws w1 u q i wr) (fun _ _ i _ => ws.length - (intOf i).toNat)
  case atStart => exact HSTART.out
  case round =>
    clear HSTART
    obtain ⟨k, hk, rfl, hS, hQ, hall, hb⟩ := hrel
    have hbs := hb.size
    by_cases hlt : k < ws.length
    · have BBW := Lib.hid (Below.next BB1.out hb)
      have HALL := Lib.hid hall
      have HBW := Lib.hid hb
      have HSW := Lib.hid hS
      have HQW := Lib.hid hQ
      have hll := lowK_len x ws k
      have hlq := lackK_len x ws k
      obtain ⟨Au, cu, rfl⟩ := rowS_len hS
      obtain ⟨Aq, cq, rfl⟩ := rowQ_len hQ
      rw [hll] at HSW ⊢
      rw [hlq] at HQW ⊢
      have kxw := KX.out.below hb
      clear hall hb hS hQ hll hlq
      have kx_c0 := kxw.here.cell 0 _ rfl
      have kx_c1 := kxw.here.cell 1 _ rfl
      go_wp2_with fail
      clear kx_c0 kx_c1
      refine (specFairShare_any _ _ x ws k lo hi _ hlx hlw (by omega) (OSx.out _ BBW.out) (HRW.out _ BBW.out)).mono ?_
      rintro e w2 ⟨vf, Sf, rfl, of, lf, b2⟩
      obtain ⟨⟨R, r⟩, hHR⟩ : ∃ q, fairR x ws (k : Int) = q := ⟨_, rfl⟩
      rw [hHR] at of ⊢
      dsimp only at of ⊢
      have bb2 := Below.next BBW.out b2
      cases r with
      | false =>
        have HE := Lib.hid (okSh_no hlt (by rw [hHR]))
        obtain ⟨A1, c1, B1, d1, rfl⟩ := ownQ_form of.here
        clear hHR
        go_wp2
        go_ret2
        exact sharesPost_no HE.out (Below.next bb2 (below_al (Below.refl _ _) _))
      | true =>
        have hzR : szQ R ≤ 1048576 := by have := fair_sz x ws k; rw [hHR] at this; exact this
        have HHR := Lib.hid hHR
        clear hHR
        obtain ⟨A1, c1, B1, d1, rfl⟩ := ownQ_form of.here
        go_upto_region 9 with fail
        have kr := box_new w2 #[.bool R.1.1, .slice A1 R.1.2.length c1, .slice B1 R.2.length d1] 63
        have al3 : Below w2.heap.size w2 (w2.alloc (.cells #[.bool R.1.1, .slice A1 R.1.2.length c1, .slice B1 R.2.length d1] 63)) := below_al (Below.refl _ _) _
        have hs3 : (w2.alloc (.cells #[.bool R.1.1, .slice A1 R.1.2.length c1, .slice B1 R.2.length d1] 63)).heap.size = w2.heap.size + 1 := by simp
        obtain ⟨w3, hw3⟩ : ∃ W, W = (w2.alloc (.cells #[.bool R.1.1, .slice A1 R.1.2.length c1, .slice B1 R.2.length d1] 63)) := ⟨_, rfl⟩
        rw [← hw3] at kr al3 hs3 ⊢
        clear hw3
        have of3 := of.below al3
        have bb3 := Below.next bb2 al3
        have BW3 := Lib.hid (b2.trans (al3.mono b2.size))
        clear of al3
        have kr_c0 := kr.here.cell 0 _ rfl
        have kr_c1 := kr.here.cell 1 _ rfl
        have kr_c2 := kr.here.cell 2 _ rfl
        go_wp2_with fail
        clear kr_c0 kr_c1 kr_c2
        refine (specRatRound_any _ R 0 _ hzR of3.here).mono ?_
        rintro e w4 ⟨vp, Sp, rfl, op, lp, b4⟩
        obtain ⟨Ap, cp, rfl⟩ := ownS_form op.here
        obtain ⟨⟨P, pb⟩, hP⟩ : ∃ q, roundR R 0 = q := ⟨_, rfl⟩
        rw [hP] at op ⊢
        dsimp only at op ⊢
        have HP := Lib.hid hP
        clear hP
        have bb4 := Below.next bb3 b4
        have BW4 := Lib.hid (BW3.out.trans (b4.mono (Nat.le_trans b2.size (by omega))))
        have of4 := of3.below b4
        have kr4 := kr.below b4
        have hz4 := b4.size
        have hz2 := b2.size
        go_upto_region 10 with fail
        have kp := box_new w4 #[.bool P.1, .slice Ap P.2.length cp] 29
        have al5 : Below w4.heap.size w4 (w4.alloc (.cells #[.bool P.1, .slice Ap P.2.length cp] 29)) := below_al (Below.refl _ _) _
        have hs5 : (w4.alloc (.cells #[.bool P.1, .slice Ap P.2.length cp] 29)).heap.size = w4.heap.size + 1 := by simp
        obtain ⟨w5, hw5⟩ : ∃ W, W = (w4.alloc (.cells #[.bool P.1, .slice Ap P.2.length cp] 29)) := ⟨_, rfl⟩
        rw [← hw5] at kp al5 hs5 ⊢
        clear hw5
        have bb5 := Below.next bb4 al5
        have BW5 := Lib.hid (BW4.out.trans (al5.mono (by omega)))
        have of5 := of4.below al5
        have kr5 := kr4.below al5
        have op5 := op.below al5
        obtain ⟨es, hse, HSN⟩ := rowS_open HSW.out
        rw [lowK_len] at hse HSN
        have onp := own_alloc (ownS_row op5 (N := w3.heap.size) (fun i hi => (lp i hi).1)) (.cells #[.bool P.1, .slice Ap P.2.length cp] 29)
        have hnew := two_newS w5 (.bool P.1) (.slice Ap P.2.length cp) 29
        have HSE := Lib.hid (own_alloc (own_stays hse fun i hi => BW5.out.block i (own_lt hse hi).2) (.cells #[.bool P.1, .slice Ap P.2.length cp] 29))
        have HSNH := Lib.hid HSN
        have HVW := Lib.hid (show ∀ b, (Value.slice Au k cu).ownBlock = some b → w1.heap.size ≤ b ∧ b < wr.heap.size from fun b hb => own_lt hse hb)
        have hq5 : w4.heap.size + 1 ≤ w5.heap.size := by omega
        have hq3 : w2.heap.size + 1 ≤ w3.heap.size := by omega
        clear hse HSN op of3 of4 kr kr4 al5 hs5 hs3
        have kp_c0 := kp.here.cell 0 _ rfl
        have kp_c1 := kp.here.cell 1 _ rfl
        go_wp2_with (at_builtin; refine wpList_append_own _ rfl _ _ 32 rfl w1.heap.size 29 iS (.agg #[.bool false, .slice none 0 0]) 2 32 Tryz.underlying32 hiS hS0 hS1 hS2 rfl (by decide) (.slice Au k cu) k (flatC es) rfl HSE.out ⟨w5.heap.size, 0, none⟩ 1 1 [.bool P.1, .slice Ap P.2.length cp] rfl rfl hnew ?c2 ?c3 ?c4 ?c5 ?_)
        case c2 => intro u hu; simp at hu; rcases hu with rfl | rfl <;> rfl
        case c3 => unfold maxLen; omega
        case c4 => omega
        case c5 => simp; omega
        intro v2 w6 hown2 hg2 _
        clear kp_c0 kp_c1
        have hz3 := BW5.out.size
        have RS6 : RowS w1.heap.size v2 (lowK x ws (k + 1)) w6 := by
          have h := HSNH.out _ w6 w3.heap.size P _ v2 (fun i hi => (((Below.refl w5.heap.size w5).alloc (Nat.le_refl _) _).block i (by omega)).trans (BW5.out.block i hi)) (by omega) (by omega) onp hown2 hg2
          rw [lowK_succ]
          rw [show (roundR (fairF x ws k) 0).1 = P by unfold fairF; rw [HHR.out, HP.out]]
          exact h
        have RQ6 : RowQ w1.heap.size (.slice Aq k cq) (lackK x ws k) w6 := by
          have h1 := (HQW.out.below BW5.out).below (below_al (Below.refl _ _) (.cells #[.bool P.1, .slice Ap P.2.length cp] 29))
          exact h1.grown HSE.out (by decide) (by decide) hg2
        have B16 : Below w1.heap.size w1 w6 := below_grownS HBW.out hbs BW5.out hg2 (fun b hb => (HVW.out b hb).1)
        have kr6 := at_grownS (kr5.below (below_al (Below.refl _ _) (.cells #[.bool P.1, .slice Ap P.2.length cp] 29))) hg2 (fun i hi hv => by have := (HVW.out i hv).2; simp at hi; omega)
        have of6 := at_grownS (of5.below (below_al (Below.refl _ _) (.cells #[.bool P.1, .slice Ap P.2.length cp] 29))) hg2 (fun i hi hv => by have := (HVW.out i hv).2; have := (lf i hi).1; omega)
        have HR := Lib.hid (show fairF x ws k = R by unfold fairF; rw [HHR.out])
        have hz6 := B16.size
        obtain ⟨A2, c2, rfl⟩ := rowS_len RS6
        rw [lowK_len] at RS6 ⊢
        have kr6_c0 := kr6.here.cell 0 _ rfl
        have kr6_c1 := kr6.here.cell 1 _ rfl
        have kr6_c2 := kr6.here.cell 2 _ rfl
        clear hown2 hg2 onp hnew kr5 of5 op5 kp BW5 BW4 BW3 HSNH HSE HVW HSW HQW HP BBW bb5 bb4 bb3 bb2 b2 b4
        go_wp2_with fail
        clear kr6_c0 kr6_c1 kr6_c2
        refine (specSize_any _ R _ hzR of6.here).mono ?_
        rintro e w7 ⟨vl, Sl, rfl, ol, ll, b7⟩
        obtain ⟨A7, c7, B7, d7, rfl⟩ := ownQ_form ol.here
        have kr7 := kr6.below b7
        have RS7 := RS6.below b7
        have hz7 := b7.size
        obtain ⟨eq, hqe, HQN⟩ := rowQ_open RQ6
        rw [lackK_len] at hqe HQN
        have ol7 := ol.below (below_al (Below.refl _ _) (.cells #[.bool (lackQ R).1.1, .slice A7 (lackQ R).1.2.length c7, .slice B7 (lackQ R).2.length d7] 63))
        have hnew := three_newQ w7 (.bool (lackQ R).1.1) (.slice A7 (lackQ R).1.2.length c7) (.slice B7 (lackQ R).2.length d7) 63
        have HQE := Lib.hid (own_alloc (own_stays hqe fun i hi => b7.block i (own_lt hqe hi).2) (.cells #[.bool (lackQ R).1.1, .slice A7 (lackQ R).1.2.length c7, .slice B7 (lackQ R).2.length d7] 63))
        have HVQ := Lib.hid (show ∀ b, (Value.slice Aq k cq).ownBlock = some b → w1.heap.size ≤ b ∧ b < w6.heap.size from fun b hb => own_lt hqe hb)
        have HQNH := Lib.hid HQN
        have HB7 := Lib.hid b7
        clear hqe HQN ol of6 kr6 b7
        go_wp2_with (at_builtin; refine wpList_append_own _ rfl _ _ 61 rfl w1.heap.size 63 iQ (.agg #[.bool false, .slice none 0 0, .slice none 0 0]) 3 56 Tryz.underlying61 hiQ hQ0 hQ1 hQ2 rfl (by decide) (.slice Aq k cq) k (flatQ eq) rfl HQE.out ⟨w7.heap.size, 0, none⟩ 1 1 [.bool (lackQ R).1.1, .slice A7 (lackQ R).1.2.length c7, .slice B7 (lackQ R).2.length d7] rfl rfl hnew ?c2 ?c3 ?c4 ?c5 ?_)
        case c2 => intro u hu; simp at hu; rcases hu with rfl | rfl | rfl <;> rfl
        case c3 => unfold maxLen; omega
        case c4 => omega
        case c5 => simp; omega
        intro v8 w8 hown8 hg8 _
        have RQ8 : RowQ w1.heap.size v8 (lackK x ws (k + 1)) w8 := by
          have h := HQNH.out _ w8 (lackQ R) _ _ v8 (fun i hi => (((Below.refl w7.heap.size w7).alloc (Nat.le_refl _) _).block i (by omega)).trans (HB7.out.block i hi)) (by simp; omega) ol7.here hown8 hg8
          rw [lackK_succ, HR.out]
          exact h
        have RS8 : RowS w1.heap.size (.slice A2 (k + 1) c2) (lowK x ws (k + 1)) w8 := (RS7.below (below_al (Below.refl _ _) _)).grown HQE.out (by decide) (by decide) hg8
        have B18 : Below w1.heap.size w1 w8 := below_grownS B16 hz6 HB7.out hg8 (fun b hb => (HVQ.out b hb).1)
        have hallN : ∀ j : Nat, j < k + 1 → (fairR x ws (j : Int)).2 = true := fun j hj => by
          rcases Nat.lt_or_ge j k with h | h
          · exact HALL.out j h
          · obtain rfl : j = k := by omega
            rw [HHR.out]
        clear hown8 hg8 hnew ol7 HQNH HQE HVQ RS7 RS6 RQ6 B16
        go_wp2
        exact ⟨⟨k + 1, by omega, by go_num, RS8, RQ8, hallN, B18⟩, by simp [intOf]; omega⟩
    · obtain rfl : k = ws.length := by omega
      have BBW := Lib.hid (Below.next BB1.out hb)
      have kxw := KX.out.below hb
      have HALL := Lib.hid hall
      have HSW := Lib.hid hS
      have HQW := Lib.hid hQ
      have HBW := Lib.hid hb
      obtain ⟨Au, cu, rfl⟩ := rowS_len hS
      obtain ⟨Aq, cq, rfl⟩ := rowQ_len hQ
      rw [lowK_len] at HSW ⊢
      rw [lackK_len] at HQW ⊢
      clear hall hb hS hQ
      go_wp2_with fail
      refine (specWeightsOk_any _ ws lo hi _ (by omega) (HRW.out _ BBW.out)).mono ?_
      rintro e w2 ⟨rfl, rfl⟩
      obtain ⟨ow, how⟩ : ∃ b, okW ws = b := ⟨_, rfl⟩
      rw [how]
      have HOW := Lib.hid how
      clear how
      cases ow with
      | false =>
        go_wp2
        go_ret2
        exact sharesPost_no (by unfold okSh; rw [HOW.out]; rfl) BBW.out
      | true =>
        have hpos : 0 < ws.length := (okW_parts HOW.out).l1
        have HOX := Lib.hid (show okS x = true by
          have h := HALL.out 0 hpos
          unfold fairR at h
          split at h
          · rename_i hc; exact hc.2.2
          · cases h)
        have HOK := Lib.hid (show okSh x ws = true by
          unfold okSh
          rw [HOW.out, HOX.out, Bool.true_and, Bool.true_and, List.all_eq_true]
          exact fun i hi => HALL.out i (List.mem_range.1 hi))
        have kx_c0 := kxw.here.cell 0 _ rfl
        have kx_c1 := kxw.here.cell 1 _ rfl
        go_wp2_with fail
        clear kx_c0 kx_c1
        refine (specIntOk_any _ x _ hlx (OwnS.rd (OSx.out _ BBW.out))).mono ?_
        rintro e w2 ⟨rfl, b2⟩
        rw [HOX.out]
        have bb2 := Below.next BBW.out b2
        go_upto_region 15 with fail
        have HG := Lib.hid (good_of HOK.out)
        rw [lowK_parts HG.out] at HSW
        rw [lackK_lacks] at HQW
        have hz1 := HBW.out.size
        have hz2 := b2.size
        have kx2 := kxw.below b2
        have HCr := Lib.hid (Chg.refl [] w2)
        have RSW := Lib.hid (show ∀ W, Chg [] w2 W → RowS w1.heap.size (.slice Au ws.length cu) (partsK x ws []) W from fun W hc => (HSW.out.below b2).stays fun i _ hi => hc.block i hi (by simp))
        have KL := Lib.hid (show ∀ W, Chg [] w2 W → W.cell? ⟨w.heap.size, 0, none⟩ = some (.bool x.1) ∧ W.cell? ⟨w.heap.size, 1, none⟩ = some (.slice Ax x.2.length cx) ∧ Hid (Chg [] w2 W) from fun W hc => ⟨(kx2.chg hc (fun i hi hm => by simp at hm)).here.cell 0 _ rfl, (kx2.chg hc (fun i hi hm => by simp at hm)).here.cell 1 _ rfl, Lib.hid hc⟩)
        have BBF := Lib.hid (show ∀ W, Chg [] w2 W → Below w.heap.size w W from fun W hc => below_chg bb2 hc bb2.size (fun i hi => by simp at hi))
        obtain ⟨s1, hs1⟩ : ∃ s, sumS (partsK x ws []) = s := ⟨_, rfl⟩
        have hl1 : s1.2.length ≤ 1048576 := by rw [← hs1]; exact sumS_lenS (partsK_ok _ _ _)
        obtain ⟨s2, hs2⟩ : ∃ s, subS x s1 = s := ⟨_, rfl⟩
        have hl2 : s2.2.length ≤ 1048576 := by rw [← hs2]; exact subS_lenS _ _
        obtain ⟨s3, hs3⟩ : ∃ s, absS s2 = s := ⟨_, rfl⟩
        have hl3 : s3.2.length ≤ 1048576 := by rw [← hs3]; exact absS_lenS _
        have hmiss := HG.out.miss
        rw [hs1, hs2, hs3] at hmiss
        have HM := Lib.hid hmiss.1
        have hml := hmiss.2
        have HS1 := Lib.hid hs1
        have HS2 := Lib.hid hs2
        have HS3 := Lib.hid hs3
        clear hs1 hs2 hs3 hmiss kx2 kxw
        have kl := KL.out _ HCr.out
        have kx_c0 := kl.1
        have kx_c1 := kl.2.1
        have hlen := partsK_len x ws []
        have HLEN := Lib.hid hlen
        clear kl hlen
        go_region_held3 (fun W => W.cell? ⟨w.heap.size, 0, none⟩ = some (.bool x.1) ∧ W.cell? ⟨w.heap.size, 1, none⟩ = some (.slice Ax x.2.length cx) ∧ Hid (Chg [] w2 W))
          ((refine KL.out _ ?_; (first | exact HC6.out | exact HC5.out | exact HC4.out | exact HC3.out | exact HCr.out | exact HC6.out.drew1 | exact HC5.out.drew1 | exact HC4.out.drew1 | exact HC3.out.drew1 | exact HCr.out.drew1 | fail)))
          (first
            | (go_at_call 47; (have hBB := (‹_ ∧ _ ∧ Hid (Chg [] w2 _)›).2.2); (with_reducible refine ((specIntSum_any _ (partsK x ws []) _ (by rw [HLEN.out]; omega) (partsK_sz _ _ _) (RSW.out _ hBB.out).ownR).mono fun _ _ h => newS_isS HS1.out h).mono ?_); rintro e w3 ⟨u3, S3, rfl, o3, l3, b3⟩; have HC3 := Lib.hid (hBB.out.trans (Chg.of_below b3)); obtain ⟨A3, c3, rfl⟩ := ownS_form o3.here; clear hBB)
            | (go_at_call 46; (have hBB := (‹_ ∧ _ ∧ Hid (Chg [] w2 _)›).2.2); (with_reducible refine ((specIntSub_any _ _ x s1 _ hlx hl1 (OSx.out _ (BBF.out _ hBB.out)) (At.here (by first | exact o3 | exact At.move o3 (fun _ _ => rfl) (Nat.le_refl _)))).mono fun _ _ h => newS_isS HS2.out h).mono ?_); rintro e w4 ⟨u4, S4, rfl, o4, l4, b4⟩; have HC4 := Lib.hid (hBB.out.trans (Chg.of_below b4)); obtain ⟨A4, c4, rfl⟩ := ownS_form o4.here; clear hBB)
            | (go_at_call 45; (have hBB := (‹_ ∧ _ ∧ Hid (Chg [] w2 _)›).2.2); (with_reducible refine ((specIntAbs_any _ s2 _ hl2 (At.here (by first | exact o4 | exact At.move o4 (fun _ _ => rfl) (Nat.le_refl _)))).mono fun _ _ h => newS_isS HS3.out h).mono ?_); rintro e w5 ⟨u5, S5, rfl, o5, l5, b5⟩; have HC5 := Lib.hid (hBB.out.trans (Chg.of_below b5)); obtain ⟨A5, c5, rfl⟩ := ownS_form o5.here; clear hBB)
            | (go_at_call 44; (have hBB := (‹_ ∧ _ ∧ Hid (Chg [] w2 _)›).2.2); (with_reducible refine (specIntNum_any _ s3 _ hl3 (At.here (by first | exact o5 | exact At.move o5 (fun _ _ => rfl) (Nat.le_refl _)))).mono ?_); rintro e w6 ⟨rfl, b6⟩; rw [HM.out]; have HC6 := Lib.hid (hBB.out.trans (Chg.of_below b6)); clear hBB))
        have bb6 := BBF.out _ HC6.out
        have RS6 := RSW.out _ HC6.out
        have RQ6 : RowQ w1.heap.size (.slice Aq ws.length cq) (lacksK x ws []) w6 := (HQW.out.below b2).below (by have h := HC6.out; exact ⟨h.os, h.tape, h.output, h.size, fun i hi => h.block i hi (by simp)⟩)
        have B16 : Below w1.heap.size w1 w6 := below_chg (Below.next HBW.out b2) HC6.out (by omega) (fun i hi => by simp at hi)
        have kl := KL.out _ HC6.out
        have kx_c0 := kl.1
        clear kl o3 o4 o5 l3 l4 l5 b3 b4 b5 b6 HC3 HC4 HC5 HM HS1 HS2 HS3 hl1 hl2 hl3 kx_c1 RSW
        have BB6 := Lib.hid bb6
        have HAU := Lib.hid (show ∀ b, (Value.slice Au ws.length cu).ownBlock = some b → b < w6.heap.size from fun b hb => by obtain ⟨e, h1, _⟩ := RS6; exact (own_lt h1 hb).2)
        have HAQ := Lib.hid (show ∀ b, (Value.slice Aq ws.length cq).ownBlock = some b → b < w6.heap.size from fun b hb => by obtain ⟨e, h1, _⟩ := RQ6; exact (own_lt h1 hb).2)
        have hz6 := B16.size
        go_wp2_with fail
        clear kx_c0
        refine ((specIntOf_any 1 _ (by decide) (by decide)).mono fun _ _ h => newS_isS rfl h).mono ?_
        rintro e w7 ⟨u7, S7, rfl, o7, l7, b7⟩
        obtain ⟨y7, hy7⟩ : ∃ y, ofZ 1 = y := ⟨_, rfl⟩
        rw [hy7] at o7
        obtain ⟨A7, c7, rfl⟩ := ownS_form o7.here
        have HY7 := Lib.hid hy7
        have hz7 := b7.size
        have k7 := box_new w7 #[.bool y7.1, .slice A7 y7.2.length c7] 29
        have al7 : Below w7.heap.size w7 (w7.alloc (.cells #[.bool y7.1, .slice A7 y7.2.length c7] 29)) := below_al (Below.refl _ _) _
        have kx8 : (w7.alloc (.cells #[.bool y7.1, .slice A7 y7.2.length c7] 29)).cell? ⟨w.heap.size, 0, none⟩ = some (.bool x.1) := (KL.out _ (HC6.out.trans ((Chg.of_below b7).trans (Chg.of_below al7)))).1
        have o8 := o7.below al7
        have b18 := b7.trans (al7.mono b7.size)
        have hs8 : w7.heap.size + 1 ≤ (w7.alloc (.cells #[.bool y7.1, .slice A7 y7.2.length c7] 29)).heap.size := by simp
        clear hy7 al7 o7 b7
        go_upto_region 17 with fail
        obtain ⟨w8, hw8⟩ : ∃ W, W = (w7.alloc (.cells #[.bool y7.1, .slice A7 y7.2.length c7] 29)) := ⟨_, rfl⟩
        rw [← hw8] at k7 kx8 o8 b18 hs8 ⊢
        clear hw8
        rcases hn : x.1 with _ | _
        · rw [hn] at kx8
          have HN := Lib.hid hn
          clear hn
          go_upto_region 19 with fail
          have ONE : OneAt w7.heap.size (ofZ (sgZ x.1 1)) S7 A7 c7 w8 := by
            rw [show ofZ (sgZ x.1 1) = y7 by rw [← HY7.out, HN.out]; rfl]
            exact ⟨k7, o8⟩
          have START := Lib.hid (give_start (RS6.below b18) (RQ6.below b18) ONE (Below.next B16 b18))
          have hSin : ∀ i ∈ S7, w6.heap.size ≤ i ∧ i < w7.heap.size := l7
          have hr0 : w6.heap.size ≤ w7.heap.size := by omega
          have hr1 : w7.heap.size < w8.heap.size := by omega
          clear kx8 k7 o8 b18 l7 RS6 RQ6 ONE B16 HY7 HN
          go_loopw [13] (fun l wr => GiveRel x ws w7.heap.size S7 A7 c7 Au Aq cu cq w1 w8 l wr) (fun l _ => (intOf l).toNat)
          case atStart => exact START.out
          case round =>
            clear START
            obtain ⟨C, hC, rfl, hT, hS, hQ, hO, hw, hb⟩ := hrel
            have hl30 := (okW_parts HOW.out).l2
            obtain ⟨d, hd⟩ : ∃ d : Int, (missN x ws : Int) - (C.length : Int) = d := ⟨_, rfl⟩
            rw [hd]
            have hbs := hb.size
            by_cases hlt : C.length < missN x ws
            · have hd0 : 0 < d := by omega
              have hd1 : d ≤ 30 := by omega
              have HD := Lib.hid hd
              have HT := Lib.hid hT
              have HSC := Lib.hid hS
              have HQC := Lib.hid hQ
              have HO := Lib.hid hO
              have HB := Lib.hid hb
              have HLT := Lib.hid hlt
              obtain ⟨wo, hwo⟩ : ∃ W, W = wr := ⟨_, rfl⟩
              subst hwo
              have HQR := Lib.hid (show ∀ W, Below wo.heap.size wo W → OwnQR W (.slice Aq (lacksK x ws C).length cq) (lacksK x ws C) from fun W hb => by have h := (HQC.out.below hb).ownQR; rw [lacksK_len]; exact h)
              clear hd hT hS hQ hO hb hlt hC
              go_wp2
              go_loopw [16, 77] (fun b i wi => ∃ (k : Nat) (z : Int), k ≤ ws.length ∧ i = .int .i64 k ∧ b = .int .i64 z ∧ Hid (Found (keyR x ws C) k z) ∧ Below wo.heap.size wo wi) (fun _ i _ => ws.length - (intOf i).toNat)
              case atStart => exact ⟨0, -1, Nat.zero_le _, rfl, rfl, Lib.hid (found_none _), Below.refl _ _⟩
              case round =>
                obtain ⟨k, z, hk, rfl, rfl, HF, hbi⟩ := hrel
                by_cases hlk : k < ws.length
                · obtain ⟨y, hy, hv, hzy⟩ := HG.out.lackAt C hlk
                  obtain ⟨A, c, ev, hcell⟩ := HQR.out wr hbi
                  obtain ⟨a, uy, dy, ea, hab, hc0, hc1, hc2, oy⟩ := hcell k y hy
                  have ev2 : Aq = A := by injection ev
                  subst ev2
                  subst ea
                  clear ev hcell
                  have q1 : (k : Int) < (ws.length : Int) := by omega
                  have q3 : (0 : Int) ≤ (k : Int) := by omega
                  obtain ⟨Ay, cy, By, dy', eyy⟩ := ownQ_form oy
                  obtain ⟨rfl, rfl⟩ : uy = .slice Ay y.1.2.length cy ∧ dy = .slice By y.2.length dy' := by
                    injection eyy with h
                    simp at h
                    exact h
                  clear eyy
                  have OY := Lib.hid (show ∀ W, Below wr.heap.size wr W → OwnQ (.agg #[.bool y.1.1, .slice Ay y.1.2.length cy, .slice By y.2.length dy']) y W from fun W hb => oy.below hb)
                  have HV := Lib.hid hv
                  have HBI := Lib.hid hbi
                  have HYY := Lib.hid hy
                  clear oy hv hbi hy
                  go_upto_region 25 with fail
                  have kb := box_new wr #[.bool y.1.1, .slice Ay y.1.2.length cy, .slice By y.2.length dy'] 63
                  have al5 : Below wr.heap.size wr (wr.alloc (.cells #[.bool y.1.1, .slice Ay y.1.2.length cy, .slice By y.2.length dy'] 63)) := below_al (Below.refl _ _) _
                  obtain ⟨w5, hw5⟩ : ∃ W, W = (wr.alloc (.cells #[.bool y.1.1, .slice Ay y.1.2.length cy, .slice By y.2.length dy'] 63)) := ⟨_, rfl⟩
                  rw [← hw5] at kb al5 ⊢
                  clear hw5 hc0 hc1 hc2
                  have HB0 := Lib.hid (Below.refl w5.heap.size w5)
                  have HB1 := Lib.hid (show Below w5.heap.size w5 w5.drew from (Below.refl _ _).drew)
                  have BIN := Lib.hid (show ∀ W, Below w5.heap.size w5 W → Below wr.heap.size wr W from fun W h => Below.next al5 h)
                  have BIO := Lib.hid (show ∀ W, Below wr.heap.size wr W → Below wo.heap.size wo W from fun W h => Below.next HBI.out h)
                  have KLB := Lib.hid (show ∀ W, Below w5.heap.size w5 W → W.cell? ⟨wr.heap.size, 0, none⟩ = some (.bool y.1.1) ∧ W.cell? ⟨wr.heap.size, 1, none⟩ = some (.slice Ay y.1.2.length cy) ∧ W.cell? ⟨wr.heap.size, 2, none⟩ = some (.slice By y.2.length dy') ∧ Hid (Below w5.heap.size w5 W) from fun W hb => ⟨(kb.below hb).here.cell 0 _ rfl, (kb.below hb).here.cell 1 _ rfl, (kb.below hb).here.cell 2 _ rfl, Lib.hid hb⟩)
                  clear al5
                  by_cases hkey : 0 < keyR x ws C k
                  · have HSG := Lib.hid (show cmpQ y oneQ = 1 by rw [valR_cmp HV.out (valR_zero _) HG.out.tpos]; exact cmpI_z1 hkey)
                    rcases found_key HF.out with hzm | ⟨m, rfl, hm⟩
                    · have hzd : decide (z < 0) = true := decide_eq_true (by omega)
                      have HZM := Lib.hid hzm
                      clear hzm
                      refine wp_region_held_drew (S := fun W => W.cell? ⟨wr.heap.size, 0, none⟩ = some (.bool y.1.1) ∧ W.cell? ⟨wr.heap.size, 1, none⟩ = some (.slice Ay y.1.2.length cy) ∧ W.cell? ⟨wr.heap.size, 2, none⟩ = some (.slice By y.2.length dy') ∧ Hid (Below w5.heap.size w5 W)) (by kernel_rfl) ?_ (fun hHeld => ?_)
                      · ((refine KLB.out _ ?_; (first | exact HB1.out | exact HB0.out | fail)))
                      refine wpAnyH_take (i := 0) (v := ?_) rfl (by kernel_rfl) (by kernel_rfl) (by kernel_rfl) (fun _ _ _ h => h) (Or.inl ⟨by kernel_rfl, ?_⟩) (by assumption) ?_
                      rotate_left
                      · (intro w hSw; (try dsimp only at hSw); go_simp; (try with_reducible rfl))
                      (try simp only [Act.put, List.getElem_toArray, List.getElem_cons_zero, List.setIfInBounds_toArray, List.set_cons_zero, List.set_cons_succ])
                      refine wpAnyH_ready (rs := [1]) (by kernel_rfl) (by simp) ?_
                      refine AllReadyH.cons rfl (fun K hK => ?_) AllReadyH.nil
                      go_simp
                      (go_at_call 49; (have hBB := (‹_ ∧ _ ∧ _ ∧ Hid (Below w5.heap.size w5 _)›).2.2.2); (with_reducible refine (specRatSign_any _ y _ hzy (OY.out _ (BIN.out _ hBB.out))).mono ?_); rintro e w6 ⟨rfl, b6⟩; rw [HSG.out]; have HB6 := Lib.hid (Below.next hBB.out b6); clear hBB)
                      refine hK.out _ _ ?_ (fun hHeld => ?_)
                      · ((refine KLB.out _ ?_; exact HB6.out))
                      clear hK K
                      (try simp only [Act.put, List.getElem_toArray, List.getElem_cons_zero, List.getElem_cons_succ, List.setIfInBounds_toArray, List.set_cons_zero, List.set_cons_succ])
                      refine wpAnyH_take (i := 2) (v := ?_) rfl (by kernel_rfl) (by kernel_rfl) (by kernel_rfl) (fun _ _ _ h => h) (Or.inl ⟨by kernel_rfl, ?_⟩) (by assumption) ?_
                      rotate_left
                      · (intro w hSw; (try dsimp only at hSw); go_simp; (try with_reducible rfl))
                      (try simp only [Act.put, List.getElem_toArray, List.getElem_cons_zero, List.getElem_cons_succ, List.setIfInBounds_toArray, List.set_cons_zero, List.set_cons_succ])
                      refine wpAnyH_take (i := 3) (v := ?_) rfl (by kernel_rfl) (by kernel_rfl) (by kernel_rfl) (fun _ _ _ h => h) (Or.inl ⟨by kernel_rfl, ?_⟩) (by assumption) ?_
                      rotate_left
                      · (intro w hSw; (try dsimp only at hSw); go_simp; (try with_reducible rfl))
                      (try simp only [Act.put, List.getElem_toArray, List.getElem_cons_zero, List.getElem_cons_succ, List.setIfInBounds_toArray, List.set_cons_zero, List.set_cons_succ])
                      refine wpAnyH_take (i := 4) (v := ?_) rfl (by kernel_rfl) (by kernel_rfl) (by kernel_rfl) (fun _ _ _ h => h) (Or.inl ⟨by kernel_rfl, ?_⟩) (by assumption) ?_
                      rotate_left
                      · (intro w hSw; (try dsimp only at hSw); go_simp; (try with_reducible rfl))
                      (try simp only [Act.put, List.getElem_toArray, List.getElem_cons_zero, List.getElem_cons_succ, List.setIfInBounds_toArray, List.set_cons_zero, List.set_cons_succ])
                      refine wpAnyH_take (i := 5) (v := ?_) rfl (by kernel_rfl) (by kernel_rfl) (by kernel_rfl) (fun _ _ _ h => h) (Or.inl ⟨by kernel_rfl, ?_⟩) (by assumption) ?_
                      rotate_left
                      · (intro w hSw; (try dsimp only at hSw); go_simp; (try with_reducible rfl))
                      (try simp only [Act.put, List.getElem_toArray, List.getElem_cons_zero, List.getElem_cons_succ, List.setIfInBounds_toArray, List.set_cons_zero, List.set_cons_succ])
                      refine wpAnyH_take (i := 6) (v := ?_) rfl (by kernel_rfl) (by kernel_rfl) (by kernel_rfl) (fun _ _ _ h => h) (Or.inl ⟨by kernel_rfl, ?_⟩) (by assumption) ?_
                      rotate_left
                      · (intro w hSw; (try dsimp only at hSw); go_simp; (try with_reducible rfl))
                      (try simp only [Act.put, List.getElem_toArray, List.getElem_cons_zero, List.getElem_cons_succ, List.setIfInBounds_toArray, List.set_cons_zero, List.set_cons_succ])
                      refine wpAnyH_take (i := 7) (v := undef) rfl (by kernel_rfl) (by kernel_rfl) (by kernel_rfl) (fun _ _ _ h => h) (Or.inr ⟨by kernel_rfl, rfl⟩) (by assumption) ?_
                      (try simp only [Act.put, List.getElem_toArray, List.getElem_cons_zero, List.getElem_cons_succ, List.setIfInBounds_toArray, List.set_cons_zero, List.set_cons_succ])
                      refine wpAnyH_take (i := 8) (v := undef) rfl (by kernel_rfl) (by kernel_rfl) (by kernel_rfl) (fun _ _ _ h => h) (Or.inr ⟨by kernel_rfl, rfl⟩) (by assumption) ?_
                      (try simp only [Act.put, List.getElem_toArray, List.getElem_cons_zero, List.getElem_cons_succ, List.setIfInBounds_toArray, List.set_cons_zero, List.set_cons_succ])
                      refine wpAnyH_take (i := 9) (v := undef) rfl (by kernel_rfl) (by kernel_rfl) (by kernel_rfl) (fun _ _ _ h => h) (Or.inr ⟨by kernel_rfl, rfl⟩) (by assumption) ?_
                      (try simp only [Act.put, List.getElem_toArray, List.getElem_cons_zero, List.getElem_cons_succ, List.setIfInBounds_toArray, List.set_cons_zero, List.set_cons_succ])
                      refine wpAnyH_take (i := 10) (v := undef) rfl (by kernel_rfl) (by kernel_rfl) (by kernel_rfl) (fun _ _ _ h => h) (Or.inr ⟨by kernel_rfl, rfl⟩) (by assumption) ?_
                      (try simp only [Act.put, List.getElem_toArray, List.getElem_cons_zero, List.getElem_cons_succ, List.setIfInBounds_toArray, List.set_cons_zero, List.set_cons_succ])
                      refine wpAnyH_take (i := 11) (v := undef) rfl (by kernel_rfl) (by kernel_rfl) (by kernel_rfl) (fun _ _ _ h => h) (Or.inr ⟨by kernel_rfl, rfl⟩) (by assumption) ?_
                      (try simp only [Act.put, List.getElem_toArray, List.getElem_cons_zero, List.getElem_cons_succ, List.setIfInBounds_toArray, List.set_cons_zero, List.set_cons_succ])
                      refine wpAnyH_take (i := 12) (v := undef) rfl (by kernel_rfl) (by kernel_rfl) (by kernel_rfl) (fun _ _ _ h => h) (Or.inr ⟨by kernel_rfl, rfl⟩) (by assumption) ?_
                      (try simp only [Act.put, List.getElem_toArray, List.getElem_cons_zero, List.getElem_cons_succ, List.setIfInBounds_toArray, List.set_cons_zero, List.set_cons_succ])
                      refine wpAnyH_take (i := 13) (v := undef) rfl (by kernel_rfl) (by kernel_rfl) (by kernel_rfl) (fun _ _ _ h => h) (Or.inr ⟨by kernel_rfl, rfl⟩) (by assumption) ?_
                      (try simp only [Act.put, List.getElem_toArray, List.getElem_cons_zero, List.getElem_cons_succ, List.setIfInBounds_toArray, List.set_cons_zero, List.set_cons_succ])
                      refine wpAnyH_take (i := 14) (v := ?_) rfl (by kernel_rfl) (by kernel_rfl) (by kernel_rfl) (fun _ _ _ h => h) (Or.inl ⟨by kernel_rfl, ?_⟩) (by assumption) ?_
                      rotate_left
                      · (intro w hSw; (try dsimp only at hSw); go_simp; (try with_reducible rfl))
                      (try simp only [Act.put, List.getElem_toArray, List.getElem_cons_zero, List.getElem_cons_succ, List.setIfInBounds_toArray, List.set_cons_zero, List.set_cons_succ])
                      refine wpAnyH_take (i := 15) (v := ?_) rfl (by kernel_rfl) (by kernel_rfl) (by kernel_rfl) (fun _ _ _ h => h) (Or.inl ⟨by kernel_rfl, ?_⟩) (by assumption) ?_
                      rotate_left
                      · (intro w hSw; (try dsimp only at hSw); go_simp; (try with_reducible rfl))
                      (try simp only [Act.put, List.getElem_toArray, List.getElem_cons_zero, List.getElem_cons_succ, List.setIfInBounds_toArray, List.set_cons_zero, List.set_cons_succ])
                      refine wpAnyH_done (by kernel_rfl) ?_ _
                      have HFN := Lib.hid (found_take HF.out hkey (.inl (by have := HZM.out; omega)))
                      have BN := Lib.hid (BIO.out _ (BIN.out _ HB6.out))
                      go_wp2
                      exact ⟨⟨k + 1, k, by omega, by go_num, rfl, HFN, BN.out⟩, by simp [intOf]; omega⟩
                    · obtain ⟨y2, hy2, hv2, hzy2⟩ := HG.out.lackAt C (show m < ws.length by omega)
                      obtain ⟨A2, c2, ev, hcell⟩ := HQR.out wr HBI.out
                      obtain ⟨a2, uy2, dyy2, ea, hab2, hd0', hd1', hd2', oy2⟩ := hcell m y2 hy2
                      have ev2 : some a = A2 := by injection ev
                      subst ev2
                      cases ea
                      clear ev hcell
                      obtain ⟨Ay2, cy2, By2, dy2, eyy⟩ := ownQ_form oy2
                      obtain ⟨rfl, rfl⟩ : uy2 = .slice Ay2 y2.1.2.length cy2 ∧ dyy2 = .slice By2 y2.2.length dy2 := by
                        injection eyy with h
                        simp at h
                        exact h
                      clear eyy
                      have OY2 := Lib.hid (show ∀ W, Below wr.heap.size wr W → OwnQ (.agg #[.bool y2.1.1, .slice Ay2 y2.1.2.length cy2, .slice By2 y2.2.length dy2]) y2 W from fun W hb => oy2.below hb)
                      have KLC := Lib.hid (show ∀ W, Below w5.heap.size w5 W → W.cell? ⟨wr.heap.size, 0, none⟩ = some (.bool y.1.1) ∧ W.cell? ⟨wr.heap.size, 1, none⟩ = some (.slice Ay y.1.2.length cy) ∧ W.cell? ⟨wr.heap.size, 2, none⟩ = some (.slice By y.2.length dy') ∧ W.cell? (a.add (m * 3)) = some (.bool y2.1.1) ∧ W.cell? ⟨(a.add (m * 3)).block, (a.add (m * 3)).off + 1, none⟩ = some (.slice Ay2 y2.1.2.length cy2) ∧ W.cell? ⟨(a.add (m * 3)).block, (a.add (m * 3)).off + 2, none⟩ = some (.slice By2 y2.2.length dy2) ∧ Hid (Below w5.heap.size w5 W) from fun W hb => ⟨(KLB.out W hb).1, (KLB.out W hb).2.1, (KLB.out W hb).2.2.1, (cell_keepQ' (BIN.out W hb) hab m).trans hd0', (cell_keepQ (BIN.out W hb) hab m 1).trans hd1', (cell_keepQ (BIN.out W hb) hab m 2).trans hd2', Lib.hid hb⟩)
                      have q5 : (m : Int) < (ws.length : Int) := by omega
                      have q6 : (0 : Int) ≤ (m : Int) := by omega
                      have q7 : decide ((m : Int) < 0) = false := decide_eq_false (by omega)
                      have q8 : ((m : Int)).toNat = m := by omega
                      have q9 : cmpQ y y2 = cmpI (keyR x ws C k) (keyR x ws C m) := valR_cmp HV.out hv2 HG.out.tpos
                      clear hy2 hv2 hd0' hd1' hd2' oy2 hab2
                      by_cases hbt : keyR x ws C m < keyR x ws C k
                      · have HCM := Lib.hid (show cmpQ y y2 = 1 by rw [q9]; exact cmpI_p1 hbt)
                        clear q9
                        go_region_held3 (fun W => W.cell? ⟨wr.heap.size, 0, none⟩ = some (.bool y.1.1) ∧ W.cell? ⟨wr.heap.size, 1, none⟩ = some (.slice Ay y.1.2.length cy) ∧ W.cell? ⟨wr.heap.size, 2, none⟩ = some (.slice By y.2.length dy') ∧ W.cell? (a.add (m * 3)) = some (.bool y2.1.1) ∧ W.cell? ⟨(a.add (m * 3)).block, (a.add (m * 3)).off + 1, none⟩ = some (.slice Ay2 y2.1.2.length cy2) ∧ W.cell? ⟨(a.add (m * 3)).block, (a.add (m * 3)).off + 2, none⟩ = some (.slice By2 y2.2.length dy2) ∧ Hid (Below w5.heap.size w5 W))
                          ((refine KLC.out _ ?_; (first | exact HB7.out | exact HB6.out | exact HB0.out | exact HB1.out | exact HB7.out.drew | exact HB6.out.drew | fail)))
                          (first
                            | (go_at_call 49; (have hBB := (‹_ ∧ _ ∧ _ ∧ _ ∧ _ ∧ _ ∧ Hid (Below w5.heap.size w5 _)›).2.2.2.2.2.2); (with_reducible refine (specRatSign_any _ y _ hzy (OY.out _ (BIN.out _ hBB.out))).mono ?_); rintro e w6 ⟨rfl, b6⟩; rw [HSG.out]; have HB6 := Lib.hid (Below.next hBB.out b6); clear hBB)
                            | (go_at_call 50; (have hBB := (‹_ ∧ _ ∧ _ ∧ _ ∧ _ ∧ _ ∧ Hid (Below w5.heap.size w5 _)›).2.2.2.2.2.2); (with_reducible refine (specRatCmp_any _ _ y y2 _ hzy hzy2 (OY.out _ (BIN.out _ hBB.out)) (OY2.out _ (BIN.out _ hBB.out))).mono ?_); rintro e w7 ⟨rfl, b7⟩; rw [HCM.out]; have HB7 := Lib.hid (Below.next hBB.out b7); clear hBB))
                        have HFN := Lib.hid (found_take HF.out hkey (.inr (by rw [Int.toNat_natCast]; exact hbt)))
                        have BN := Lib.hid (BIO.out _ (BIN.out _ HB7.out))
                        go_wp2
                        exact ⟨⟨k + 1, k, by omega, by go_num, rfl, HFN, BN.out⟩, by simp [intOf]; omega⟩
                      · have HNB := Lib.hid (show ¬ (0 < keyR x ws C k ∧ ((m : Int) < 0 ∨ keyR x ws C (m : Int).toNat < keyR x ws C k)) by rw [Int.toNat_natCast]; omega)
                        rcases cmpI_no hbt with hcc | hcc
                        · have HCM := Lib.hid (q9.trans hcc)
                          clear q9 hcc hbt hkey
                          go_region_held3 (fun W => W.cell? ⟨wr.heap.size, 0, none⟩ = some (.bool y.1.1) ∧ W.cell? ⟨wr.heap.size, 1, none⟩ = some (.slice Ay y.1.2.length cy) ∧ W.cell? ⟨wr.heap.size, 2, none⟩ = some (.slice By y.2.length dy') ∧ W.cell? (a.add (m * 3)) = some (.bool y2.1.1) ∧ W.cell? ⟨(a.add (m * 3)).block, (a.add (m * 3)).off + 1, none⟩ = some (.slice Ay2 y2.1.2.length cy2) ∧ W.cell? ⟨(a.add (m * 3)).block, (a.add (m * 3)).off + 2, none⟩ = some (.slice By2 y2.2.length dy2) ∧ Hid (Below w5.heap.size w5 W))
                            ((refine KLC.out _ ?_; (first | exact HB7.out | exact HB6.out | exact HB0.out | exact HB1.out | exact HB7.out.drew | exact HB6.out.drew | fail)))
                            (first
                              | (go_at_call 49; (have hBB := (‹_ ∧ _ ∧ _ ∧ _ ∧ _ ∧ _ ∧ Hid (Below w5.heap.size w5 _)›).2.2.2.2.2.2); (with_reducible refine (specRatSign_any _ y _ hzy (OY.out _ (BIN.out _ hBB.out))).mono ?_); rintro e w6 ⟨rfl, b6⟩; rw [HSG.out]; have HB6 := Lib.hid (Below.next hBB.out b6); clear hBB)
                              | (go_at_call 50; (have hBB := (‹_ ∧ _ ∧ _ ∧ _ ∧ _ ∧ _ ∧ Hid (Below w5.heap.size w5 _)›).2.2.2.2.2.2); (with_reducible refine (specRatCmp_any _ _ y y2 _ hzy hzy2 (OY.out _ (BIN.out _ hBB.out)) (OY2.out _ (BIN.out _ hBB.out))).mono ?_); rintro e w7 ⟨rfl, b7⟩; rw [HCM.out]; have HB7 := Lib.hid (Below.next hBB.out b7); clear hBB))
                          have HFN := Lib.hid (found_pass HF.out (HNB.out))
                          have BN := Lib.hid (BIO.out _ (BIN.out _ HB7.out))
                          go_wp2
                          exact ⟨⟨k + 1, m, by omega, by go_num, rfl, HFN, BN.out⟩, by simp [intOf]; omega⟩
                        · have HCM := Lib.hid (q9.trans hcc)
                          clear q9 hcc hbt hkey
                          go_region_held3 (fun W => W.cell? ⟨wr.heap.size, 0, none⟩ = some (.bool y.1.1) ∧ W.cell? ⟨wr.heap.size, 1, none⟩ = some (.slice Ay y.1.2.length cy) ∧ W.cell? ⟨wr.heap.size, 2, none⟩ = some (.slice By y.2.length dy') ∧ W.cell? (a.add (m * 3)) = some (.bool y2.1.1) ∧ W.cell? ⟨(a.add (m * 3)).block, (a.add (m * 3)).off + 1, none⟩ = some (.slice Ay2 y2.1.2.length cy2) ∧ W.cell? ⟨(a.add (m * 3)).block, (a.add (m * 3)).off + 2, none⟩ = some (.slice By2 y2.2.length dy2) ∧ Hid (Below w5.heap.size w5 W))
                            ((refine KLC.out _ ?_; (first | exact HB7.out | exact HB6.out | exact HB0.out | exact HB1.out | exact HB7.out.drew | exact HB6.out.drew | fail)))
                            (first
                              | (go_at_call 49; (have hBB := (‹_ ∧ _ ∧ _ ∧ _ ∧ _ ∧ _ ∧ Hid (Below w5.heap.size w5 _)›).2.2.2.2.2.2); (with_reducible refine (specRatSign_any _ y _ hzy (OY.out _ (BIN.out _ hBB.out))).mono ?_); rintro e w6 ⟨rfl, b6⟩; rw [HSG.out]; have HB6 := Lib.hid (Below.next hBB.out b6); clear hBB)
                              | (go_at_call 50; (have hBB := (‹_ ∧ _ ∧ _ ∧ _ ∧ _ ∧ _ ∧ Hid (Below w5.heap.size w5 _)›).2.2.2.2.2.2); (with_reducible refine (specRatCmp_any _ _ y y2 _ hzy hzy2 (OY.out _ (BIN.out _ hBB.out)) (OY2.out _ (BIN.out _ hBB.out))).mono ?_); rintro e w7 ⟨rfl, b7⟩; rw [HCM.out]; have HB7 := Lib.hid (Below.next hBB.out b7); clear hBB))
                          have HFN := Lib.hid (found_pass HF.out (HNB.out))
                          have BN := Lib.hid (BIO.out _ (BIN.out _ HB7.out))
                          go_wp2
                          exact ⟨⟨k + 1, m, by omega, by go_num, rfl, HFN, BN.out⟩, by simp [intOf]; omega⟩
                  · have HSG := Lib.hid (show cmpQ y oneQ = 0 by rw [valR_cmp HV.out (valR_zero _) HG.out.tpos]; exact cmpI_z0 (by omega))
                    have HNB := Lib.hid (show ¬ (0 < keyR x ws C k ∧ (z < 0 ∨ keyR x ws C z.toNat < keyR x ws C k)) from fun h => hkey h.1)
                    clear hkey
                    refine wp_region_held_drew (S := fun W => W.cell? ⟨wr.heap.size, 0, none⟩ = some (.bool y.1.1) ∧ W.cell? ⟨wr.heap.size, 1, none⟩ = some (.slice Ay y.1.2.length cy) ∧ W.cell? ⟨wr.heap.size, 2, none⟩ = some (.slice By y.2.length dy') ∧ Hid (Below w5.heap.size w5 W)) (by kernel_rfl) ?_ (fun hHeld => ?_)
                    · ((refine KLB.out _ ?_; (first | exact HB1.out | exact HB0.out | fail)))
                    refine wpAnyH_take (i := 0) (v := ?_) rfl (by kernel_rfl) (by kernel_rfl) (by kernel_rfl) (fun _ _ _ h => h) (Or.inl ⟨by kernel_rfl, ?_⟩) (by assumption) ?_
                    rotate_left
                    · (intro w hSw; (try dsimp only at hSw); go_simp; (try with_reducible rfl))
                    (try simp only [Act.put, List.getElem_toArray, List.getElem_cons_zero, List.setIfInBounds_toArray, List.set_cons_zero, List.set_cons_succ])
                    refine wpAnyH_ready (rs := [1]) (by kernel_rfl) (by simp) ?_
                    refine AllReadyH.cons rfl (fun K hK => ?_) AllReadyH.nil
                    go_simp
                    (go_at_call 49; (have hBB := (‹_ ∧ _ ∧ _ ∧ Hid (Below w5.heap.size w5 _)›).2.2.2); (with_reducible refine (specRatSign_any _ y _ hzy (OY.out _ (BIN.out _ hBB.out))).mono ?_); rintro e w6 ⟨rfl, b6⟩; rw [HSG.out]; have HB6 := Lib.hid (Below.next hBB.out b6); clear hBB)
                    refine hK.out _ _ ?_ (fun hHeld => ?_)
                    · ((refine KLB.out _ ?_; exact HB6.out))
                    clear hK K
                    (try simp only [Act.put, List.getElem_toArray, List.getElem_cons_zero, List.getElem_cons_succ, List.setIfInBounds_toArray, List.set_cons_zero, List.set_cons_succ])
                    refine wpAnyH_take (i := 2) (v := ?_) rfl (by kernel_rfl) (by kernel_rfl) (by kernel_rfl) (fun _ _ _ h => h) (Or.inl ⟨by kernel_rfl, ?_⟩) (by assumption) ?_
                    rotate_left
                    · (intro w hSw; (try dsimp only at hSw); go_simp; (try with_reducible rfl))
                    (try simp only [Act.put, List.getElem_toArray, List.getElem_cons_zero, List.getElem_cons_succ, List.setIfInBounds_toArray, List.set_cons_zero, List.set_cons_succ])
                    refine wpAnyH_take (i := 3) (v := ?_) rfl (by kernel_rfl) (by kernel_rfl) (by kernel_rfl) (fun _ _ _ h => h) (Or.inl ⟨by kernel_rfl, ?_⟩) (by assumption) ?_
                    rotate_left
                    · (intro w hSw; (try dsimp only at hSw); go_simp; (try with_reducible rfl))
                    (try simp only [Act.put, List.getElem_toArray, List.getElem_cons_zero, List.getElem_cons_succ, List.setIfInBounds_toArray, List.set_cons_zero, List.set_cons_succ])
                    refine wpAnyH_take (i := 4) (v := undef) rfl (by kernel_rfl) (by kernel_rfl) (by kernel_rfl) (fun _ _ _ h => h) (Or.inr ⟨by kernel_rfl, rfl⟩) (by assumption) ?_
                    (try simp only [Act.put, List.getElem_toArray, List.getElem_cons_zero, List.getElem_cons_succ, List.setIfInBounds_toArray, List.set_cons_zero, List.set_cons_succ])
                    refine wpAnyH_take (i := 5) (v := undef) rfl (by kernel_rfl) (by kernel_rfl) (by kernel_rfl) (fun _ _ _ h => h) (Or.inr ⟨by kernel_rfl, rfl⟩) (by assumption) ?_
                    (try simp only [Act.put, List.getElem_toArray, List.getElem_cons_zero, List.getElem_cons_succ, List.setIfInBounds_toArray, List.set_cons_zero, List.set_cons_succ])
                    refine wpAnyH_take (i := 6) (v := undef) rfl (by kernel_rfl) (by kernel_rfl) (by kernel_rfl) (fun _ _ _ h => h) (Or.inr ⟨by kernel_rfl, rfl⟩) (by assumption) ?_
                    (try simp only [Act.put, List.getElem_toArray, List.getElem_cons_zero, List.getElem_cons_succ, List.setIfInBounds_toArray, List.set_cons_zero, List.set_cons_succ])
                    refine wpAnyH_take (i := 7) (v := undef) rfl (by kernel_rfl) (by kernel_rfl) (by kernel_rfl) (fun _ _ _ h => h) (Or.inr ⟨by kernel_rfl, rfl⟩) (by assumption) ?_
                    (try simp only [Act.put, List.getElem_toArray, List.getElem_cons_zero, List.getElem_cons_succ, List.setIfInBounds_toArray, List.set_cons_zero, List.set_cons_succ])
                    refine wpAnyH_take (i := 8) (v := undef) rfl (by kernel_rfl) (by kernel_rfl) (by kernel_rfl) (fun _ _ _ h => h) (Or.inr ⟨by kernel_rfl, rfl⟩) (by assumption) ?_
                    (try simp only [Act.put, List.getElem_toArray, List.getElem_cons_zero, List.getElem_cons_succ, List.setIfInBounds_toArray, List.set_cons_zero, List.set_cons_succ])
                    refine wpAnyH_take (i := 9) (v := undef) rfl (by kernel_rfl) (by kernel_rfl) (by kernel_rfl) (fun _ _ _ h => h) (Or.inr ⟨by kernel_rfl, rfl⟩) (by assumption) ?_
                    (try simp only [Act.put, List.getElem_toArray, List.getElem_cons_zero, List.getElem_cons_succ, List.setIfInBounds_toArray, List.set_cons_zero, List.set_cons_succ])
                    refine wpAnyH_take (i := 10) (v := undef) rfl (by kernel_rfl) (by kernel_rfl) (by kernel_rfl) (fun _ _ _ h => h) (Or.inr ⟨by kernel_rfl, rfl⟩) (by assumption) ?_
                    (try simp only [Act.put, List.getElem_toArray, List.getElem_cons_zero, List.getElem_cons_succ, List.setIfInBounds_toArray, List.set_cons_zero, List.set_cons_succ])
                    refine wpAnyH_take (i := 11) (v := undef) rfl (by kernel_rfl) (by kernel_rfl) (by kernel_rfl) (fun _ _ _ h => h) (Or.inr ⟨by kernel_rfl, rfl⟩) (by assumption) ?_
                    (try simp only [Act.put, List.getElem_toArray, List.getElem_cons_zero, List.getElem_cons_succ, List.setIfInBounds_toArray, List.set_cons_zero, List.set_cons_succ])
                    refine wpAnyH_take (i := 12) (v := undef) rfl (by kernel_rfl) (by kernel_rfl) (by kernel_rfl) (fun _ _ _ h => h) (Or.inr ⟨by kernel_rfl, rfl⟩) (by assumption) ?_
                    (try simp only [Act.put, List.getElem_toArray, List.getElem_cons_zero, List.getElem_cons_succ, List.setIfInBounds_toArray, List.set_cons_zero, List.set_cons_succ])
                    refine wpAnyH_take (i := 13) (v := undef) rfl (by kernel_rfl) (by kernel_rfl) (by kernel_rfl) (fun _ _ _ h => h) (Or.inr ⟨by kernel_rfl, rfl⟩) (by assumption) ?_
                    (try simp only [Act.put, List.getElem_toArray, List.getElem_cons_zero, List.getElem_cons_succ, List.setIfInBounds_toArray, List.set_cons_zero, List.set_cons_succ])
                    refine wpAnyH_take (i := 14) (v := undef) rfl (by kernel_rfl) (by kernel_rfl) (by kernel_rfl) (fun _ _ _ h => h) (Or.inr ⟨by kernel_rfl, rfl⟩) (by assumption) ?_
                    (try simp only [Act.put, List.getElem_toArray, List.getElem_cons_zero, List.getElem_cons_succ, List.setIfInBounds_toArray, List.set_cons_zero, List.set_cons_succ])
                    refine wpAnyH_take (i := 15) (v := ?_) rfl (by kernel_rfl) (by kernel_rfl) (by kernel_rfl) (fun _ _ _ h => h) (Or.inl ⟨by kernel_rfl, ?_⟩) (by assumption) ?_
                    rotate_left
                    · (intro w hSw; (try dsimp only at hSw); go_simp; (try with_reducible rfl))
                    (try simp only [Act.put, List.getElem_toArray, List.getElem_cons_zero, List.getElem_cons_succ, List.setIfInBounds_toArray, List.set_cons_zero, List.set_cons_succ])
                    refine wpAnyH_done (by kernel_rfl) ?_ _
                    have HFN := Lib.hid (found_pass HF.out (HNB.out))
                    have BN := Lib.hid (BIO.out _ (BIN.out _ HB6.out))
                    go_wp2
                    exact ⟨⟨k + 1, z, by omega, by go_num, rfl, HFN, BN.out⟩, by simp [intOf]; omega⟩
                · obtain rfl : k = ws.length := by omega
                  obtain ⟨p, rfl, hp, hpn, hTp⟩ := HG.out.next HT.out HLT.out (show Found (fun i => if i ∈ C then 0 else rN x ws i) ws.length z from HF.out)
                  have hm0 : 0 < missN x ws := by have := HLT.out; omega
                  obtain ⟨e1, e2, e3⟩ := HG.out.bump hp hpn hm0
                  have RSr := HSC.out.below hbi
                  have RQr := HQC.out.below hbi
                  have hbr := Below.mono hbi hbs
                  have B1r := HB.out.trans hbr
                  obtain ⟨g, cg, Ap, cp, eu, hgB, hgl, hplace, op⟩ := rowS_place RSr e2
                  obtain ⟨gq, cgq, eq2, hqB, hql, hplq⟩ := rowQ_place RQr (by rw [lacksK_len]; omega)
                  rw [partsK_len] at eu
                  rw [lacksK_len] at eq2 hplq
                  have hgw6 := HAU.out g (by rw [eu]; rfl)
                  have hqw6 := HAQ.out gq (by rw [eq2]; rfl)
                  obtain ⟨rfl, rfl⟩ : Au = some ⟨g, 0, none⟩ ∧ cu = cg := by injection eu with h1 h2 h3; exact ⟨h1, h3⟩
                  obtain ⟨rfl, rfl⟩ : Aq = some ⟨gq, 0, none⟩ ∧ cq = cgq := by injection eq2 with h1 h2 h3; exact ⟨h1, h3⟩
                  clear eu eq2
                  have hgq : ¬ gq = g := fun e => by
                    obtain ⟨_, h1, _⟩ := RSr
                    obtain ⟨_, h2, _⟩ := RQr
                    exact own_typesS h1 h2 (by decide) rfl (by rw [e]; rfl)
                  obtain ⟨y0, hy0⟩ : ∃ y, ofZ (sgZ x.1 (qN x ws p)) = y := ⟨_, rfl⟩
                  obtain ⟨yo, hyo⟩ : ∃ y, ofZ (sgZ x.1 1) = y := ⟨_, rfl⟩
                  obtain ⟨yn, hyn⟩ : ∃ y, ofZ (sgZ x.1 (qN x ws p + 1)) = y := ⟨_, rfl⟩
                  have hl0 : y0.2.length ≤ 1048576 := by rw [← hy0]; exact Nat.le_trans (ofZ_len _) (by decide)
                  have hlo : yo.2.length ≤ 1048576 := by rw [← hyo]; exact Nat.le_trans (ofZ_len _) (by decide)
                  rw [hy0] at e1 e2 op hplace
                  have hO := HO.out
                  rw [hyo] at e1 hO
                  rw [hyn] at e1 e3
                  have HYO := Lib.hid hyo
                  have HE1 := Lib.hid e1
                  have HE3 := Lib.hid e3
                  obtain ⟨hO1, hO2⟩ := hO
                  have HOP := Lib.hid (show ∀ W, Below wr.heap.size wr W → OwnS (.agg #[.bool y0.1, .slice Ap y0.2.length cp]) y0 W from fun W hb => op.below hb)
                  have HOO := Lib.hid (show ∀ W, Below wr.heap.size wr W → OwnS (.agg #[.bool yo.1, .slice A7 yo.2.length c7]) yo W from fun W hb => (hO2.below (Below.next hbi hb)).here)
                  have HO1 := Lib.hid hO1
                  have HO2 := Lib.hid hO2
                  have HPL := Lib.hid hplace
                  have HPQ := Lib.hid hplq
                  have HRS := Lib.hid RSr
                  have HRQ := Lib.hid RQr
                  have HBI2 := Lib.hid hbi
                  have HB1 := Lib.hid B1r
                  have hzi := hbi.size
                  have hbx := (hO1.below hbi).here
                  have p_c0 := (hplace wr rfl).1
                  have p_c1 := (hplace wr rfl).2.1
                  have o_c0 := hbx.cell 0 _ rfl
                  have o_c1 := hbx.cell 1 _ rfl
                  have q1 : (p : Int) < (ws.length : Int) := by omega
                  have q3 : (0 : Int) ≤ (p : Int) := by omega
                  have q4 : ((p : Int)).toNat = p := by omega
                  have q5 : decide ((p : Int) < 0) = false := decide_eq_false (by omega)
                  clear hy0 hyo hyn e1 e2 e3 op hO1 hO2 hplace hplq RSr RQr hbi hbr B1r hbx
                  go_upto_region 29 with fail
                  go_region_law (first
                    | (go_simp; go_at_call 51; refine ((specIntAdd_any _ _ y0 yo _ hl0 hlo (HOP.out _ (by first | exact Below.refl _ _ | exact (Below.refl _ _).drew)) (HOO.out _ (by first | exact Below.refl _ _ | exact (Below.refl _ _).drew))).mono fun _ _ h => newS_isS HE1.out h).mono ?_; rintro e w10 ⟨u10, S10, rfl, o10, l10, b10⟩; replace b10 : Below wr.heap.size wr w10 := (by first | exact b10 | exact (Below.refl _ _).drew.trans b10); obtain ⟨A10, c10, rfl⟩ := ownS_form o10.here; have hpl := HPL.out w10 (b10.block g hgl); have f0 := hpl.2.2.1; have f1 := hpl.2.2.2; have d0 := hpl.1; have d1 := hpl.2.1; have HB10 := Lib.hid b10; have HO10 := Lib.hid o10; have HL10 := Lib.hid l10; clear o10 l10 b10 hpl))
                  all_goals
                    obtain ⟨w11, hw11⟩ : ∃ W, W = (w10.setCell ⟨g, p * 2, none⟩ (.bool yn.1)).setCell ⟨g, p * 2 + 1, none⟩ (.slice A10 yn.2.length c10) := ⟨_, rfl⟩
                    rw [← hw11]
                    have RS11 : RowS w1.heap.size (.slice (some ⟨g, 0, none⟩) ws.length cu) (partsK x ws (p :: C)) w11 := by
                      have h := rowS_set (k := p) (x := yn) (un := .slice A10 yn.2.length c10) (W0 := wr) (W := w10) (N := wr.heap.size) (B := w1.heap.size) (g := g) (c := cu) (l := partsK x ws C) (by rw [partsK_len]; exact HRS.out) (by rw [partsK_len]; exact hp) (fun i hi => HB10.out.block i hi) (Nat.le_refl _) (ownS_row HO10.out (fun i hi => (HL10.out i hi).1)) (by omega)
                      rw [partsK_len, HE3.out, ← hw11] at h
                      exact h
                    have hc11 : Chg [g] w10 w11 := by rw [hw11]; exact ((Chg.refl _ _).setCell (by simp) _).setCell (by simp) _
                    have hz10 := HB10.out.size
                    have hz11 := hc11.size
                    have RQ11 : RowQ w1.heap.size (.slice (some ⟨gq, 0, none⟩) ws.length cq) (lacksK x ws C) w11 := by
                      obtain ⟨e, h1, _⟩ := HRS.out.below HB10.out
                      exact (HRQ.out.below HB10.out).chg h1 (by decide) (by decide) hc11
                    have O111 := (HO1.out.below (Below.next HBI2.out HB10.out)).chg hc11 (fun i hi hm => by simp at hi hm; omega)
                    have O211 := (HO2.out.below (Below.next HBI2.out HB10.out)).chg hc11 (fun i hi hm => by have := hSin i hi; simp at hm; omega)
                    have B111 : Below w1.heap.size w1 w11 := below_chg (HB1.out.trans (HB10.out.mono (by omega))) hc11 (by omega) (fun i hi => by simp at hi; omega)
                    have hqe : w11.heap[gq]? = wr.heap[gq]? := (hc11.block gq (by omega) (by simp; exact hgq)).trans (HB10.out.block gq hql)
                    clear hw11 d0 d1 f0 f1 hc11 HRS HRQ HB10 HO10 HL10
                    go_wp2_with fail
                    refine (specRatZero_any _).mono ?_
                    rintro e w12 ⟨v12, S12, rfl, o12, l12, b12⟩
                    obtain ⟨Z, hZ⟩ : ∃ Z, oneQ = Z := ⟨_, rfl⟩
                    rw [hZ] at o12
                    obtain ⟨A12, c12, B12, d12, rfl⟩ := ownQ_form o12.here
                    have hq12 : w12.heap[gq]? = wr.heap[gq]? := (b12.block gq (by omega)).trans hqe
                    have g0 := (HPQ.out w12 (p * 3) (by omega) hq12).1
                    have g1 := (HPQ.out w12 (p * 3 + 1) (by omega) hq12).1
                    have g2 := (HPQ.out w12 (p * 3 + 2) (by omega) hq12).1
                    obtain ⟨v0, d0⟩ := (HPQ.out w12 (p * 3) (by omega) hq12).2
                    obtain ⟨v1, d1⟩ := (HPQ.out w12 (p * 3 + 1) (by omega) hq12).2
                    obtain ⟨v2, d2⟩ := (HPQ.out w12 (p * 3 + 2) (by omega) hq12).2
                    have RQ12 : RowQ w1.heap.size (.slice (some ⟨gq, 0, none⟩) ws.length cq) (lacksK x ws (p :: C)) (((w12.setCell ⟨gq, p * 3, none⟩ (.bool Z.1.1)).setCell ⟨gq, p * 3 + 1, none⟩ (.slice A12 Z.1.2.length c12)).setCell ⟨gq, p * 3 + 2, none⟩ (.slice B12 Z.2.length d12)) := by
                      have h := rowQ_set (k := p) (x := Z) (un := .slice A12 Z.1.2.length c12) (dn := .slice B12 Z.2.length d12) (W0 := w11) (W := w12) (B := w1.heap.size) (g := gq) (c := cq) (l := lacksK x ws C) (by rw [lacksK_len]; exact RQ11) (by rw [lacksK_len]; exact hp) (fun i hi => b12.block i hi) o12.here
                      rw [lacksK_len, ← hZ, lacksK_set hp, hZ] at h
                      exact h
                    have hc12 : Chg [gq] w12 (((w12.setCell ⟨gq, p * 3, none⟩ (.bool Z.1.1)).setCell ⟨gq, p * 3 + 1, none⟩ (.slice A12 Z.1.2.length c12)).setCell ⟨gq, p * 3 + 2, none⟩ (.slice B12 Z.2.length d12)) := (((Chg.refl _ _).setCell (by simp) _).setCell (by simp) _).setCell (by simp) _
                    have hz12 := b12.size
                    have hz13 := hc12.size
                    have RS12 : RowS w1.heap.size (.slice (some ⟨g, 0, none⟩) ws.length cu) (partsK x ws (p :: C)) (((w12.setCell ⟨gq, p * 3, none⟩ (.bool Z.1.1)).setCell ⟨gq, p * 3 + 1, none⟩ (.slice A12 Z.1.2.length c12)).setCell ⟨gq, p * 3 + 2, none⟩ (.slice B12 Z.2.length d12)) := by
                      obtain ⟨e, h1, _⟩ := RQ11.below b12
                      exact (RS11.below b12).chg h1 (by decide) (by decide) hc12
                    have ON12 : OneAt w7.heap.size (ofZ (sgZ x.1 1)) S7 A7 c7 (((w12.setCell ⟨gq, p * 3, none⟩ (.bool Z.1.1)).setCell ⟨gq, p * 3 + 1, none⟩ (.slice A12 Z.1.2.length c12)).setCell ⟨gq, p * 3 + 2, none⟩ (.slice B12 Z.2.length d12)) := by
                      rw [HYO.out]
                      exact ⟨(O111.below b12).chg hc12 (fun i hi hm => by simp at hi hm; omega), (O211.below b12).chg hc12 (fun i hi hm => by have := hSin i hi; simp at hm; omega)⟩
                    have B112 : Below w1.heap.size w1 (((w12.setCell ⟨gq, p * 3, none⟩ (.bool Z.1.1)).setCell ⟨gq, p * 3 + 1, none⟩ (.slice A12 Z.1.2.length c12)).setCell ⟨gq, p * 3 + 2, none⟩ (.slice B12 Z.2.length d12)) := below_chg (B111.trans (b12.mono (by omega))) hc12 (by omega) (fun i hi => by simp at hi; omega)
                    have HFIN := Lib.hid (show ∀ l : Value, l = .int .i64 (d - 1) → GiveRel x ws w7.heap.size S7 A7 c7 (some ⟨g, 0, none⟩) (some ⟨gq, 0, none⟩) cu cq w1 w8 l (((w12.setCell ⟨gq, p * 3, none⟩ (.bool Z.1.1)).setCell ⟨gq, p * 3 + 1, none⟩ (.slice A12 Z.1.2.length c12)).setCell ⟨gq, p * 3 + 2, none⟩ (.slice B12 Z.2.length d12)) from
                      fun l hl => ⟨p :: C, by rw [List.length_cons]; exact HLT.out, by rw [hl, List.length_cons]; have := HD.out; congr 1; omega, hTp, RS12, RQ12, ON12, by omega, B112⟩)
                    clear RS12 RQ12 ON12 B112 hc12 RS11 RQ11 O111 O211 B111 o12 l12 b12 hZ hqe hq12
                    go_wp2
                    exact ⟨HFIN.out _ (by go_num), by simp [intOf]; omega⟩
            · have HE := Lib.hid (sharesPost_yes HOK.out (by rw [← shares_top hT (by omega)]; exact hS) (show w.heap.size ≤ w1.heap.size by omega) (Below.next BB1.out hb))
              have hd0 : ¬ 0 < d := by omega
              have hd1 : 0 ≤ d := by omega
              clear hd hT hS hQ hO hb hlt hC
              go_wp2
              go_ret2
              exact HE.out
        · rw [hn] at kx8
          have HN := Lib.hid hn
          clear hn
          go_wp2_with fail
          refine ((specIntOf_any (-1) _ (by decide) (by decide)).mono fun _ _ h => newS_isS rfl h).mono ?_
          rintro e w9 ⟨u9, S9, rfl, o9, l9, b9⟩
          obtain ⟨y9, hy9⟩ : ∃ y, ofZ (-1) = y := ⟨_, rfl⟩
          rw [hy9] at o9
          obtain ⟨A9, c9, rfl⟩ := ownS_form o9.here
          have HY9 := Lib.hid hy9
          have k9 := k7.below b9
          clear hy9
          have HK9 := Lib.hid k9
          have k_c0 := k9.here.cell 0 _ rfl
          have k_f0 := Lib.frozen_of_heap k9.here 0
          have k_c1 := k9.here.cell 1 _ rfl
          have k_f1 := Lib.frozen_of_heap k9.here 1
          clear k9
          go_upto_region 19 with fail
          clear k_c0 k_c1 k_f0 k_f1
          have ONE : OneAt w7.heap.size (ofZ (sgZ x.1 1)) S9 A9 c9 ((w9.setCell ⟨w7.heap.size, 0, none⟩ (.bool y9.1)).setCell ⟨w7.heap.size, 1, none⟩ (.slice A9 y9.2.length c9)) := by
            rw [show ofZ (sgZ x.1 1) = y9 by rw [← HY9.out, HN.out]; rfl]
            have hc : Chg [w7.heap.size] w9 ((w9.setCell ⟨w7.heap.size, 0, none⟩ (.bool y9.1)).setCell ⟨w7.heap.size, 1, none⟩ (.slice A9 y9.2.length c9)) := ((Chg.refl _ _).setCell (by simp) _).setCell (by simp) _
            exact ⟨at_boxS (set2_boxS HK9.out.here) (Nat.lt_of_lt_of_le (HK9.out.lt _ (by simp)) hc.size), o9.chg hc (fun i hi hm => by have := (l9 i hi).1; simp at hm; omega)⟩
          have hc9 : Chg [w7.heap.size] w9 ((w9.setCell ⟨w7.heap.size, 0, none⟩ (.bool y9.1)).setCell ⟨w7.heap.size, 1, none⟩ (.slice A9 y9.2.length c9)) := ((Chg.refl _ _).setCell (by simp) _).setCell (by simp) _
          have b69 : Below w6.heap.size w6 ((w9.setCell ⟨w7.heap.size, 0, none⟩ (.bool y9.1)).setCell ⟨w7.heap.size, 1, none⟩ (.slice A9 y9.2.length c9)) := below_chg (Below.next b18 b9) hc9 (by have := b9.size; omega) (fun i hi => by simp at hi; omega)
          have START := Lib.hid (give_start (RS6.below b69) (RQ6.below b69) ONE (Below.next B16 b69))
          have hz9 := hc9.size
          have hz8 := b9.size
          have hSin : ∀ i ∈ S9, w6.heap.size ≤ i ∧ i < w9.heap.size := fun i hi => ⟨by have := (l9 i hi).1; omega, (l9 i hi).2⟩
          obtain ⟨WS, hWS⟩ : ∃ W, W = ((w9.setCell ⟨w7.heap.size, 0, none⟩ (.bool y9.1)).setCell ⟨w7.heap.size, 1, none⟩ (.slice A9 y9.2.length c9)) := ⟨_, rfl⟩
          rw [← hWS] at START hz9 ⊢
          have hr0 : w6.heap.size ≤ w7.heap.size := by omega
          have hr1 : w7.heap.size < WS.heap.size := by omega
          clear hWS hc9 b69 ONE kx8 HK9 k7 o8 o9 b18 b9 l7 l9 RS6 RQ6 B16 HY7 HY9 HN
          go_loopw [13] (fun l wr => GiveRel x ws w7.heap.size S9 A9 c9 Au Aq cu cq w1 WS l wr) (fun l _ => (intOf l).toNat)
          case atStart => exact START.out
          case round =>
            clear START
            obtain ⟨C, hC, rfl, hT, hS, hQ, hO, hw, hb⟩ := hrel
            have hl30 := (okW_parts HOW.out).l2
            obtain ⟨d, hd⟩ : ∃ d : Int, (missN x ws : Int) - (C.length : Int) = d := ⟨_, rfl⟩
            rw [hd]
            have hbs := hb.size
            by_cases hlt : C.length < missN x ws
            · have hd0 : 0 < d := by omega
              have hd1 : d ≤ 30 := by omega
              have HD := Lib.hid hd
              have HT := Lib.hid hT
              have HSC := Lib.hid hS
              have HQC := Lib.hid hQ
              have HO := Lib.hid hO
              have HB := Lib.hid hb
              have HLT := Lib.hid hlt
              obtain ⟨wo, hwo⟩ : ∃ W, W = wr := ⟨_, rfl⟩
              subst hwo
              have HQR := Lib.hid (show ∀ W, Below wo.heap.size wo W → OwnQR W (.slice Aq (lacksK x ws C).length cq) (lacksK x ws C) from fun W hb => by have h := (HQC.out.below hb).ownQR; rw [lacksK_len]; exact h)
              clear hd hT hS hQ hO hb hlt hC
              go_wp2
              go_loopw [16, 77] (fun b i wi => ∃ (k : Nat) (z : Int), k ≤ ws.length ∧ i = .int .i64 k ∧ b = .int .i64 z ∧ Hid (Found (keyR x ws C) k z) ∧ Below wo.heap.size wo wi) (fun _ i _ => ws.length - (intOf i).toNat)
              case atStart => exact ⟨0, -1, Nat.zero_le _, rfl, rfl, Lib.hid (found_none _), Below.refl _ _⟩
              case round =>
                obtain ⟨k, z, hk, rfl, rfl, HF, hbi⟩ := hrel
                by_cases hlk : k < ws.length
                · obtain ⟨y, hy, hv, hzy⟩ := HG.out.lackAt C hlk
                  obtain ⟨A, c, ev, hcell⟩ := HQR.out wr hbi
                  obtain ⟨a, uy, dy, ea, hab, hc0, hc1, hc2, oy⟩ := hcell k y hy
                  have ev2 : Aq = A := by injection ev
                  subst ev2
                  subst ea
                  clear ev hcell
                  have q1 : (k : Int) < (ws.length : Int) := by omega
                  have q3 : (0 : Int) ≤ (k : Int) := by omega
                  obtain ⟨Ay, cy, By, dy', eyy⟩ := ownQ_form oy
                  obtain ⟨rfl, rfl⟩ : uy = .slice Ay y.1.2.length cy ∧ dy = .slice By y.2.length dy' := by
                    injection eyy with h
                    simp at h
                    exact h
                  clear eyy
                  have OY := Lib.hid (show ∀ W, Below wr.heap.size wr W → OwnQ (.agg #[.bool y.1.1, .slice Ay y.1.2.length cy, .slice By y.2.length dy']) y W from fun W hb => oy.below hb)
                  have HV := Lib.hid hv
                  have HBI := Lib.hid hbi
                  have HYY := Lib.hid hy
                  clear oy hv hbi hy
                  go_upto_region 25 with fail
                  have kb := box_new wr #[.bool y.1.1, .slice Ay y.1.2.length cy, .slice By y.2.length dy'] 63
                  have al5 : Below wr.heap.size wr (wr.alloc (.cells #[.bool y.1.1, .slice Ay y.1.2.length cy, .slice By y.2.length dy'] 63)) := below_al (Below.refl _ _) _
                  obtain ⟨w5, hw5⟩ : ∃ W, W = (wr.alloc (.cells #[.bool y.1.1, .slice Ay y.1.2.length cy, .slice By y.2.length dy'] 63)) := ⟨_, rfl⟩
                  rw [← hw5] at kb al5 ⊢
                  clear hw5 hc0 hc1 hc2
                  have HB0 := Lib.hid (Below.refl w5.heap.size w5)
                  have HB1 := Lib.hid (show Below w5.heap.size w5 w5.drew from (Below.refl _ _).drew)
                  have BIN := Lib.hid (show ∀ W, Below w5.heap.size w5 W → Below wr.heap.size wr W from fun W h => Below.next al5 h)
                  have BIO := Lib.hid (show ∀ W, Below wr.heap.size wr W → Below wo.heap.size wo W from fun W h => Below.next HBI.out h)
                  have KLB := Lib.hid (show ∀ W, Below w5.heap.size w5 W → W.cell? ⟨wr.heap.size, 0, none⟩ = some (.bool y.1.1) ∧ W.cell? ⟨wr.heap.size, 1, none⟩ = some (.slice Ay y.1.2.length cy) ∧ W.cell? ⟨wr.heap.size, 2, none⟩ = some (.slice By y.2.length dy') ∧ Hid (Below w5.heap.size w5 W) from fun W hb => ⟨(kb.below hb).here.cell 0 _ rfl, (kb.below hb).here.cell 1 _ rfl, (kb.below hb).here.cell 2 _ rfl, Lib.hid hb⟩)
                  clear al5
                  by_cases hkey : 0 < keyR x ws C k
                  · have HSG := Lib.hid (show cmpQ y oneQ = 1 by rw [valR_cmp HV.out (valR_zero _) HG.out.tpos]; exact cmpI_z1 hkey)
                    rcases found_key HF.out with hzm | ⟨m, rfl, hm⟩
                    · have hzd : decide (z < 0) = true := decide_eq_true (by omega)
                      have HZM := Lib.hid hzm
                      clear hzm
                      refine wp_region_held_drew (S := fun W => W.cell? ⟨wr.heap.size, 0, none⟩ = some (.bool y.1.1) ∧ W.cell? ⟨wr.heap.size, 1, none⟩ = some (.slice Ay y.1.2.length cy) ∧ W.cell? ⟨wr.heap.size, 2, none⟩ = some (.slice By y.2.length dy') ∧ Hid (Below w5.heap.size w5 W)) (by kernel_rfl) ?_ (fun hHeld => ?_)
                      · ((refine KLB.out _ ?_; (first | exact HB1.out | exact HB0.out | fail)))
                      refine wpAnyH_take (i := 0) (v := ?_) rfl (by kernel_rfl) (by kernel_rfl) (by kernel_rfl) (fun _ _ _ h => h) (Or.inl ⟨by kernel_rfl, ?_⟩) (by assumption) ?_
                      rotate_left
                      · (intro w hSw; (try dsimp only at hSw); go_simp; (try with_reducible rfl))
                      (try simp only [Act.put, List.getElem_toArray, List.getElem_cons_zero, List.setIfInBounds_toArray, List.set_cons_zero, List.set_cons_succ])
                      refine wpAnyH_ready (rs := [1]) (by kernel_rfl) (by simp) ?_
                      refine AllReadyH.cons rfl (fun K hK => ?_) AllReadyH.nil
                      go_simp
                      (go_at_call 49; (have hBB := (‹_ ∧ _ ∧ _ ∧ Hid (Below w5.heap.size w5 _)›).2.2.2); (with_reducible refine (specRatSign_any _ y _ hzy (OY.out _ (BIN.out _ hBB.out))).mono ?_); rintro e w6 ⟨rfl, b6⟩; rw [HSG.out]; have HB6 := Lib.hid (Below.next hBB.out b6); clear hBB)
                      refine hK.out _ _ ?_ (fun hHeld => ?_)
                      · ((refine KLB.out _ ?_; exact HB6.out))
                      clear hK K
                      (try simp only [Act.put, List.getElem_toArray, List.getElem_cons_zero, List.getElem_cons_succ, List.setIfInBounds_toArray, List.set_cons_zero, List.set_cons_succ])
                      refine wpAnyH_take (i := 2) (v := ?_) rfl (by kernel_rfl) (by kernel_rfl) (by kernel_rfl) (fun _ _ _ h => h) (Or.inl ⟨by kernel_rfl, ?_⟩) (by assumption) ?_
                      rotate_left
                      · (intro w hSw; (try dsimp only at hSw); go_simp; (try with_reducible rfl))
                      (try simp only [Act.put, List.getElem_toArray, List.getElem_cons_zero, List.getElem_cons_succ, List.setIfInBounds_toArray, List.set_cons_zero, List.set_cons_succ])
                      refine wpAnyH_take (i := 3) (v := ?_) rfl (by kernel_rfl) (by kernel_rfl) (by kernel_rfl) (fun _ _ _ h => h) (Or.inl ⟨by kernel_rfl, ?_⟩) (by assumption) ?_
                      rotate_left
                      · (intro w hSw; (try dsimp only at hSw); go_simp; (try with_reducible rfl))
                      (try simp only [Act.put, List.getElem_toArray, List.getElem_cons_zero, List.getElem_cons_succ, List.setIfInBounds_toArray, List.set_cons_zero, List.set_cons_succ])
                      refine wpAnyH_take (i := 4) (v := ?_) rfl (by kernel_rfl) (by kernel_rfl) (by kernel_rfl) (fun _ _ _ h => h) (Or.inl ⟨by kernel_rfl, ?_⟩) (by assumption) ?_
                      rotate_left
                      · (intro w hSw; (try dsimp only at hSw); go_simp; (try with_reducible rfl))
                      (try simp only [Act.put, List.getElem_toArray, List.getElem_cons_zero, List.getElem_cons_succ, List.setIfInBounds_toArray, List.set_cons_zero, List.set_cons_succ])
                      refine wpAnyH_take (i := 5) (v := ?_) rfl (by kernel_rfl) (by kernel_rfl) (by kernel_rfl) (fun _ _ _ h => h) (Or.inl ⟨by kernel_rfl, ?_⟩) (by assumption) ?_
                      rotate_left
                      · (intro w hSw; (try dsimp only at hSw); go_simp; (try with_reducible rfl))
                      (try simp only [Act.put, List.getElem_toArray, List.getElem_cons_zero, List.getElem_cons_succ, List.setIfInBounds_toArray, List.set_cons_zero, List.set_cons_succ])
                      refine wpAnyH_take (i := 6) (v := ?_) rfl (by kernel_rfl) (by kernel_rfl) (by kernel_rfl) (fun _ _ _ h => h) (Or.inl ⟨by kernel_rfl, ?_⟩) (by assumption) ?_
                      rotate_left
                      · (intro w hSw; (try dsimp only at hSw); go_simp; (try with_reducible rfl))
                      (try simp only [Act.put, List.getElem_toArray, List.getElem_cons_zero, List.getElem_cons_succ, List.setIfInBounds_toArray, List.set_cons_zero, List.set_cons_succ])
                      refine wpAnyH_take (i := 7) (v := undef) rfl (by kernel_rfl) (by kernel_rfl) (by kernel_rfl) (fun _ _ _ h => h) (Or.inr ⟨by kernel_rfl, rfl⟩) (by assumption) ?_
                      (try simp only [Act.put, List.getElem_toArray, List.getElem_cons_zero, List.getElem_cons_succ, List.setIfInBounds_toArray, List.set_cons_zero, List.set_cons_succ])
                      refine wpAnyH_take (i := 8) (v := undef) rfl (by kernel_rfl) (by kernel_rfl) (by kernel_rfl) (fun _ _ _ h => h) (Or.inr ⟨by kernel_rfl, rfl⟩) (by assumption) ?_
                      (try simp only [Act.put, List.getElem_toArray, List.getElem_cons_zero, List.getElem_cons_succ, List.setIfInBounds_toArray, List.set_cons_zero, List.set_cons_succ])
                      refine wpAnyH_take (i := 9) (v := undef) rfl (by kernel_rfl) (by kernel_rfl) (by kernel_rfl) (fun _ _ _ h => h) (Or.inr ⟨by kernel_rfl, rfl⟩) (by assumption) ?_
                      (try simp only [Act.put, List.getElem_toArray, List.getElem_cons_zero, List.getElem_cons_succ, List.setIfInBounds_toArray, List.set_cons_zero, List.set_cons_succ])
                      refine wpAnyH_take (i := 10) (v := undef) rfl (by kernel_rfl) (by kernel_rfl) (by kernel_rfl) (fun _ _ _ h => h) (Or.inr ⟨by kernel_rfl, rfl⟩) (by assumption) ?_
                      (try simp only [Act.put, List.getElem_toArray, List.getElem_cons_zero, List.getElem_cons_succ, List.setIfInBounds_toArray, List.set_cons_zero, List.set_cons_succ])
                      refine wpAnyH_take (i := 11) (v := undef) rfl (by kernel_rfl) (by kernel_rfl) (by kernel_rfl) (fun _ _ _ h => h) (Or.inr ⟨by kernel_rfl, rfl⟩) (by assumption) ?_
                      (try simp only [Act.put, List.getElem_toArray, List.getElem_cons_zero, List.getElem_cons_succ, List.setIfInBounds_toArray, List.set_cons_zero, List.set_cons_succ])
                      refine wpAnyH_take (i := 12) (v := undef) rfl (by kernel_rfl) (by kernel_rfl) (by kernel_rfl) (fun _ _ _ h => h) (Or.inr ⟨by kernel_rfl, rfl⟩) (by assumption) ?_
                      (try simp only [Act.put, List.getElem_toArray, List.getElem_cons_zero, List.getElem_cons_succ, List.setIfInBounds_toArray, List.set_cons_zero, List.set_cons_succ])
                      refine wpAnyH_take (i := 13) (v := undef) rfl (by kernel_rfl) (by kernel_rfl) (by kernel_rfl) (fun _ _ _ h => h) (Or.inr ⟨by kernel_rfl, rfl⟩) (by assumption) ?_
                      (try simp only [Act.put, List.getElem_toArray, List.getElem_cons_zero, List.getElem_cons_succ, List.setIfInBounds_toArray, List.set_cons_zero, List.set_cons_succ])
                      refine wpAnyH_take (i := 14) (v := ?_) rfl (by kernel_rfl) (by kernel_rfl) (by kernel_rfl) (fun _ _ _ h => h) (Or.inl ⟨by kernel_rfl, ?_⟩) (by assumption) ?_
                      rotate_left
                      · (intro w hSw; (try dsimp only at hSw); go_simp; (try with_reducible rfl))
                      (try simp only [Act.put, List.getElem_toArray, List.getElem_cons_zero, List.getElem_cons_succ, List.setIfInBounds_toArray, List.set_cons_zero, List.set_cons_succ])
                      refine wpAnyH_take (i := 15) (v := ?_) rfl (by kernel_rfl) (by kernel_rfl) (by kernel_rfl) (fun _ _ _ h => h) (Or.inl ⟨by kernel_rfl, ?_⟩) (by assumption) ?_
                      rotate_left
                      · (intro w hSw; (try dsimp only at hSw); go_simp; (try with_reducible rfl))
                      (try simp only [Act.put, List.getElem_toArray, List.getElem_cons_zero, List.getElem_cons_succ, List.setIfInBounds_toArray, List.set_cons_zero, List.set_cons_succ])
                      refine wpAnyH_done (by kernel_rfl) ?_ _
                      have HFN := Lib.hid (found_take HF.out hkey (.inl (by have := HZM.out; omega)))
                      have BN := Lib.hid (BIO.out _ (BIN.out _ HB6.out))
                      go_wp2
                      exact ⟨⟨k + 1, k, by omega, by go_num, rfl, HFN, BN.out⟩, by simp [intOf]; omega⟩
                    · obtain ⟨y2, hy2, hv2, hzy2⟩ := HG.out.lackAt C (show m < ws.length by omega)
                      obtain ⟨A2, c2, ev, hcell⟩ := HQR.out wr HBI.out
                      obtain ⟨a2, uy2, dyy2, ea, hab2, hd0', hd1', hd2', oy2⟩ := hcell m y2 hy2
                      have ev2 : some a = A2 := by injection ev
                      subst ev2
                      cases ea
                      clear ev hcell
                      obtain ⟨Ay2, cy2, By2, dy2, eyy⟩ := ownQ_form oy2
                      obtain ⟨rfl, rfl⟩ : uy2 = .slice Ay2 y2.1.2.length cy2 ∧ dyy2 = .slice By2 y2.2.length dy2 := by
                        injection eyy with h
                        simp at h
                        exact h
                      clear eyy
                      have OY2 := Lib.hid (show ∀ W, Below wr.heap.size wr W → OwnQ (.agg #[.bool y2.1.1, .slice Ay2 y2.1.2.length cy2, .slice By2 y2.2.length dy2]) y2 W from fun W hb => oy2.below hb)
                      have KLC := Lib.hid (show ∀ W, Below w5.heap.size w5 W → W.cell? ⟨wr.heap.size, 0, none⟩ = some (.bool y.1.1) ∧ W.cell? ⟨wr.heap.size, 1, none⟩ = some (.slice Ay y.1.2.length cy) ∧ W.cell? ⟨wr.heap.size, 2, none⟩ = some (.slice By y.2.length dy') ∧ W.cell? (a.add (m * 3)) = some (.bool y2.1.1) ∧ W.cell? ⟨(a.add (m * 3)).block, (a.add (m * 3)).off + 1, none⟩ = some (.slice Ay2 y2.1.2.length cy2) ∧ W.cell? ⟨(a.add (m * 3)).block, (a.add (m * 3)).off + 2, none⟩ = some (.slice By2 y2.2.length dy2) ∧ Hid (Below w5.heap.size w5 W) from fun W hb => ⟨(KLB.out W hb).1, (KLB.out W hb).2.1, (KLB.out W hb).2.2.1, (cell_keepQ' (BIN.out W hb) hab m).trans hd0', (cell_keepQ (BIN.out W hb) hab m 1).trans hd1', (cell_keepQ (BIN.out W hb) hab m 2).trans hd2', Lib.hid hb⟩)
                      have q5 : (m : Int) < (ws.length : Int) := by omega
                      have q6 : (0 : Int) ≤ (m : Int) := by omega
                      have q7 : decide ((m : Int) < 0) = false := decide_eq_false (by omega)
                      have q8 : ((m : Int)).toNat = m := by omega
                      have q9 : cmpQ y y2 = cmpI (keyR x ws C k) (keyR x ws C m) := valR_cmp HV.out hv2 HG.out.tpos
                      clear hy2 hv2 hd0' hd1' hd2' oy2 hab2
                      by_cases hbt : keyR x ws C m < keyR x ws C k
                      · have HCM := Lib.hid (show cmpQ y y2 = 1 by rw [q9]; exact cmpI_p1 hbt)
                        clear q9
                        go_region_held3 (fun W => W.cell? ⟨wr.heap.size, 0, none⟩ = some (.bool y.1.1) ∧ W.cell? ⟨wr.heap.size, 1, none⟩ = some (.slice Ay y.1.2.length cy) ∧ W.cell? ⟨wr.heap.size, 2, none⟩ = some (.slice By y.2.length dy') ∧ W.cell? (a.add (m * 3)) = some (.bool y2.1.1) ∧ W.cell? ⟨(a.add (m * 3)).block, (a.add (m * 3)).off + 1, none⟩ = some (.slice Ay2 y2.1.2.length cy2) ∧ W.cell? ⟨(a.add (m * 3)).block, (a.add (m * 3)).off + 2, none⟩ = some (.slice By2 y2.2.length dy2) ∧ Hid (Below w5.heap.size w5 W))
                          ((refine KLC.out _ ?_; (first | exact HB7.out | exact HB6.out | exact HB0.out | exact HB1.out | exact HB7.out.drew | exact HB6.out.drew | fail)))
                          (first
                            | (go_at_call 49; (have hBB := (‹_ ∧ _ ∧ _ ∧ _ ∧ _ ∧ _ ∧ Hid (Below w5.heap.size w5 _)›).2.2.2.2.2.2); (with_reducible refine (specRatSign_any _ y _ hzy (OY.out _ (BIN.out _ hBB.out))).mono ?_); rintro e w6 ⟨rfl, b6⟩; rw [HSG.out]; have HB6 := Lib.hid (Below.next hBB.out b6); clear hBB)
                            | (go_at_call 50; (have hBB := (‹_ ∧ _ ∧ _ ∧ _ ∧ _ ∧ _ ∧ Hid (Below w5.heap.size w5 _)›).2.2.2.2.2.2); (with_reducible refine (specRatCmp_any _ _ y y2 _ hzy hzy2 (OY.out _ (BIN.out _ hBB.out)) (OY2.out _ (BIN.out _ hBB.out))).mono ?_); rintro e w7 ⟨rfl, b7⟩; rw [HCM.out]; have HB7 := Lib.hid (Below.next hBB.out b7); clear hBB))
                        have HFN := Lib.hid (found_take HF.out hkey (.inr (by rw [Int.toNat_natCast]; exact hbt)))
                        have BN := Lib.hid (BIO.out _ (BIN.out _ HB7.out))
                        go_wp2
                        exact ⟨⟨k + 1, k, by omega, by go_num, rfl, HFN, BN.out⟩, by simp [intOf]; omega⟩
                      · have HNB := Lib.hid (show ¬ (0 < keyR x ws C k ∧ ((m : Int) < 0 ∨ keyR x ws C (m : Int).toNat < keyR x ws C k)) by rw [Int.toNat_natCast]; omega)
                        rcases cmpI_no hbt with hcc | hcc
                        · have HCM := Lib.hid (q9.trans hcc)
                          clear q9 hcc hbt hkey
                          go_region_held3 (fun W => W.cell? ⟨wr.heap.size, 0, none⟩ = some (.bool y.1.1) ∧ W.cell? ⟨wr.heap.size, 1, none⟩ = some (.slice Ay y.1.2.length cy) ∧ W.cell? ⟨wr.heap.size, 2, none⟩ = some (.slice By y.2.length dy') ∧ W.cell? (a.add (m * 3)) = some (.bool y2.1.1) ∧ W.cell? ⟨(a.add (m * 3)).block, (a.add (m * 3)).off + 1, none⟩ = some (.slice Ay2 y2.1.2.length cy2) ∧ W.cell? ⟨(a.add (m * 3)).block, (a.add (m * 3)).off + 2, none⟩ = some (.slice By2 y2.2.length dy2) ∧ Hid (Below w5.heap.size w5 W))
                            ((refine KLC.out _ ?_; (first | exact HB7.out | exact HB6.out | exact HB0.out | exact HB1.out | exact HB7.out.drew | exact HB6.out.drew | fail)))
                            (first
                              | (go_at_call 49; (have hBB := (‹_ ∧ _ ∧ _ ∧ _ ∧ _ ∧ _ ∧ Hid (Below w5.heap.size w5 _)›).2.2.2.2.2.2); (with_reducible refine (specRatSign_any _ y _ hzy (OY.out _ (BIN.out _ hBB.out))).mono ?_); rintro e w6 ⟨rfl, b6⟩; rw [HSG.out]; have HB6 := Lib.hid (Below.next hBB.out b6); clear hBB)
                              | (go_at_call 50; (have hBB := (‹_ ∧ _ ∧ _ ∧ _ ∧ _ ∧ _ ∧ Hid (Below w5.heap.size w5 _)›).2.2.2.2.2.2); (with_reducible refine (specRatCmp_any _ _ y y2 _ hzy hzy2 (OY.out _ (BIN.out _ hBB.out)) (OY2.out _ (BIN.out _ hBB.out))).mono ?_); rintro e w7 ⟨rfl, b7⟩; rw [HCM.out]; have HB7 := Lib.hid (Below.next hBB.out b7); clear hBB))
                          have HFN := Lib.hid (found_pass HF.out (HNB.out))
                          have BN := Lib.hid (BIO.out _ (BIN.out _ HB7.out))
                          go_wp2
                          exact ⟨⟨k + 1, m, by omega, by go_num, rfl, HFN, BN.out⟩, by simp [intOf]; omega⟩
                        · have HCM := Lib.hid (q9.trans hcc)
                          clear q9 hcc hbt hkey
                          go_region_held3 (fun W => W.cell? ⟨wr.heap.size, 0, none⟩ = some (.bool y.1.1) ∧ W.cell? ⟨wr.heap.size, 1, none⟩ = some (.slice Ay y.1.2.length cy) ∧ W.cell? ⟨wr.heap.size, 2, none⟩ = some (.slice By y.2.length dy') ∧ W.cell? (a.add (m * 3)) = some (.bool y2.1.1) ∧ W.cell? ⟨(a.add (m * 3)).block, (a.add (m * 3)).off + 1, none⟩ = some (.slice Ay2 y2.1.2.length cy2) ∧ W.cell? ⟨(a.add (m * 3)).block, (a.add (m * 3)).off + 2, none⟩ = some (.slice By2 y2.2.length dy2) ∧ Hid (Below w5.heap.size w5 W))
                            ((refine KLC.out _ ?_; (first | exact HB7.out | exact HB6.out | exact HB0.out | exact HB1.out | exact HB7.out.drew | exact HB6.out.drew | fail)))
                            (first
                              | (go_at_call 49; (have hBB := (‹_ ∧ _ ∧ _ ∧ _ ∧ _ ∧ _ ∧ Hid (Below w5.heap.size w5 _)›).2.2.2.2.2.2); (with_reducible refine (specRatSign_any _ y _ hzy (OY.out _ (BIN.out _ hBB.out))).mono ?_); rintro e w6 ⟨rfl, b6⟩; rw [HSG.out]; have HB6 := Lib.hid (Below.next hBB.out b6); clear hBB)
                              | (go_at_call 50; (have hBB := (‹_ ∧ _ ∧ _ ∧ _ ∧ _ ∧ _ ∧ Hid (Below w5.heap.size w5 _)›).2.2.2.2.2.2); (with_reducible refine (specRatCmp_any _ _ y y2 _ hzy hzy2 (OY.out _ (BIN.out _ hBB.out)) (OY2.out _ (BIN.out _ hBB.out))).mono ?_); rintro e w7 ⟨rfl, b7⟩; rw [HCM.out]; have HB7 := Lib.hid (Below.next hBB.out b7); clear hBB))
                          have HFN := Lib.hid (found_pass HF.out (HNB.out))
                          have BN := Lib.hid (BIO.out _ (BIN.out _ HB7.out))
                          go_wp2
                          exact ⟨⟨k + 1, m, by omega, by go_num, rfl, HFN, BN.out⟩, by simp [intOf]; omega⟩
                  · have HSG := Lib.hid (show cmpQ y oneQ = 0 by rw [valR_cmp HV.out (valR_zero _) HG.out.tpos]; exact cmpI_z0 (by omega))
                    have HNB := Lib.hid (show ¬ (0 < keyR x ws C k ∧ (z < 0 ∨ keyR x ws C z.toNat < keyR x ws C k)) from fun h => hkey h.1)
                    clear hkey
                    refine wp_region_held_drew (S := fun W => W.cell? ⟨wr.heap.size, 0, none⟩ = some (.bool y.1.1) ∧ W.cell? ⟨wr.heap.size, 1, none⟩ = some (.slice Ay y.1.2.length cy) ∧ W.cell? ⟨wr.heap.size, 2, none⟩ = some (.slice By y.2.length dy') ∧ Hid (Below w5.heap.size w5 W)) (by kernel_rfl) ?_ (fun hHeld => ?_)
                    · ((refine KLB.out _ ?_; (first | exact HB1.out | exact HB0.out | fail)))
                    refine wpAnyH_take (i := 0) (v := ?_) rfl (by kernel_rfl) (by kernel_rfl) (by kernel_rfl) (fun _ _ _ h => h) (Or.inl ⟨by kernel_rfl, ?_⟩) (by assumption) ?_
                    rotate_left
                    · (intro w hSw; (try dsimp only at hSw); go_simp; (try with_reducible rfl))
                    (try simp only [Act.put, List.getElem_toArray, List.getElem_cons_zero, List.setIfInBounds_toArray, List.set_cons_zero, List.set_cons_succ])
                    refine wpAnyH_ready (rs := [1]) (by kernel_rfl) (by simp) ?_
                    refine AllReadyH.cons rfl (fun K hK => ?_) AllReadyH.nil
                    go_simp
                    (go_at_call 49; (have hBB := (‹_ ∧ _ ∧ _ ∧ Hid (Below w5.heap.size w5 _)›).2.2.2); (with_reducible refine (specRatSign_any _ y _ hzy (OY.out _ (BIN.out _ hBB.out))).mono ?_); rintro e w6 ⟨rfl, b6⟩; rw [HSG.out]; have HB6 := Lib.hid (Below.next hBB.out b6); clear hBB)
                    refine hK.out _ _ ?_ (fun hHeld => ?_)
                    · ((refine KLB.out _ ?_; exact HB6.out))
                    clear hK K
                    (try simp only [Act.put, List.getElem_toArray, List.getElem_cons_zero, List.getElem_cons_succ, List.setIfInBounds_toArray, List.set_cons_zero, List.set_cons_succ])
                    refine wpAnyH_take (i := 2) (v := ?_) rfl (by kernel_rfl) (by kernel_rfl) (by kernel_rfl) (fun _ _ _ h => h) (Or.inl ⟨by kernel_rfl, ?_⟩) (by assumption) ?_
                    rotate_left
                    · (intro w hSw; (try dsimp only at hSw); go_simp; (try with_reducible rfl))
                    (try simp only [Act.put, List.getElem_toArray, List.getElem_cons_zero, List.getElem_cons_succ, List.setIfInBounds_toArray, List.set_cons_zero, List.set_cons_succ])
                    refine wpAnyH_take (i := 3) (v := ?_) rfl (by kernel_rfl) (by kernel_rfl) (by kernel_rfl) (fun _ _ _ h => h) (Or.inl ⟨by kernel_rfl, ?_⟩) (by assumption) ?_
                    rotate_left
                    · (intro w hSw; (try dsimp only at hSw); go_simp; (try with_reducible rfl))
                    (try simp only [Act.put, List.getElem_toArray, List.getElem_cons_zero, List.getElem_cons_succ, List.setIfInBounds_toArray, List.set_cons_zero, List.set_cons_succ])
                    refine wpAnyH_take (i := 4) (v := undef) rfl (by kernel_rfl) (by kernel_rfl) (by kernel_rfl) (fun _ _ _ h => h) (Or.inr ⟨by kernel_rfl, rfl⟩) (by assumption) ?_
                    (try simp only [Act.put, List.getElem_toArray, List.getElem_cons_zero, List.getElem_cons_succ, List.setIfInBounds_toArray, List.set_cons_zero, List.set_cons_succ])
                    refine wpAnyH_take (i := 5) (v := undef) rfl (by kernel_rfl) (by kernel_rfl) (by kernel_rfl) (fun _ _ _ h => h) (Or.inr ⟨by kernel_rfl, rfl⟩) (by assumption) ?_
                    (try simp only [Act.put, List.getElem_toArray, List.getElem_cons_zero, List.getElem_cons_succ, List.setIfInBounds_toArray, List.set_cons_zero, List.set_cons_succ])
                    refine wpAnyH_take (i := 6) (v := undef) rfl (by kernel_rfl) (by kernel_rfl) (by kernel_rfl) (fun _ _ _ h => h) (Or.inr ⟨by kernel_rfl, rfl⟩) (by assumption) ?_
                    (try simp only [Act.put, List.getElem_toArray, List.getElem_cons_zero, List.getElem_cons_succ, List.setIfInBounds_toArray, List.set_cons_zero, List.set_cons_succ])
                    refine wpAnyH_take (i := 7) (v := undef) rfl (by kernel_rfl) (by kernel_rfl) (by kernel_rfl) (fun _ _ _ h => h) (Or.inr ⟨by kernel_rfl, rfl⟩) (by assumption) ?_
                    (try simp only [Act.put, List.getElem_toArray, List.getElem_cons_zero, List.getElem_cons_succ, List.setIfInBounds_toArray, List.set_cons_zero, List.set_cons_succ])
                    refine wpAnyH_take (i := 8) (v := undef) rfl (by kernel_rfl) (by kernel_rfl) (by kernel_rfl) (fun _ _ _ h => h) (Or.inr ⟨by kernel_rfl, rfl⟩) (by assumption) ?_
                    (try simp only [Act.put, List.getElem_toArray, List.getElem_cons_zero, List.getElem_cons_succ, List.setIfInBounds_toArray, List.set_cons_zero, List.set_cons_succ])
                    refine wpAnyH_take (i := 9) (v := undef) rfl (by kernel_rfl) (by kernel_rfl) (by kernel_rfl) (fun _ _ _ h => h) (Or.inr ⟨by kernel_rfl, rfl⟩) (by assumption) ?_
                    (try simp only [Act.put, List.getElem_toArray, List.getElem_cons_zero, List.getElem_cons_succ, List.setIfInBounds_toArray, List.set_cons_zero, List.set_cons_succ])
                    refine wpAnyH_take (i := 10) (v := undef) rfl (by kernel_rfl) (by kernel_rfl) (by kernel_rfl) (fun _ _ _ h => h) (Or.inr ⟨by kernel_rfl, rfl⟩) (by assumption) ?_
                    (try simp only [Act.put, List.getElem_toArray, List.getElem_cons_zero, List.getElem_cons_succ, List.setIfInBounds_toArray, List.set_cons_zero, List.set_cons_succ])
                    refine wpAnyH_take (i := 11) (v := undef) rfl (by kernel_rfl) (by kernel_rfl) (by kernel_rfl) (fun _ _ _ h => h) (Or.inr ⟨by kernel_rfl, rfl⟩) (by assumption) ?_
                    (try simp only [Act.put, List.getElem_toArray, List.getElem_cons_zero, List.getElem_cons_succ, List.setIfInBounds_toArray, List.set_cons_zero, List.set_cons_succ])
                    refine wpAnyH_take (i := 12) (v := undef) rfl (by kernel_rfl) (by kernel_rfl) (by kernel_rfl) (fun _ _ _ h => h) (Or.inr ⟨by kernel_rfl, rfl⟩) (by assumption) ?_
                    (try simp only [Act.put, List.getElem_toArray, List.getElem_cons_zero, List.getElem_cons_succ, List.setIfInBounds_toArray, List.set_cons_zero, List.set_cons_succ])
                    refine wpAnyH_take (i := 13) (v := undef) rfl (by kernel_rfl) (by kernel_rfl) (by kernel_rfl) (fun _ _ _ h => h) (Or.inr ⟨by kernel_rfl, rfl⟩) (by assumption) ?_
                    (try simp only [Act.put, List.getElem_toArray, List.getElem_cons_zero, List.getElem_cons_succ, List.setIfInBounds_toArray, List.set_cons_zero, List.set_cons_succ])
                    refine wpAnyH_take (i := 14) (v := undef) rfl (by kernel_rfl) (by kernel_rfl) (by kernel_rfl) (fun _ _ _ h => h) (Or.inr ⟨by kernel_rfl, rfl⟩) (by assumption) ?_
                    (try simp only [Act.put, List.getElem_toArray, List.getElem_cons_zero, List.getElem_cons_succ, List.setIfInBounds_toArray, List.set_cons_zero, List.set_cons_succ])
                    refine wpAnyH_take (i := 15) (v := ?_) rfl (by kernel_rfl) (by kernel_rfl) (by kernel_rfl) (fun _ _ _ h => h) (Or.inl ⟨by kernel_rfl, ?_⟩) (by assumption) ?_
                    rotate_left
                    · (intro w hSw; (try dsimp only at hSw); go_simp; (try with_reducible rfl))
                    (try simp only [Act.put, List.getElem_toArray, List.getElem_cons_zero, List.getElem_cons_succ, List.setIfInBounds_toArray, List.set_cons_zero, List.set_cons_succ])
                    refine wpAnyH_done (by kernel_rfl) ?_ _
                    have HFN := Lib.hid (found_pass HF.out (HNB.out))
                    have BN := Lib.hid (BIO.out _ (BIN.out _ HB6.out))
                    go_wp2
                    exact ⟨⟨k + 1, z, by omega, by go_num, rfl, HFN, BN.out⟩, by simp [intOf]; omega⟩
                · obtain rfl : k = ws.length := by omega
                  obtain ⟨p, rfl, hp, hpn, hTp⟩ := HG.out.next HT.out HLT.out (show Found (fun i => if i ∈ C then 0 else rN x ws i) ws.length z from HF.out)
                  have hm0 : 0 < missN x ws := by have := HLT.out; omega
                  obtain ⟨e1, e2, e3⟩ := HG.out.bump hp hpn hm0
                  have RSr := HSC.out.below hbi
                  have RQr := HQC.out.below hbi
                  have hbr := Below.mono hbi hbs
                  have B1r := HB.out.trans hbr
                  obtain ⟨g, cg, Ap, cp, eu, hgB, hgl, hplace, op⟩ := rowS_place RSr e2
                  obtain ⟨gq, cgq, eq2, hqB, hql, hplq⟩ := rowQ_place RQr (by rw [lacksK_len]; omega)
                  rw [partsK_len] at eu
                  rw [lacksK_len] at eq2 hplq
                  have hgw6 := HAU.out g (by rw [eu]; rfl)
                  have hqw6 := HAQ.out gq (by rw [eq2]; rfl)
                  obtain ⟨rfl, rfl⟩ : Au = some ⟨g, 0, none⟩ ∧ cu = cg := by injection eu with h1 h2 h3; exact ⟨h1, h3⟩
                  obtain ⟨rfl, rfl⟩ : Aq = some ⟨gq, 0, none⟩ ∧ cq = cgq := by injection eq2 with h1 h2 h3; exact ⟨h1, h3⟩
                  clear eu eq2
                  have hgq : ¬ gq = g := fun e => by
                    obtain ⟨_, h1, _⟩ := RSr
                    obtain ⟨_, h2, _⟩ := RQr
                    exact own_typesS h1 h2 (by decide) rfl (by rw [e]; rfl)
                  obtain ⟨y0, hy0⟩ : ∃ y, ofZ (sgZ x.1 (qN x ws p)) = y := ⟨_, rfl⟩
                  obtain ⟨yo, hyo⟩ : ∃ y, ofZ (sgZ x.1 1) = y := ⟨_, rfl⟩
                  obtain ⟨yn, hyn⟩ : ∃ y, ofZ (sgZ x.1 (qN x ws p + 1)) = y := ⟨_, rfl⟩
                  have hl0 : y0.2.length ≤ 1048576 := by rw [← hy0]; exact Nat.le_trans (ofZ_len _) (by decide)
                  have hlo : yo.2.length ≤ 1048576 := by rw [← hyo]; exact Nat.le_trans (ofZ_len _) (by decide)
                  rw [hy0] at e1 e2 op hplace
                  have hO := HO.out
                  rw [hyo] at e1 hO
                  rw [hyn] at e1 e3
                  have HYO := Lib.hid hyo
                  have HE1 := Lib.hid e1
                  have HE3 := Lib.hid e3
                  obtain ⟨hO1, hO2⟩ := hO
                  have HOP := Lib.hid (show ∀ W, Below wr.heap.size wr W → OwnS (.agg #[.bool y0.1, .slice Ap y0.2.length cp]) y0 W from fun W hb => op.below hb)
                  have HOO := Lib.hid (show ∀ W, Below wr.heap.size wr W → OwnS (.agg #[.bool yo.1, .slice A9 yo.2.length c9]) yo W from fun W hb => (hO2.below (Below.next hbi hb)).here)
                  have HO1 := Lib.hid hO1
                  have HO2 := Lib.hid hO2
                  have HPL := Lib.hid hplace
                  have HPQ := Lib.hid hplq
                  have HRS := Lib.hid RSr
                  have HRQ := Lib.hid RQr
                  have HBI2 := Lib.hid hbi
                  have HB1 := Lib.hid B1r
                  have hzi := hbi.size
                  have hbx := (hO1.below hbi).here
                  have p_c0 := (hplace wr rfl).1
                  have p_c1 := (hplace wr rfl).2.1
                  have o_c0 := hbx.cell 0 _ rfl
                  have o_c1 := hbx.cell 1 _ rfl
                  have q1 : (p : Int) < (ws.length : Int) := by omega
                  have q3 : (0 : Int) ≤ (p : Int) := by omega
                  have q4 : ((p : Int)).toNat = p := by omega
                  have q5 : decide ((p : Int) < 0) = false := decide_eq_false (by omega)
                  clear hy0 hyo hyn e1 e2 e3 op hO1 hO2 hplace hplq RSr RQr hbi hbr B1r hbx
                  go_upto_region 29 with fail
                  go_region_law (first
                    | (go_simp; go_at_call 51; refine ((specIntAdd_any _ _ y0 yo _ hl0 hlo (HOP.out _ (by first | exact Below.refl _ _ | exact (Below.refl _ _).drew)) (HOO.out _ (by first | exact Below.refl _ _ | exact (Below.refl _ _).drew))).mono fun _ _ h => newS_isS HE1.out h).mono ?_; rintro e w10 ⟨u10, S10, rfl, o10, l10, b10⟩; replace b10 : Below wr.heap.size wr w10 := (by first | exact b10 | exact (Below.refl _ _).drew.trans b10); obtain ⟨A10, c10, rfl⟩ := ownS_form o10.here; have hpl := HPL.out w10 (b10.block g hgl); have f0 := hpl.2.2.1; have f1 := hpl.2.2.2; have d0 := hpl.1; have d1 := hpl.2.1; have HB10 := Lib.hid b10; have HO10 := Lib.hid o10; have HL10 := Lib.hid l10; clear o10 l10 b10 hpl))
                  all_goals
                    obtain ⟨w11, hw11⟩ : ∃ W, W = (w10.setCell ⟨g, p * 2, none⟩ (.bool yn.1)).setCell ⟨g, p * 2 + 1, none⟩ (.slice A10 yn.2.length c10) := ⟨_, rfl⟩
                    rw [← hw11]
                    have RS11 : RowS w1.heap.size (.slice (some ⟨g, 0, none⟩) ws.length cu) (partsK x ws (p :: C)) w11 := by
                      have h := rowS_set (k := p) (x := yn) (un := .slice A10 yn.2.length c10) (W0 := wr) (W := w10) (N := wr.heap.size) (B := w1.heap.size) (g := g) (c := cu) (l := partsK x ws C) (by rw [partsK_len]; exact HRS.out) (by rw [partsK_len]; exact hp) (fun i hi => HB10.out.block i hi) (Nat.le_refl _) (ownS_row HO10.out (fun i hi => (HL10.out i hi).1)) (by omega)
                      rw [partsK_len, HE3.out, ← hw11] at h
                      exact h
                    have hc11 : Chg [g] w10 w11 := by rw [hw11]; exact ((Chg.refl _ _).setCell (by simp) _).setCell (by simp) _
                    have hz10 := HB10.out.size
                    have hz11 := hc11.size
                    have RQ11 : RowQ w1.heap.size (.slice (some ⟨gq, 0, none⟩) ws.length cq) (lacksK x ws C) w11 := by
                      obtain ⟨e, h1, _⟩ := HRS.out.below HB10.out
                      exact (HRQ.out.below HB10.out).chg h1 (by decide) (by decide) hc11
                    have O111 := (HO1.out.below (Below.next HBI2.out HB10.out)).chg hc11 (fun i hi hm => by simp at hi hm; omega)
                    have O211 := (HO2.out.below (Below.next HBI2.out HB10.out)).chg hc11 (fun i hi hm => by have := hSin i hi; simp at hm; omega)
                    have B111 : Below w1.heap.size w1 w11 := below_chg (HB1.out.trans (HB10.out.mono (by omega))) hc11 (by omega) (fun i hi => by simp at hi; omega)
                    have hqe : w11.heap[gq]? = wr.heap[gq]? := (hc11.block gq (by omega) (by simp; exact hgq)).trans (HB10.out.block gq hql)
                    clear hw11 d0 d1 f0 f1 hc11 HRS HRQ HB10 HO10 HL10
                    go_wp2_with fail
                    refine (specRatZero_any _).mono ?_
                    rintro e w12 ⟨v12, S12, rfl, o12, l12, b12⟩
                    obtain ⟨Z, hZ⟩ : ∃ Z, oneQ = Z := ⟨_, rfl⟩
                    rw [hZ] at o12
                    obtain ⟨A12, c12, B12, d12, rfl⟩ := ownQ_form o12.here
                    have hq12 : w12.heap[gq]? = wr.heap[gq]? := (b12.block gq (by omega)).trans hqe
                    have g0 := (HPQ.out w12 (p * 3) (by omega) hq12).1
                    have g1 := (HPQ.out w12 (p * 3 + 1) (by omega) hq12).1
                    have g2 := (HPQ.out w12 (p * 3 + 2) (by omega) hq12).1
                    obtain ⟨v0, d0⟩ := (HPQ.out w12 (p * 3) (by omega) hq12).2
                    obtain ⟨v1, d1⟩ := (HPQ.out w12 (p * 3 + 1) (by omega) hq12).2
                    obtain ⟨v2, d2⟩ := (HPQ.out w12 (p * 3 + 2) (by omega) hq12).2
                    have RQ12 : RowQ w1.heap.size (.slice (some ⟨gq, 0, none⟩) ws.length cq) (lacksK x ws (p :: C)) (((w12.setCell ⟨gq, p * 3, none⟩ (.bool Z.1.1)).setCell ⟨gq, p * 3 + 1, none⟩ (.slice A12 Z.1.2.length c12)).setCell ⟨gq, p * 3 + 2, none⟩ (.slice B12 Z.2.length d12)) := by
                      have h := rowQ_set (k := p) (x := Z) (un := .slice A12 Z.1.2.length c12) (dn := .slice B12 Z.2.length d12) (W0 := w11) (W := w12) (B := w1.heap.size) (g := gq) (c := cq) (l := lacksK x ws C) (by rw [lacksK_len]; exact RQ11) (by rw [lacksK_len]; exact hp) (fun i hi => b12.block i hi) o12.here
                      rw [lacksK_len, ← hZ, lacksK_set hp, hZ] at h
                      exact h
                    have hc12 : Chg [gq] w12 (((w12.setCell ⟨gq, p * 3, none⟩ (.bool Z.1.1)).setCell ⟨gq, p * 3 + 1, none⟩ (.slice A12 Z.1.2.length c12)).setCell ⟨gq, p * 3 + 2, none⟩ (.slice B12 Z.2.length d12)) := (((Chg.refl _ _).setCell (by simp) _).setCell (by simp) _).setCell (by simp) _
                    have hz12 := b12.size
                    have hz13 := hc12.size
                    have RS12 : RowS w1.heap.size (.slice (some ⟨g, 0, none⟩) ws.length cu) (partsK x ws (p :: C)) (((w12.setCell ⟨gq, p * 3, none⟩ (.bool Z.1.1)).setCell ⟨gq, p * 3 + 1, none⟩ (.slice A12 Z.1.2.length c12)).setCell ⟨gq, p * 3 + 2, none⟩ (.slice B12 Z.2.length d12)) := by
                      obtain ⟨e, h1, _⟩ := RQ11.below b12
                      exact (RS11.below b12).chg h1 (by decide) (by decide) hc12
                    have ON12 : OneAt w7.heap.size (ofZ (sgZ x.1 1)) S9 A9 c9 (((w12.setCell ⟨gq, p * 3, none⟩ (.bool Z.1.1)).setCell ⟨gq, p * 3 + 1, none⟩ (.slice A12 Z.1.2.length c12)).setCell ⟨gq, p * 3 + 2, none⟩ (.slice B12 Z.2.length d12)) := by
                      rw [HYO.out]
                      exact ⟨(O111.below b12).chg hc12 (fun i hi hm => by simp at hi hm; omega), (O211.below b12).chg hc12 (fun i hi hm => by have := hSin i hi; simp at hm; omega)⟩
                    have B112 : Below w1.heap.size w1 (((w12.setCell ⟨gq, p * 3, none⟩ (.bool Z.1.1)).setCell ⟨gq, p * 3 + 1, none⟩ (.slice A12 Z.1.2.length c12)).setCell ⟨gq, p * 3 + 2, none⟩ (.slice B12 Z.2.length d12)) := below_chg (B111.trans (b12.mono (by omega))) hc12 (by omega) (fun i hi => by simp at hi; omega)
                    have HFIN := Lib.hid (show ∀ l : Value, l = .int .i64 (d - 1) → GiveRel x ws w7.heap.size S9 A9 c9 (some ⟨g, 0, none⟩) (some ⟨gq, 0, none⟩) cu cq w1 WS l (((w12.setCell ⟨gq, p * 3, none⟩ (.bool Z.1.1)).setCell ⟨gq, p * 3 + 1, none⟩ (.slice A12 Z.1.2.length c12)).setCell ⟨gq, p * 3 + 2, none⟩ (.slice B12 Z.2.length d12)) from
                      fun l hl => ⟨p :: C, by rw [List.length_cons]; exact HLT.out, by rw [hl, List.length_cons]; have := HD.out; congr 1; omega, hTp, RS12, RQ12, ON12, by omega, B112⟩)
                    clear RS12 RQ12 ON12 B112 hc12 RS11 RQ11 O111 O211 B111 o12 l12 b12 hZ hqe hq12
                    go_wp2
                    exact ⟨HFIN.out _ (by go_num), by simp [intOf]; omega⟩
            · have HE := Lib.hid (sharesPost_yes HOK.out (by rw [← shares_top hT (by omega)]; exact hS) (show w.heap.size ≤ w1.heap.size by omega) (Below.next BB1.out hb))
              have hd0 : ¬ 0 < d := by omega
              have hd1 : 0 ≤ d := by omega
              clear hd hT hS hQ hO hb hlt hC
              go_wp2
              go_ret2
              exact HE.out
end Go.Proofs.YtofehcpapdlcnabGreatDoor

namespace Go.Proofs.YtofehcpapdlcnabGreatDoor
open Go.RowKit

set_option maxHeartbeats 4000000 in
set_option maxRecDepth 100000 in
theorem implFairShare_any (v vw : Value) (x : SI) (ws : List Int) (i : Int) (lo hi : Nat) (w : World) (hlx : x.2.length ≤ 1048576) (hlw : ws.length ≤ 1048576) (hhi : hi ≤ w.heap.size) (h : OwnS v x w) (hr : Row w lo hi vw (intsV ws)) (hsen : Sen w) :
    Calls Tryz.prog 87 #[v, vw, .int .i64 i] w (PostQb (fairR x ws i).1 (fairR x ws i).2 w) := by
  have HS := Lib.hid hsen
  clear hsen
  have Hx := Lib.hid h
  obtain ⟨Ax, cx, rfl⟩ := ownS_form h
  have OSx := Lib.hid (show ∀ W, Below w.heap.size w W → OwnS (.agg #[.bool x.1, .slice Ax x.2.length cx]) x W from fun W hb => OwnS.below Hx.out hb)
  have OUx := Lib.hid (show ∀ W, Below w.heap.size w W → OwnI (.slice Ax x.2.length cx) x.2 W from fun W hb => ownS_open (OSx.out W hb))
  clear h Hx
  have HR0 := Lib.hid hr
  obtain ⟨Aw, cw, rfl, hA⟩ := hr
  rw [intsV_length] at HR0 ⊢
  have HRW := Lib.hid (show ∀ W, Below w.heap.size w W → Row W lo hi (.slice Aw ws.length cw) (intsV ws) from fun W hb => Row.below HR0.out hb hhi)
  have HA := Lib.hid hA
  clear hA HR0
  have bb0 : Below w.heap.size w ((w.alloc (.cells #[.bool x.1, .slice Ax x.2.length cx] 29)).alloc (.cells #[.bool false, .slice none 0 0, .slice none 0 0] 63)) := below_al (below_al (Below.refl _ _) _) _
  have kx := (box_new w #[.bool x.1, .slice Ax x.2.length cx] 29).below (below_al (Below.refl _ _) (.cells #[.bool false, .slice none 0 0, .slice none 0 0] 63))
  have ko := (box_new (w.alloc (.cells #[.bool x.1, .slice Ax x.2.length cx] 29)) #[.bool false, .slice none 0 0, .slice none 0 0] 63)
  rw [show (w.alloc (.cells #[.bool x.1, .slice Ax x.2.length cx] 29)).heap.size = w.heap.size + 1 by simp] at ko
  obtain ⟨⟨R, r⟩, hHR⟩ : ∃ q, fairR x ws i = q := ⟨_, rfl⟩
  have EN := Lib.hid (show ¬ (okW ws = true ∧ (0 ≤ i ∧ i < ws.length) ∧ okS x = true) → (R, r) = (zeroQ, false) from fun h => by rw [← hHR]; exact fair_no h)
  rw [hHR]
  have hzx : szS x ≤ 1048576 := by unfold szS szI; omega
  go_enter Tryz.func87, Tryz.ntmps87
  have kx_c0 := kx.here.cell 0 _ rfl
  have kx_c1 := kx.here.cell 1 _ rfl
  go_wp2_with fail
  clear kx_c0 kx_c1
  refine (implIntOk_any _ x _ hlx (OwnS.rd (OSx.out _ bb0))).mono ?_
  rintro e w1 ⟨rfl, b1⟩
  have bb1 := Below.next bb0 b1
  replace kx := kx.below b1
  replace ko := ko.below b1
  obtain ⟨ok, hok⟩ : ∃ b, okS x = b := ⟨_, rfl⟩
  rw [hok]
  have HOK := Lib.hid hok
  clear hok
  cases ok with
  | false =>
    clear hHR
    obtain ⟨rfl, rfl⟩ : R = zeroQ ∧ r = false := by have h := EN.out (fun hh => by have := hh.2.2; rw [HOK.out] at this; cases this); injection h with h1 h2; exact ⟨h1, h2⟩
    have HW := Lib.hid (newQb_zeroS (T := [w.heap.size + 1]) (fun i hi => by simp at hi; omega) bb1)
    have cz0 := ko.here.cell 0 _ rfl
    have fz0 := Lib.frozen_of_heap ko.here 0
    have cz1 := ko.here.cell 1 _ rfl
    have fz1 := Lib.frozen_of_heap ko.here 1
    have cz2 := ko.here.cell 2 _ rfl
    have fz2 := Lib.frozen_of_heap ko.here 2
    clear ko kx
    go_wp2
    refine bodyPost_ret (v := .tuple #[.agg #[.bool false, .slice none 0 0, .slice none 0 0], .bool false]) (by simp [results, Tryz.results87, go_sem, cz0, cz1, cz2]) rfl ?_
    refine HW.out _ ?_
    repeat (first | with_reducible exact Chg.refl _ _ | with_reducible refine Chg.setCell ?_ (by simp) _ | with_reducible refine Chg.drew1 ?_ | with_reducible refine Chg.trans ?_ (Chg.of_below (below_al (Below.refl _ _) _)))
  | true =>
    go_wp2_with fail
    refine ((implWeightsOk_any _ ws lo hi _ (by omega) (HRW.out _ bb1)).mono fun _ _ h => same_below h).mono ?_
    rintro e w2 ⟨rfl, b2⟩
    have bb2 := Below.next bb1 b2
    replace kx := kx.below b2
    replace ko := ko.below b2
    obtain ⟨ow, how⟩ : ∃ b, okW ws = b := ⟨_, rfl⟩
    rw [how]
    have HOW := Lib.hid how
    clear how
    cases ow with
    | false =>
      clear hHR
      obtain ⟨rfl, rfl⟩ : R = zeroQ ∧ r = false := by have h := EN.out (fun hh => by have := hh.1; rw [HOW.out] at this; cases this); injection h with h1 h2; exact ⟨h1, h2⟩
      have HW := Lib.hid (newQb_zeroS (T := [w.heap.size + 1]) (fun i hi => by simp at hi; omega) bb2)
      have cz0 := ko.here.cell 0 _ rfl
      have fz0 := Lib.frozen_of_heap ko.here 0
      have cz1 := ko.here.cell 1 _ rfl
      have fz1 := Lib.frozen_of_heap ko.here 1
      have cz2 := ko.here.cell 2 _ rfl
      have fz2 := Lib.frozen_of_heap ko.here 2
      clear ko kx
      go_wp2
      refine bodyPost_ret (v := .tuple #[.agg #[.bool false, .slice none 0 0, .slice none 0 0], .bool false]) (by simp [results, Tryz.results87, go_sem, cz0, cz1, cz2]) rfl ?_
      refine HW.out _ ?_
      repeat (first | with_reducible exact Chg.refl _ _ | with_reducible refine Chg.setCell ?_ (by simp) _ | with_reducible refine Chg.drew1 ?_ | with_reducible refine Chg.trans ?_ (Chg.of_below (below_al (Below.refl _ _) _)))
    | true =>
      by_cases hin1 : i < 0
      · clear hHR
        obtain ⟨rfl, rfl⟩ : R = zeroQ ∧ r = false := by have h := EN.out (fun hh => by have := hh.2.1; omega); injection h with h1 h2; exact ⟨h1, h2⟩
        have HW := Lib.hid (newQb_zeroS (T := [w.heap.size + 1]) (fun i hi => by simp at hi; omega) bb2)
        have cz0 := ko.here.cell 0 _ rfl
        have fz0 := Lib.frozen_of_heap ko.here 0
        have cz1 := ko.here.cell 1 _ rfl
        have fz1 := Lib.frozen_of_heap ko.here 1
        have cz2 := ko.here.cell 2 _ rfl
        have fz2 := Lib.frozen_of_heap ko.here 2
        clear ko kx
        go_wp2
        refine bodyPost_ret (v := .tuple #[.agg #[.bool false, .slice none 0 0, .slice none 0 0], .bool false]) (by simp [results, Tryz.results87, go_sem, cz0, cz1, cz2]) rfl ?_
        refine HW.out _ ?_
        repeat (first | with_reducible exact Chg.refl _ _ | with_reducible refine Chg.setCell ?_ (by simp) _ | with_reducible refine Chg.drew1 ?_ | with_reducible refine Chg.trans ?_ (Chg.of_below (below_al (Below.refl _ _) _)))
      by_cases hin2 : (ws.length : Int) ≤ i
      · clear hHR
        obtain ⟨rfl, rfl⟩ : R = zeroQ ∧ r = false := by have h := EN.out (fun hh => by have := hh.2.1; omega); injection h with h1 h2; exact ⟨h1, h2⟩
        have HW := Lib.hid (newQb_zeroS (T := [w.heap.size + 1]) (fun i hi => by simp at hi; omega) bb2)
        have cz0 := ko.here.cell 0 _ rfl
        have fz0 := Lib.frozen_of_heap ko.here 0
        have cz1 := ko.here.cell 1 _ rfl
        have fz1 := Lib.frozen_of_heap ko.here 1
        have cz2 := ko.here.cell 2 _ rfl
        have fz2 := Lib.frozen_of_heap ko.here 2
        clear ko kx
        go_wp2
        refine bodyPost_ret (v := .tuple #[.agg #[.bool false, .slice none 0 0, .slice none 0 0], .bool false]) (by simp [results, Tryz.results87, go_sem, cz0, cz1, cz2]) rfl ?_
        refine HW.out _ ?_
        repeat (first | with_reducible exact Chg.refl _ _ | with_reducible refine Chg.setCell ?_ (by simp) _ | with_reducible refine Chg.drew1 ?_ | with_reducible refine Chg.trans ?_ (Chg.of_below (below_al (Below.refl _ _) _)))
      obtain ⟨k, rfl⟩ : ∃ k : Nat, i = (k : Int) := ⟨i.toNat, by omega⟩
      have hk : k < ws.length := by omega
      clear hin1
      have hkz : (k : Int) < (ws.length : Int) := by omega
      have hk0 : (0 : Int) ≤ (k : Int) := by omega
      have hPW := okW_parts HOW.out
      have HPW := Lib.hid hPW
      have hl30 := hPW.l2
      have hall := HPW.out.all
      have hwk := hall _ (List.getElem_mem hk)
      have hat := (HPW.out.at_ hk).1
      have hsum := HPW.out.sum
      have HALL := Lib.hid (show ws.all wtB = true from List.all_eq_true.2 fun y hy => decide_eq_true (HPW.out.all y hy))
      clear hPW hall
      obtain ⟨aw, rfl, _, hab, hca⟩ := HA.out k _ (intsV_at ws k hk)
      have CWF := Lib.hid (show ∀ W, Below w.heap.size w W → W.cell? (aw.add k) = some (.int .i64 ws[k]) from fun W hb => (hb.cell (by rw [block_add]; omega)).trans hca)
      clear hca
      have HFY := Lib.hid (fair_yes HOW.out hk HOK.out)
      have HAT2 := Lib.hid (HPW.out.at_ hk).2
      have hca := CWF.out _ bb2
      have HWZ := Lib.hid (show (natW ws)[k]! = ws[k].toNat by omega)
      clear hat
      by_cases hz : ws[k] = 0
      · have hz2 : (ws[k] == 0) = true := by rw [hz]; rfl
        have EV0 := Lib.hid (show (oneQ, true) = (R, r) by rw [← hHR, HFY.out, HWZ.out, hz]; show _ = lowQ x.1 (_ * 0) _; rw [Nat.mul_zero, lowQ_none _ HPW.out.sum.2.1])
        clear hHR hz HWZ
        have hko := ko.lt (w.heap.size + 1) (by simp)
        go_wp2_with fail
        refine (implRatZero_any _).mono ?_
        rintro e w3 ⟨uz, Sz, rfl, oz, lz, b3⟩
        obtain ⟨Az, cz, Bz, dz, rfl⟩ := ownQ_form oz.here
        have bb3 := Below.next bb2 b3
        replace kx := kx.below b3
        replace ko := ko.below b3
        obtain ⟨rfl, rfl⟩ : R = oneQ ∧ r = true := by have h := EV0.out; injection h with h1 h2; exact ⟨h1.symm, h2.symm⟩
        have hlow : ∀ i ∈ Sz, w.heap.size + 1 < i := fun i hi => by have := (lz i hi).1; omega
        have HW := Lib.hid (newQb_chgS (R0 := oneQ) (R1 := true) (v := .agg #[.bool oneQ.1.1, .slice Az oneQ.1.2.length cz, .slice Bz oneQ.2.length dz]) (T := [w.heap.size + 1]) oz (fun i hi hm => by have := hlow i hi; simp at hm; omega) (fun i hi => by simp at hi; omega) (fun i hi => by have := hlow i hi; omega) bb3)
        have cz0 := ko.here.cell 0 _ rfl
        have fz0 := Lib.frozen_of_heap ko.here 0
        have cz1 := ko.here.cell 1 _ rfl
        have fz1 := Lib.frozen_of_heap ko.here 1
        have cz2 := ko.here.cell 2 _ rfl
        have fz2 := Lib.frozen_of_heap ko.here 2
        clear ko oz lz kx hlow
        go_wp2
        refine bodyPost_ret (v := .tuple #[.agg #[.bool oneQ.1.1, .slice Az oneQ.1.2.length cz, .slice Bz oneQ.2.length dz], .bool true]) (by simp [results, Tryz.results87, go_sem, cz0, cz1, cz2]) rfl ?_
        refine HW.out _ ?_
        repeat (first | with_reducible exact Chg.refl _ _ | with_reducible refine Chg.setCell ?_ (by simp) _ | with_reducible refine Chg.drew1 ?_ | with_reducible refine Chg.trans ?_ (Chg.of_below (below_al (Below.refl _ _) _)))
      · have hz2 : (ws[k] == 0) = false := by rw [beq_eq_false_iff_ne]; exact hz
        have EV := Lib.hid (show mulQ (makeQ x (ofZ ws.sum)).1 (makeQ (ofZ ws[k]) (ofZ 1)).1 = (R, r) by rw [← hHR, HFY.out]; have h := fair_mul (x := x) (T := (natW ws).sum) (k := (natW ws)[k]!) HOK.out HPW.out.sum.2.1 HPW.out.sum.2.2 (by rw [HWZ.out]; omega) HAT2.out; rwa [HPW.out.sum.1, show (((natW ws)[k]! : Nat) : Int) = ws[k] by rw [HWZ.out]; omega] at h)
        obtain ⟨⟨Y, y⟩, hHY⟩ : ∃ q, makeQ x (ofZ ws.sum) = q := ⟨_, rfl⟩
        obtain ⟨⟨X, xx⟩, hHX⟩ : ∃ q, makeQ (ofZ ws[k]) (ofZ 1) = q := ⟨_, rfl⟩
        have hsY : szQ Y ≤ 1048576 := by have := makeQ_szQ x (ofZ ws.sum); rw [hHY] at this; exact this
        have hsX : szQ X ≤ 1048576 := by have := makeQ_szQ (ofZ ws[k]) (ofZ 1); rw [hHX] at this; exact this
        have HY := Lib.hid hHY
        have HX := Lib.hid hHX
        rw [hHY, hHX] at EV
        clear hHY hHX hHR HWZ HFY HAT2
        have hs1 : -9223372036854775808 ≤ ws.sum ∧ ws.sum ≤ 9223372036854775807 := by omega
        have hs2 : -9223372036854775808 ≤ ws[k] ∧ ws[k] ≤ 9223372036854775807 := by omega
        have hsum2 := hsum.2.1
        clear hsum
        have hko := ko.lt (w.heap.size + 1) (by simp)
        have kx_c0 := kx.here.cell 0 _ rfl
        have kx_c1 := kx.here.cell 1 _ rfl
        have hca := CWF.out _ bb2
        go_upto_region 5 with fail
        clear kx_c0 kx_c1
        clear hca
        have kx_c0 := kx.here.cell 0 _ rfl
        have kx_c1 := kx.here.cell 1 _ rfl
        go_cut [8, 9] (fun s t wx => NewLocV 63 (fun v => OwnQ v Y) w2 s wx ∧ t = .bool y)
        case first =>
          have HC0 := Lib.hid (show Chg [] w2 w2.drew from (Chg.refl _ _).drew1)
          have HCr := Lib.hid (show Chg [] w2 w2 from Chg.refl _ _)
          have KL := Lib.hid (show ∀ W, Chg [] w2 W → W.cell? ⟨w.heap.size, 0, none⟩ = some (.bool x.1) ∧ W.cell? ⟨w.heap.size, 1, none⟩ = some (.slice Ax x.2.length cx) ∧ Hid (Chg [] w2 W) from fun W hc => ⟨(kx.chg hc (fun i hi hm => by simp at hm)).here.cell 0 _ rfl, (kx.chg hc (fun i hi hm => by simp at hm)).here.cell 1 _ rfl, Lib.hid hc⟩)
          have BBF := Lib.hid (show ∀ W, Chg [] w2 W → Below w.heap.size w W from fun W hc => below_chg bb2 hc bb2.size (fun i hi => by simp at hi))
          clear kx_c0 kx_c1
          go_region_held3 (fun W => W.cell? ⟨w.heap.size, 0, none⟩ = some (.bool x.1) ∧ W.cell? ⟨w.heap.size, 1, none⟩ = some (.slice Ax x.2.length cx) ∧ Hid (Chg [] w2 W))
            ((refine KL.out _ ?_; (first | exact HC5.out | exact HC4.out | exact HC3.out | exact HCr.out | exact HC0.out | exact HC5.out.drew1 | exact HC4.out.drew1 | exact HC3.out.drew1 | exact HCr.out.drew1 | exact HC0.out.drew1 | exact HC5.out.trans (Chg.of_below (below_al (Below.refl _ _) _)) | exact HC4.out.trans (Chg.of_below (below_al (Below.refl _ _) _)) | exact HC3.out.trans (Chg.of_below (below_al (Below.refl _ _) _)) | exact HCr.out.trans (Chg.of_below (below_al (Below.refl _ _) _)) | exact HC0.out.trans (Chg.of_below (below_al (Below.refl _ _) _)) | exact (Chg.setNew HC5.out (by first | exact HC5.out.size | exact HC4.out.size | exact HC3.out.size | exact HCr.out.size | exact HC0.out.size) _) | exact (Chg.setNew (Chg.setNew HC5.out (by first | exact HC5.out.size | exact HC4.out.size | exact HC3.out.size | exact HCr.out.size | exact HC0.out.size) _) (by first | exact HC5.out.size | exact HC4.out.size | exact HC3.out.size | exact HCr.out.size | exact HC0.out.size) _) | exact (Chg.setNew (Chg.setNew (Chg.setNew HC5.out (by first | exact HC5.out.size | exact HC4.out.size | exact HC3.out.size | exact HCr.out.size | exact HC0.out.size) _) (by first | exact HC5.out.size | exact HC4.out.size | exact HC3.out.size | exact HCr.out.size | exact HC0.out.size) _) (by first | exact HC5.out.size | exact HC4.out.size | exact HC3.out.size | exact HCr.out.size | exact HC0.out.size) _) | fail)))
            (first
              | (go_at_call 117; (have hBB := (‹_ ∧ _ ∧ Hid (Chg [] w2 _)›).2.2); (with_reducible refine ((implTotal_any _ ws lo hi _ hl30 HALL.out (HRW.out _ (BBF.out _ hBB.out))).mono fun _ _ h => same_below h).mono ?_); rintro e w3 ⟨rfl, b3⟩; have HC3 := Lib.hid (hBB.out.trans (Chg.of_below b3)); (first | (have early3 : At [w2.heap.size] (BoxAt w2.heap.size #[.bool false, .slice none 0 0, .slice none 0 0] 63) w3 := At.below (box_new w2.drew _ _) b3) | (have early3 := At.below (box_new _ #[.bool false, .slice none 0 0, .slice none 0 0] 63) b3) | (have early3 := At.below early2 b3) | skip); have HBZ3 := Lib.hid hBB.out.size; clear hBB)
              | (go_at_call 63; (have hBB := (‹_ ∧ _ ∧ Hid (Chg [] w2 _)›).2.2); (with_reducible refine ((implIntOf_any ws.sum _ hs1.1 hs1.2).mono fun _ _ h => h.newV).mono ?_); rintro e w4 ⟨u2, S2, rfl, o2, l2, b4⟩; have HC4 := Lib.hid (hBB.out.trans (Chg.of_below b4)); obtain ⟨A2, c2, rfl⟩ := ownS_form o2.here; (first | (have early4 : At [w2.heap.size] (BoxAt w2.heap.size #[.bool false, .slice none 0 0, .slice none 0 0] 63) w4 := At.below (box_new w2.drew _ _) b4) | (have early4 := At.below (box_new _ #[.bool false, .slice none 0 0, .slice none 0 0] 63) b4) | (have early4 := At.below early3 b4) | skip); have HBZ4 := Lib.hid hBB.out.size; clear hBB)
              | (go_at_call 119; (have hBB := (‹_ ∧ _ ∧ Hid (Chg [] w2 _)›).2.2); (with_reducible refine ((implRatMake_any _ _ x (ofZ ws.sum) _ hzx (ofZ_szF _) (OSx.out _ (BBF.out _ hBB.out)) (At.here (by first | exact o2 | exact At.below o2 (below_al (Below.refl _ _) _) | exact At.below (At.below o2 (below_al (Below.refl _ _) _)) (below_al (Below.refl _ _) _) | exact At.move o2 (fun _ _ => rfl) (Nat.le_refl _) | exact At.below (At.move (w' := w2.drew) o2 (fun _ _ => rfl) (Nat.le_refl _)) (below_al (Below.refl _ _) _))) (HS.out.below (BBF.out _ hBB.out))).mono fun _ _ h => postQb_isS HY.out h).mono ?_); rintro e w5 ⟨u8, S8, rfl, o8, l8, b5⟩; have HC5 := Lib.hid (hBB.out.trans (Chg.of_below b5)); (have o2_5 := At.below (by first | exact o2 | exact At.below o2 (below_al (Below.refl _ _) _) | exact At.below (At.below o2 (below_al (Below.refl _ _) _)) (below_al (Below.refl _ _) _) | exact At.move o2 (fun _ _ => rfl) (Nat.le_refl _) | exact At.below (At.move (w' := w2.drew) o2 (fun _ _ => rfl) (Nat.le_refl _)) (below_al (Below.refl _ _) _)) b5); obtain ⟨A8, c8, B8, d8, rfl⟩ := ownQ_form o8.here; (first | have hbxg := At.below_lt (box_new _ #[.bool false, .slice none 0 0, .slice none 0 0] 63) b5 | have hbxg := At.below_lt early4 b5 | skip); (try (have hbxf := hbxg.1; have HGB := Lib.hid hbxg.2; clear hbxg)); (try (have cz0 := hbxf.here.cell 0 _ rfl; have fz0 := Lib.frozen_of_heap hbxf.here 0; have cz1 := hbxf.here.cell 1 _ rfl; have fz1 := Lib.frozen_of_heap hbxf.here 1; have cz2 := hbxf.here.cell 2 _ rfl; have fz2 := Lib.frozen_of_heap hbxf.here 2)); have HBZ5 := Lib.hid hBB.out.size; clear hBB))
          all_goals (go_wp2_with fail; go_meet; first | exact ⟨newLocV_last o8 l8 HBZ5.out (below_of_chg HC5.out), rfl⟩ | exact ⟨newLocV_early3 hbxf.here o8 l8 (by first | exact HC4.out.size | exact HC3.out.size | exact HCr.out.size | exact HC0.out.size) HGB.out (below_of_chg HC5.out), rfl⟩)
        rename World => w6
        obtain ⟨⟨gy, csy, Sy, rfl, ky, oy, ny, ly, b6⟩, rfl⟩ := hcut
        obtain ⟨Ay, cy, By, dy, ey⟩ := ownQ_form oy.here
        injection ey with ey
        subst ey
        have bb6 := Below.next bb2 b6
        replace kx := kx.below b6
        replace ko := ko.below b6
        have hca := CWF.out _ bb6
        go_wp2_with fail
        refine ((implIntOf_any ws[k] _ hs2.1 hs2.2).mono fun _ _ h => h.newV).mono ?_
        rintro e w7 ⟨u3, S3, rfl, o3, l3, b7⟩
        obtain ⟨A3, c3, rfl⟩ := ownS_form o3.here
        clear hca
        have bb7 := Below.next bb6 b7
        replace kx := kx.below b7
        replace ko := ko.below b7
        replace ky := ky.below b7
        replace oy := oy.below b7
        go_wp2_with fail
        refine ((implRatInt_any _ (ofZ ws[k]) _ (ofZ_szF _) o3.here (HS.out.below bb7)).mono fun _ _ h => postQb_isS HX.out h).mono ?_
        rintro e w8 ⟨u4, S4, rfl, o4, l4, b8⟩
        obtain ⟨A4, c4, B4, d4, rfl⟩ := ownQ_form o4.here
        have bb8 := Below.next bb7 b8
        replace kx := kx.below b8
        replace ko := ko.below b8
        replace ky := ky.below b8
        replace oy := oy.below b8
        replace o3 := o3.below b8
        have kv := box_new (w8) #[.bool X.1.1, .slice A4 X.1.2.length c4, .slice B4 X.2.length d4] 63
        have alv := below_al (Below.refl (w8).heap.size (w8)) (.cells #[.bool X.1.1, .slice A4 X.1.2.length c4, .slice B4 X.2.length d4] 63)
        have bbv := Below.next bb8 alv
        replace kx := kx.below alv
        replace ko := ko.below alv
        replace ky := ky.below alv
        replace oy := oy.below alv
        replace o3 := o3.below alv
        replace o4 := o4.below alv
        have hko2 := ko.lt (w.heap.size + 1) (by simp)
        have ky_c0 := ky.here.cell 0 _ rfl
        have ky_c1 := ky.here.cell 1 _ rfl
        have ky_c2 := ky.here.cell 2 _ rfl
        have kv_c0 := kv.here.cell 0 _ rfl
        have kv_c1 := kv.here.cell 1 _ rfl
        have kv_c2 := kv.here.cell 2 _ rfl
        go_wp2_with fail
        clear ky_c0 ky_c1 ky_c2 kv_c0 kv_c1 kv_c2
        refine ((implRatMul_any _ _ Y X _ hsY hsX oy.here o4.here (HS.out.below bbv)).mono fun _ _ h => postQb_isS EV.out h).mono ?_
        rintro e w9 ⟨u5, S5, rfl, o5, l5, b9⟩
        obtain ⟨A5, c5, B5, d5, rfl⟩ := ownQ_form o5.here
        have bb9 := Below.next bbv b9
        replace kx := kx.below b9
        replace ko := ko.below b9
        replace ky := ky.below b9
        replace oy := oy.below b9
        replace o3 := o3.below b9
        replace o4 := o4.below b9
        replace kv := kv.below b9
        have hlow : ∀ i ∈ S5, w.heap.size + 1 < i := fun i hi => by have := (l5 i hi).1; omega
        have HW := Lib.hid (newQb_chgS (R0 := R) (R1 := r) (v := .agg #[.bool R.1.1, .slice A5 R.1.2.length c5, .slice B5 R.2.length d5]) (T := [w.heap.size + 1]) o5 (fun i hi hm => by have := hlow i hi; simp at hm; omega) (fun i hi => by simp at hi; omega) (fun i hi => by have := hlow i hi; omega) bb9)
        have cz0 := ko.here.cell 0 _ rfl
        have fz0 := Lib.frozen_of_heap ko.here 0
        have cz1 := ko.here.cell 1 _ rfl
        have fz1 := Lib.frozen_of_heap ko.here 1
        have cz2 := ko.here.cell 2 _ rfl
        have fz2 := Lib.frozen_of_heap ko.here 2
        clear ko oy o3 o4 o5 l3 l4 l5 ky kv kx hlow
        go_wp2
        refine bodyPost_ret (v := .tuple #[.agg #[.bool R.1.1, .slice A5 R.1.2.length c5, .slice B5 R.2.length d5], .bool r]) (by simp [results, Tryz.results87, go_sem, cz0, cz1, cz2]) rfl ?_
        refine HW.out _ ?_
        repeat (first | with_reducible exact Chg.refl _ _ | with_reducible refine Chg.setCell ?_ (by simp) _ | with_reducible refine Chg.drew1 ?_ | with_reducible refine Chg.trans ?_ (Chg.of_below (below_al (Below.refl _ _) _)))
end Go.Proofs.YtofehcpapdlcnabGreatDoor

namespace Go.Proofs.YtofehcpapdlcnabGreatDoor
open Go.RowKit

def lowI (x : SI) (ws : List Int) (k : Nat) : List SI := (List.range k).map fun i => restS (fairF x ws i) 0
def restK (x : SI) (ws : List Int) (k : Nat) : List QI := (List.range k).map fun i => restQ (fairF x ws i) 0
theorem lowI_succ (x : SI) (ws : List Int) (k : Nat) : lowI x ws (k + 1) = lowI x ws k ++ [restS (fairF x ws k) 0] := by unfold lowI; rw [List.range_succ, List.map_append]; rfl
theorem restK_succ (x : SI) (ws : List Int) (k : Nat) : restK x ws (k + 1) = restK x ws k ++ [restQ (fairF x ws k) 0] := by unfold restK; rw [List.range_succ, List.map_append]; rfl
theorem lowI_len (x : SI) (ws : List Int) (k : Nat) : (lowI x ws k).length = k := by unfold lowI; simp
theorem restK_len (x : SI) (ws : List Int) (k : Nat) : (restK x ws k).length = k := by unfold restK; simp
theorem lowI_parts {x : SI} {ws : List Int} (h : Good x ws) : lowI x ws ws.length = partsK x ws [] := by
  unfold lowI partsK
  apply List.map_congr_left
  intro i hi
  rw [(h.part (List.mem_range.1 hi)).2.1]
  simp
/-- what lowShares answers -/
def LowPost (x : SI) (ws : List Int) (w : World) (e : Ending) (w' : World) : Prop :=
  ∃ u q, e = .returned (.tuple #[u, q, .bool (okSh x ws)]) ∧ (okSh x ws = true → RowS w.heap.size u (partsK x ws []) w' ∧ RowQ w.heap.size q (restK x ws ws.length) w') ∧ Below w.heap.size w w'
theorem lowPost_no {x : SI} {ws : List Int} {w w' : World} (h : okSh x ws = false) (hb : Below w.heap.size w w') : LowPost x ws w (.returned (.tuple #[.slice none 0 0, .slice none 0 0, .bool false])) w' :=
  ⟨.slice none 0 0, .slice none 0 0, by rw [h], fun hh => absurd hh (by rw [h]; decide), hb⟩
theorem rowS_low {B B' : Nat} {u : Value} {l : List SI} {w : World} (hr : RowS B u l w) (hB : B' ≤ B) : RowS B' u l w := by
  obtain ⟨e1, h1, h2, h3, h4⟩ := hr
  exact ⟨e1, own_lowS h1 hB, h2, fun j y p hy hp => ⟨(h3 j y p hy hp).1, own_lowS (h3 j y p hy hp).2 hB⟩, h4⟩
theorem rowQ_low {B B' : Nat} {u : Value} {l : List QI} {w : World} (hr : RowQ B u l w) (hB : B' ≤ B) : RowQ B' u l w := by
  obtain ⟨e1, h1, h2, h3⟩ := hr
  exact ⟨e1, own_lowS h1 hB, h2, h3⟩
/-- the loop of lowShares -/
def LowRel (x : SI) (ws : List Int) (w1 : World) (u q i : Value) (wr : World) : Prop :=
  ∃ k : Nat, k ≤ ws.length ∧ i = .int .i64 k ∧ RowS w1.heap.size u (lowI x ws k) wr ∧ RowQ w1.heap.size q (restK x ws k) wr ∧ (∀ j : Nat, j < k → restB (fairF x ws j) 0 = true) ∧ Below w1.heap.size w1 wr
theorem okSh_rest_no {x : SI} {ws : List Int} {i : Nat} (hi : i < ws.length) (h : restB (fairF x ws i) 0 = false) : okSh x ws = false := by
  cases ho : okSh x ws with
  | false => rfl
  | true =>
    have := (good_of ho).part hi
    rw [h] at this
    cases this.1
theorem rests_szS {x : SI} {ws : List Int} (i : Nat) : (restS (fairF x ws i) 0).2.length ≤ 1048576 := by
  have h := roundR_sz (fairF x ws i) 0
  unfold restS
  split
  · unfold szS szI at h; omega
  · exact Nat.zero_le _
end Go.Proofs.YtofehcpapdlcnabGreatDoor
