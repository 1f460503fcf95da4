/-
  Locals of struct types in their boxes, and the words that every kind of struct answers to: to, eq, sz, mark, held. Kind S: impl.Signed.
-/
import Derived.Test.YtofehcpapdlcnaaSigned
namespace Go.Proofs.Ytofehcpapdlcnaa
open Go.RowKit

/-- a new local of a struct type: its box, and the memory that it leads to -/
def NewLocV (T : TypeId) (φ : Value → World → Prop) (W0 : World) (s : Value) (W : World) : Prop :=
  ∃ (g : Nat) (cs : Array Value) (S : List Nat), s = .pointer (some ⟨g, 0, none⟩) ∧ At [g] (BoxAt g cs T) W ∧ At S (φ (.agg cs)) W ∧ g ∉ S ∧ Within (g :: S) W0.heap.size W.heap.size ∧ Below W0.heap.size W0 W
theorem within_up {S : List Nat} {a b c d : Nat} (h : Within S a b) (ha : c ≤ a) (hb : b ≤ d) : Within S c d := fun g hg => by have := h g hg; omega
theorem newLocV_last {T : TypeId} {φ : Value → World → Prop} {W0 W W1 : World} {cs : Array Value} {S : List Nat} (o : At S (φ (.agg cs)) W) (l : Within S W1.heap.size W.heap.size) (hB : W0.heap.size ≤ W1.heap.size) (hW : Below W0.heap.size W0 W) :
    NewLocV T φ W0 (.pointer (some ⟨W.heap.size, 0, none⟩)) (W.alloc (.cells cs T)) :=
  ⟨W.heap.size, cs, S, rfl, box_new W cs T, o.below (below_al (Below.refl _ _) _), fun h => by have := l _ h; omega, fun i hi => by
    rcases List.mem_cons.1 hi with rfl | hi
    · exact ⟨hW.size, by simp⟩
    · have := l i hi
      simp
      omega, below_al hW _⟩
theorem newLocV_of {T : TypeId} {φ : Value → World → Prop} {W0 W W' : World} {g : Nat} {cs : Array Value} {S : List Nat} {B : Nat} (hb : BoxAt g cs T W') (o : At S (φ (.agg cs)) W) (l : Within S B W.heap.size) (hg : W0.heap.size ≤ g) (hgB : g < B) (hc : Chg [g] W W') (hW : Below W0.heap.size W0 W) :
    NewLocV T φ W0 (.pointer (some ⟨g, 0, none⟩)) W' := by
  have hn : g ∉ S := fun h => by have := l _ h; omega
  have h1 := (Array.getElem?_eq_some_iff.1 hb).1
  have hz := hc.size
  refine ⟨g, cs, S, rfl, box_at hb, o.chg hc (fun i hi hm => by simp at hm; subst hm; exact hn hi), hn, fun i hi => ?_, below_chg hW hc hW.size (fun i hi => by simp at hi; omega)⟩
  rcases List.mem_cons.1 hi with rfl | hi
  · exact ⟨hg, h1⟩
  · have := l i hi
    omega
theorem newLocV_early2 {T : TypeId} {φ : Value → World → Prop} {W0 W W1 : World} {g : Nat} {z0 z1 c0 c1 : Value} {S : List Nat} (hb : BoxAt g #[z0, z1] T W) (o : At S (φ (.agg #[c0, c1])) W) (l : Within S W1.heap.size W.heap.size) (hg : W0.heap.size ≤ g) (hgB : g < W1.heap.size) (hW : Below W0.heap.size W0 W) :
    NewLocV T φ W0 (.pointer (some ⟨g, 0, none⟩)) ((W.setCell ⟨g, 0, none⟩ c0).setCell ⟨g, 1, none⟩ c1) :=
  have hb' : W.heap[g]? = some (.cells #[z0, z1] T (0, 0)) := hb
  newLocV_of (by simp [BoxAt, World.setCell, Array.getElem?_modify, hb']) o l hg hgB (((Chg.refl _ _).setCell (by simp) _).setCell (by simp) _) hW
theorem newLocV_early3 {T : TypeId} {φ : Value → World → Prop} {W0 W W1 : World} {g : Nat} {z0 z1 z2 c0 c1 c2 : Value} {S : List Nat} (hb : BoxAt g #[z0, z1, z2] T W) (o : At S (φ (.agg #[c0, c1, c2])) W) (l : Within S W1.heap.size W.heap.size) (hg : W0.heap.size ≤ g) (hgB : g < W1.heap.size) (hW : Below W0.heap.size W0 W) :
    NewLocV T φ W0 (.pointer (some ⟨g, 0, none⟩)) (((W.setCell ⟨g, 0, none⟩ c0).setCell ⟨g, 1, none⟩ c1).setCell ⟨g, 2, none⟩ c2) :=
  have hb' : W.heap[g]? = some (.cells #[z0, z1, z2] T (0, 0)) := hb
  newLocV_of (by simp [BoxAt, World.setCell, Array.getElem?_modify, hb']) o l hg hgB ((((Chg.refl _ _).setCell (by simp) _).setCell (by simp) _).setCell (by simp) _) hW
theorem At.below_lt {g : Nat} {φ : World → Prop} {w w' : World} (h : At [g] φ w) (hb : Below w.heap.size w w') : At [g] φ w' ∧ g < w.heap.size := ⟨h.below hb, h.lt g (by simp)⟩
theorem below_set3 {W0 W : World} {g : Nat} {a b c : Value} (h : Below W0.heap.size W0 W) (hg : W0.heap.size ≤ g) : Below W0.heap.size W0 (((W.setCell ⟨g, 0, none⟩ a).setCell ⟨g, 1, none⟩ b).setCell ⟨g, 2, none⟩ c) := ((h.setCell (p := ⟨g, 0, none⟩) hg _).setCell (p := ⟨g, 1, none⟩) hg _).setCell (p := ⟨g, 2, none⟩) hg _
theorem At.more {S U : List Nat} {φ : World → Prop} {w : World} (h : At S φ w) (hs : ∀ g ∈ S, g ∈ U) (hl : ∀ g ∈ U, g < w.heap.size) : At U φ w := ⟨h.here, hl, fun w' hk => h.stays w' fun g hg => hk g (hs g hg)⟩
/-- a fact that says what limbs a slice holds leans on their block -/
theorem at_ints_mem {S : List Nat} {φ : World → Prop} {w : World} {u : Value} {xs : List Int} (h : At S φ w) (hi : ∀ w', φ w' → OwnI u xs w') : ∀ g, u.ownBlock = some g → g ∈ S := by
  intro g hg
  rcases Classical.em (g ∈ S) with hin | hout
  · exact hin
  · exfalso
    have hst := hi _ (h.stays { w with heap := w.heap.set! g (.cells #[] 4 (0, 0)) } (fun i hi => by
      have : i ≠ g := fun e => hout (e ▸ hi)
      simp [Ne.symm this]))
    have hlt := (own_lt (hi _ h.here) hg).2
    obtain ⟨_, ⟨rfl, _⟩ | ⟨g', cap, cur, rfl, _, hh, _⟩⟩ := hst
    · cases hg
    · cases hg
      have hlt' : g' < w.heap.size := hlt
      have hh' : (w.heap.setIfInBounds g' (.cells #[] 4 (0, 0)))[g']? = some (.cells cur 3 (0, 0)) := hh
      rw [Array.getElem?_setIfInBounds_self_of_lt hlt'] at hh'
      simp at hh'
theorem toList_own {u : Value} {S : List Nat} (h : ∀ g, u.ownBlock = some g → g ∈ S) : ∀ g ∈ u.ownBlock.toList, g ∈ S := fun g hg => h g (by simpa using hg)

/-! ### kind S: impl.Signed -/
def capS (x : SI) : Prop := x.2.length ≤ 9223372036854775807
theorem szS_nonneg (x : SI) : 0 ≤ szS x := by unfold szS szI; omega
theorem capS_of {x : SI} (h : szS x ≤ 1048576) : capS x := by unfold szS szI at h; unfold capS; omega
theorem ownS_form {v : Value} {x : SI} {w : World} (h : OwnS v x w) : ∃ A c, v = .agg #[.bool x.1, .slice A x.2.length c] := by
  obtain ⟨u, rfl, o⟩ := h
  obtain ⟨A, c, rfl⟩ := own_len o
  exact ⟨A, c, rfl⟩
theorem rdS_form {v : Value} {x : SI} {w : World} (h : RdS w v x) : ∃ A c, v = .agg #[.bool x.1, .slice A x.2.length c] := by
  obtain ⟨u, rfl, o⟩ := h
  obtain ⟨A, c, rfl⟩ := row_form o
  rw [intsV_length]
  exact ⟨A, c, rfl⟩
theorem RdS.below {w W : World} {v : Value} {x : SI} (h : RdS w v x) (hb : Below w.heap.size w W) : RdS W v x := by
  obtain ⟨u, rfl, o⟩ := h
  exact ⟨u, rfl, (o.below hb (Nat.le_refl _)).wide (Nat.le_refl _) hb.size⟩
theorem NewS.newV {x : SI} {w w' : World} {e : Ending} (h : NewS x w e w') : NewV (fun v => OwnS v x) w e w' := by
  obtain ⟨u, rfl, o, b⟩ := h
  exact ⟨_, u.ownBlock.toList, rfl, (own_at' o).imp fun _ h => OwnS.mk h, own_within o, b⟩
theorem toS_new (v : Value) (x : SI) (w : World) (hz : szS x ≤ 1048576) (h : RdS w v x) : Calls Try.prog 13 #[v] w (NewV (fun u => OwnS u x) w) :=
  (toSigned_at v x w (by unfold szS szI at hz; omega) h).mono fun _ _ h => h.newV
theorem eqS_cal (u v : Value) (x y : SI) (w : World) (hz : capS x) (hu : RdS w u x) (hv : RdS w v y) : Calls Try.prog 18 #[u, v] w (Postb (decide (x = y)) w) :=
  eqSigned_at u v x y w hz hu hv
theorem szS_cal (v : Value) (x : SI) (left : Int) (w : World) (hl : capS x) (h0 : 0 ≤ left) (h1 : left ≤ 1048576) (h : RdS w v x) : Calls Try.prog 9 #[v, .int .i64 left] w (Postn (leftI left (szS x)) w) :=
  szSigned_at v x left w hl h0 h1 h

def PostT (R0 : ByteArray) (w : World) (e : Ending) (w' : World) : Prop := e = .returned (.string R0) ∧ Below w.heap.size w w'
end Go.Proofs.Ytofehcpapdlcnaa
