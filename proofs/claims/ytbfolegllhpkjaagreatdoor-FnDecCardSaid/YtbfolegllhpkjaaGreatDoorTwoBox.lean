/-
  Two new locals of one struct type of three cells that one statement makes: their boxes and the values that go into them, in whatever order the boxes are laid among the calls.
-/
import Derived.Test.YtbfolegllhpkjaaGreatDoorFnDecBaseJ
namespace Go.Proofs.YtbfolegllhpkjaaGreatDoor
open Go.RowKit

section
variable {z0 z1 z2 : Value} {T : TypeId} {ns : List Nat} {W0 W W' : World} {φ ψ : World → Prop}
/-- boxes that hold zero still, apart from each other, all new -/
def Bx (z0 z1 z2 : Value) (T : TypeId) (ns : List Nat) (W0 W : World) : Prop :=
  ns.Nodup ∧ (∀ n ∈ ns, W0.heap.size ≤ n ∧ At [n] (BoxAt n #[z0, z1, z2] T) W) ∧ Below W0.heap.size W0 W
/-- a value that leans on none of these boxes -/
def OwA (ns : List Nat) (φ : World → Prop) (W : World) : Prop := ∃ S, At S φ W ∧ ∀ n ∈ ns, n ∉ S
theorem Bx.lt (h : Bx z0 z1 z2 T ns W0 W) : ∀ n ∈ ns, n < W.heap.size := fun n hn => (h.2.1 n hn).2.lt n (by simp)
theorem Bx.nil_ (h : Below W0.heap.size W0 W) : Bx z0 z1 z2 T [] W0 W := ⟨List.nodup_nil, fun _ hn => absurd hn List.not_mem_nil, h⟩
theorem Bx.alloc_ (h : Bx z0 z1 z2 T ns W0 W) : Bx z0 z1 z2 T (W.heap.size :: ns) W0 (W.alloc (.cells #[z0, z1, z2] T)) :=
  ⟨List.nodup_cons.2 ⟨fun hm => absurd (h.lt _ hm) (Nat.lt_irrefl _), h.1⟩, fun n hn => by
    rcases List.mem_cons.1 hn with rfl | hn
    · exact ⟨h.2.2.size, box_new _ _ _⟩
    · exact ⟨(h.2.1 n hn).1, (h.2.1 n hn).2.below (below_al (Below.refl _ _) _)⟩, below_al h.2.2 _⟩
theorem Bx.alloc2 (h : Bx z0 z1 z2 T ns W0 W) : Bx z0 z1 z2 T ((W.heap.size + 1) :: W.heap.size :: ns) W0 ((W.alloc (.cells #[z0, z1, z2] T)).alloc (.cells #[z0, z1, z2] T)) := by
  have k := h.alloc_.alloc_
  rwa [show (W.alloc (.cells #[z0, z1, z2] T)).heap.size = W.heap.size + 1 by simp] at k
theorem Bx.allocD (h : Bx z0 z1 z2 T ns W0 W.drew) : Bx z0 z1 z2 T (W.heap.size :: ns) W0 (W.drew.alloc (.cells #[z0, z1, z2] T)) := h.alloc_
theorem Bx.allocD2 (h : Bx z0 z1 z2 T ns W0 W.drew) : Bx z0 z1 z2 T ((W.heap.size + 1) :: W.heap.size :: ns) W0 ((W.drew.alloc (.cells #[z0, z1, z2] T)).alloc (.cells #[z0, z1, z2] T)) := h.alloc2
theorem Bx.call (h : Bx z0 z1 z2 T ns W0 W) (b : Below W.heap.size W W') : Bx z0 z1 z2 T ns W0 W' := ⟨h.1, fun n hn => ⟨(h.2.1 n hn).1, (h.2.1 n hn).2.below b⟩, Below.next h.2.2 b⟩
/-- a box stays while another is laid, whatever it holds -/
theorem Bx.old (h : Bx z0 z1 z2 T ns W0 W) : ∀ n ∈ ns, ((∀ cs, (W.alloc (.cells cs T)).cell? ⟨n, 0, none⟩ = some z0) ∧ (∀ cs, (W.alloc (.cells cs T)).cell? ⟨n, 1, none⟩ = some z1) ∧ (∀ cs, (W.alloc (.cells cs T)).cell? ⟨n, 2, none⟩ = some z2)) ∧
    (∀ cs, (W.alloc (.cells cs T)).frozen? ⟨n, 0, none⟩ = false) ∧ (∀ cs, (W.alloc (.cells cs T)).frozen? ⟨n, 1, none⟩ = false) ∧ (∀ cs, (W.alloc (.cells cs T)).frozen? ⟨n, 2, none⟩ = false) := fun n hn => by
  have k := fun cs => ((h.2.1 n hn).2.below (below_al (Below.refl _ _) (.cells cs T))).here
  exact ⟨⟨fun cs => (k cs).cell 0 _ rfl, fun cs => (k cs).cell 1 _ rfl, fun cs => (k cs).cell 2 _ rfl⟩, fun cs => Lib.frozen_of_heap (k cs) 0, fun cs => Lib.frozen_of_heap (k cs) 1, fun cs => Lib.frozen_of_heap (k cs) 2⟩
theorem OwA.alloc_ (h : OwA ns φ W) {o : Obj} : OwA (W.heap.size :: ns) φ (W.alloc o) := by
  obtain ⟨S, k, hn⟩ := h
  exact ⟨S, k.below (below_al (Below.refl _ _) _), fun n hm hs => by
    rcases List.mem_cons.1 hm with rfl | hm
    · exact absurd (k.lt _ hs) (Nat.lt_irrefl _)
    · exact hn n hm hs⟩
theorem OwA.alloc2 (h : OwA ns φ W) {o p : Obj} : OwA ((W.heap.size + 1) :: W.heap.size :: ns) φ ((W.alloc o).alloc p) := by
  have k := h.alloc_ (o := o) |>.alloc_ (o := p)
  rwa [show (W.alloc o).heap.size = W.heap.size + 1 by simp] at k
theorem OwA.call (h : OwA ns φ W) (b : Below W.heap.size W W') : OwA ns φ W' := let ⟨S, k, hn⟩ := h; ⟨S, k.below b, hn⟩
theorem OwA.new {S : List Nat} (o : At S φ W') (l : Within S W.heap.size W'.heap.size) (h : Bx z0 z1 z2 T ns W0 W) : OwA ns φ W' :=
  ⟨S, o, fun n hn hs => by have := h.lt n hn; have := l n hs; omega⟩

/-- both boxes and both values are at hand -/
def TwoReady (z0 z1 z2 : Value) (T : TypeId) (W0 W : World) (n m : Nat) (φ ψ : World → Prop) : Prop :=
  Bx z0 z1 z2 T [n, m] W0 W ∧ OwA [n, m] φ W ∧ OwA [n, m] ψ W
theorem TwoReady.fin2 {n m : Nat} (h : Bx z0 z1 z2 T [n, m] W0 W) (p : OwA [n, m] φ W) (q : OwA [n, m] ψ W) : TwoReady z0 z1 z2 T W0 W n m φ ψ := ⟨h, p, q⟩
theorem TwoReady.fin1 {m : Nat} (h : Bx z0 z1 z2 T [m] W0 W) (p : OwA [m] φ W) (q : OwA [m] ψ W) : TwoReady z0 z1 z2 T W0 (W.alloc (.cells #[z0, z1, z2] T)) W.heap.size m φ ψ := ⟨h.alloc_, p.alloc_, q.alloc_⟩
theorem TwoReady.fin0 (h : Bx z0 z1 z2 T [] W0 W) (p : OwA [] φ W) (q : OwA [] ψ W) :
    TwoReady z0 z1 z2 T W0 ((W.alloc (.cells #[z0, z1, z2] T)).alloc (.cells #[z0, z1, z2] T)) (W.heap.size + 1) W.heap.size φ ψ := ⟨h.alloc2, p.alloc2, q.alloc2⟩
theorem TwoReady.symm {n m : Nat} (h : TwoReady z0 z1 z2 T W0 W n m φ ψ) : TwoReady z0 z1 z2 T W0 W m n φ ψ := by
  obtain ⟨⟨h1, h2, h3⟩, ⟨S, k, hk⟩, ⟨U, l, hl⟩⟩ := h
  refine ⟨⟨?_, fun x hx => h2 x (by simp at hx ⊢; omega), h3⟩, ⟨S, k, fun x hx => hk x (by simp at hx ⊢; omega)⟩, ⟨U, l, fun x hx => hl x (by simp at hx ⊢; omega)⟩⟩
  simp at h1 ⊢
  omega
/-- what the walk reads of them -/
theorem TwoReady.cells {n m : Nat} (h : TwoReady z0 z1 z2 T W0 W n m φ ψ) :
    (W.cell? ⟨n, 0, none⟩ = some z0 ∧ W.cell? ⟨n, 1, none⟩ = some z1 ∧ W.cell? ⟨n, 2, none⟩ = some z2 ∧ W.cell? ⟨m, 0, none⟩ = some z0 ∧ W.cell? ⟨m, 1, none⟩ = some z1 ∧ W.cell? ⟨m, 2, none⟩ = some z2) ∧
    (W.frozen? ⟨n, 0, none⟩ = false ∧ W.frozen? ⟨n, 1, none⟩ = false ∧ W.frozen? ⟨n, 2, none⟩ = false ∧ W.frozen? ⟨m, 0, none⟩ = false ∧ W.frozen? ⟨m, 1, none⟩ = false ∧ W.frozen? ⟨m, 2, none⟩ = false) ∧ ¬ n = m ∧ ¬ m = n := by
  have hn := (h.1.2.1 n (by simp)).2.here
  have hm := (h.1.2.1 m (by simp)).2.here
  have hd := h.1.1
  simp at hd
  exact ⟨⟨hn.cell 0 _ rfl, hn.cell 1 _ rfl, hn.cell 2 _ rfl, hm.cell 0 _ rfl, hm.cell 1 _ rfl, hm.cell 2 _ rfl⟩,
    ⟨Lib.frozen_of_heap hn 0, Lib.frozen_of_heap hn 1, Lib.frozen_of_heap hn 2, Lib.frozen_of_heap hm 0, Lib.frozen_of_heap hm 1, Lib.frozen_of_heap hm 2⟩, hd, fun e => hd e.symm⟩
end

/-- two locals in boxes of their own -/
def TwoLocV (T : TypeId) (φ ψ : Value → World → Prop) (W0 : World) (s1 s2 : Value) (W : World) : Prop :=
  ∃ (ga gb : Nat) (ca cb : Array Value) (Sa Sb : List Nat), s1 = .pointer (some ⟨ga, 0, none⟩) ∧ s2 = .pointer (some ⟨gb, 0, none⟩) ∧ At [ga] (BoxAt ga ca T) W ∧ At [gb] (BoxAt gb cb T) W ∧ At Sa (φ (.agg ca)) W ∧ At Sb (ψ (.agg cb)) W ∧ Below W0.heap.size W0 W
theorem set3_sameT {b : Nat} {x0 x1 x2 c0 c1 c2 : Value} {T : TypeId} {W : World} (hb : BoxAt b #[x0, x1, x2] T W) : BoxAt b #[c0, c1, c2] T (((W.setCell ⟨b, 0, none⟩ c0).setCell ⟨b, 1, none⟩ c1).setCell ⟨b, 2, none⟩ c2) := by
  have hb' : W.heap[b]? = some (.cells #[x0, x1, x2] T (0, 0)) := hb
  simp [BoxAt, World.setCell, Array.getElem?_modify, hb']
theorem set3_chgT (b : Nat) (c0 c1 c2 : Value) (W : World) : Chg [b] W (((W.setCell ⟨b, 0, none⟩ c0).setCell ⟨b, 1, none⟩ c1).setCell ⟨b, 2, none⟩ c2) := (((Chg.refl _ _).setCell (by simp) _).setCell (by simp) _).setCell (by simp) _
theorem two_laid {z0 z1 z2 a0 a1 a2 b0 b1 b2 : Value} {T : TypeId} {φ ψ : Value → World → Prop} {W0 W : World} {n m : Nat} (h : TwoReady z0 z1 z2 T W0 W n m (φ (.agg #[a0, a1, a2])) (ψ (.agg #[b0, b1, b2]))) :
    TwoLocV T φ ψ W0 (.pointer (some ⟨n, 0, none⟩)) (.pointer (some ⟨m, 0, none⟩)) ((((((W.setCell ⟨n, 0, none⟩ a0).setCell ⟨n, 1, none⟩ a1).setCell ⟨n, 2, none⟩ a2).setCell ⟨m, 0, none⟩ b0).setCell ⟨m, 1, none⟩ b1).setCell ⟨m, 2, none⟩ b2) := by
  obtain ⟨⟨hd, hb, hB⟩, ⟨Sa, oa, na⟩, ⟨Sb, ob, nb⟩⟩ := h
  simp at hd
  obtain ⟨ln, kn⟩ := hb n (by simp)
  obtain ⟨lm, km⟩ := hb m (by simp)
  have ds : ∀ {S : List Nat} {x : Nat}, x ∉ S → ∀ i ∈ S, i ∉ [x] := fun hx i hi hm => by simp at hm; subst hm; exact hx hi
  have h1 := set3_chgT n a0 a1 a2 W
  have e1 := box_at (set3_sameT (c0 := a0) (c1 := a1) (c2 := a2) kn.here)
  have k1 := km.chg h1 (fun i hi hm => by simp at hi hm; omega)
  have oa1 := oa.chg h1 (ds (na n (by simp)))
  have ob1 := ob.chg h1 (ds (nb n (by simp)))
  have hB1 := below_chg hB h1 hB.size (fun i hi => by simp at hi; omega)
  generalize (((W.setCell ⟨n, 0, none⟩ a0).setCell ⟨n, 1, none⟩ a1).setCell ⟨n, 2, none⟩ a2) = X at *
  have h2 := set3_chgT m b0 b1 b2 X
  have e2 := box_at (set3_sameT (c0 := b0) (c1 := b1) (c2 := b2) k1.here)
  exact ⟨n, m, _, _, Sa, Sb, rfl, rfl, e1.chg h2 (fun i hi hm => by simp at hi hm; omega), e2, oa1.chg h2 (ds (na m (by simp))), ob1.chg h2 (ds (nb m (by simp))), below_chg hB1 h2 hB1.size (fun i hi => by simp at hi; omega)⟩
theorem two_laid0 {z0 z1 z2 : Value} {ca cb : Array Value} {T : TypeId} {φ ψ : Value → World → Prop} {W0 W : World} (h : Bx z0 z1 z2 T [] W0 W) (p : OwA [] (φ (.agg ca)) W) (q : OwA [] (ψ (.agg cb)) W) :
    TwoLocV T φ ψ W0 (.pointer (some ⟨W.heap.size, 0, none⟩)) (.pointer (some ⟨W.heap.size + 1, 0, none⟩)) ((W.alloc (.cells ca T)).alloc (.cells cb T)) := by
  obtain ⟨Sa, oa, _⟩ := p
  obtain ⟨Sb, ob, _⟩ := q
  have k1 := (box_new W ca T).below (below_al (Below.refl _ _) (.cells cb T))
  have k2 := box_new (W.alloc (.cells ca T)) cb T
  rw [show (W.alloc (.cells ca T)).heap.size = W.heap.size + 1 by simp] at k2
  have b1 := below_al (Below.refl W.heap.size W) (.cells ca T)
  have b2 := below_al (Below.refl (W.alloc (.cells ca T)).heap.size (W.alloc (.cells ca T))) (.cells cb T)
  exact ⟨_, _, ca, cb, Sa, Sb, rfl, rfl, k1, k2, (oa.below b1).below b2, (ob.below b1).below b2, Below.next (Below.next h.2.2 b1) b2⟩
theorem TwoLocV.swap {T : TypeId} {φ ψ : Value → World → Prop} {W0 W : World} {s1 s2 : Value} (h : TwoLocV T φ ψ W0 s1 s2 W) : TwoLocV T ψ φ W0 s2 s1 W := by
  obtain ⟨a, b, ca, cb, Sa, Sb, h1, h2, h3, h4, h5, h6, h7⟩ := h
  exact ⟨b, a, cb, ca, Sb, Sa, h2, h1, h4, h3, h6, h5, h7⟩
theorem two_laid1 {z0 z1 z2 b0 b1 b2 : Value} {ca : Array Value} {T : TypeId} {φ ψ : Value → World → Prop} {W0 W : World} {m : Nat} (h : Bx z0 z1 z2 T [m] W0 W) (p : OwA [m] (φ (.agg ca)) W) (q : OwA [m] (ψ (.agg #[b0, b1, b2])) W) :
    TwoLocV T φ ψ W0 (.pointer (some ⟨W.heap.size, 0, none⟩)) (.pointer (some ⟨m, 0, none⟩)) ((((W.alloc (.cells ca T)).setCell ⟨m, 0, none⟩ b0).setCell ⟨m, 1, none⟩ b1).setCell ⟨m, 2, none⟩ b2) := by
  obtain ⟨Sa, oa, na⟩ := p
  obtain ⟨Sb, ob, nb⟩ := q
  have hl := h.lt m (by simp)
  obtain ⟨lm, km⟩ := h.2.1 m (by simp)
  have ds : ∀ {S : List Nat} {x : Nat}, x ∉ S → ∀ i ∈ S, i ∉ [x] := fun hx i hi hm => by simp at hm; subst hm; exact hx hi
  have a1 := below_al (Below.refl W.heap.size W) (.cells ca T)
  have h2 := set3_chgT m b0 b1 b2 (W.alloc (.cells ca T))
  have e2 := box_at (set3_sameT (c0 := b0) (c1 := b1) (c2 := b2) (km.below a1).here)
  exact ⟨_, _, ca, _, Sa, Sb, rfl, rfl, (box_new W ca T).chg h2 (fun i hi hm => by simp at hi hm; omega), e2, (oa.below a1).chg h2 (ds (na m (by simp))), (ob.below a1).chg h2 (ds (nb m (by simp))), below_chg (Below.next h.2.2 a1) h2 (Below.next h.2.2 a1).size (fun i hi => by simp at hi; omega)⟩
end Go.Proofs.YtbfolegllhpkjaaGreatDoor
