/-
  The words for memory that my walks use: a slice that reads as a list of one-cell values, and how the reading is carried on.
-/
import Derived.Test.YtofehcpapdlcnaaRows
import Derived.WalkKit
import Derived.WalkSpells
import Derived.WalkLawsBesides
import Derived.Deep.QuietTactic
import Derived.BigQuiet
import Derived.Lib.Hide
namespace Go.Proofs.Ytofehcpapdlcnaa
open Go.RowKit

theorem ret_bool {a b : Bool} (h : a = b) : Ending.returned (.bool a) = .returned (.bool b) := by rw [h]
theorem ret_int {k : IntKind} {a b : Int} (h : a = b) : Ending.returned (.int k a) = .returned (.int k b) := by rw [h]
theorem ret_str {a b : ByteArray} (h : a = b) : Ending.returned (.string a) = .returned (.string b) := by rw [h]
theorem ret_two {a b c d : Value} (h : a = c) (k : b = d) : Ending.returned (.tuple #[a, b]) = .returned (.tuple #[c, d]) := by rw [h, k]

/-- the slice value v reads as xs, an element a cell; its cells, if any, lie in a block from lo on and below hi -/
def Row (w : World) (lo hi : Nat) (v : Value) (xs : List Value) : Prop :=
  ∃ A c, v = .slice A xs.length c ∧ ∀ j u, xs[j]? = some u → ∃ a : Addr, A = some a ∧ lo ≤ a.block ∧ a.block < hi ∧ w.cell? (a.add j) = some u

section
variable {w w' : World} {lo hi : Nat} {v : Value} {xs : List Value}

theorem block_add (a : Addr) (n : Nat) : (a.add n).block = a.block := by
  unfold Addr.add
  split <;> rfl

theorem cell_lt {w : World} {p : Addr} {u : Value} (h : w.cell? p = some u) : p.block < w.heap.size := by
  rcases Nat.lt_or_ge p.block w.heap.size with hl | hl
  · exact hl
  · simp [World.cell?, Array.getElem?_eq_none hl] at h
/-- the reading stays where the cells below hi stay -/
theorem Row.stays (h : Row w lo hi v xs) (hk : ∀ p : Addr, p.block < hi → w'.cell? p = w.cell? p) : Row w' lo hi v xs := by
  obtain ⟨A, c, rfl, h⟩ := h
  refine ⟨A, c, rfl, fun j u hj => ?_⟩
  obtain ⟨a, e, h1, h2, h3⟩ := h j u hj
  exact ⟨a, e, h1, h2, (hk _ (by rw [block_add]; exact h2)).trans h3⟩
theorem Row.below {B : Nat} (h : Row w lo hi v xs) (hb : Below B w w') (hB : hi ≤ B) : Row w' lo hi v xs :=
  h.stays fun _ hp => hb.cell (by omega)
theorem Row.drewN (h : Row w lo hi v xs) (n : Nat) : Row (w.drewN n) lo hi v xs := h.stays fun _ _ => rfl
theorem Row.wide {lo' hi' : Nat} (h : Row w lo hi v xs) (h1 : lo' ≤ lo) (h2 : hi ≤ hi') : Row w lo' hi' v xs := by
  obtain ⟨A, c, rfl, h⟩ := h
  refine ⟨A, c, rfl, fun j u hj => ?_⟩
  obtain ⟨a, e, k1, k2, k3⟩ := h j u hj
  exact ⟨a, e, by omega, by omega, k3⟩
theorem Row.nil_ (A : Option Addr) (c : Nat) : Row w lo hi (.slice A 0 c) [] := ⟨A, c, rfl, fun j u hj => absurd hj (by simp)⟩

/-- a row that the call owns reads as its cells -/
theorem Row.of_own {base : Nat} {e : TypeId} {n : Nat} (h : w.ownsRow base e 1 v n xs) : Row w base w.heap.size v xs := by
  obtain ⟨hl, h | ⟨g, cap, cur, rfl, hb, hh, _, _, hcs, ht⟩⟩ := h
  · obtain ⟨rfl, rfl⟩ := h
    obtain rfl : xs = [] := List.eq_nil_of_length_eq_zero (by omega)
    exact Row.nil_ _ _
  · have hln : xs.length = n := by omega
    refine ⟨some ⟨g, 0, none⟩, cap, by rw [hln], fun j u hu => ⟨_, rfl, hb, ?_, ?_⟩⟩
    · exact (Array.getElem?_eq_some_iff.1 hh).1
    · have e1 : (Addr.add ⟨g, 0, none⟩ j) = ⟨g, j, none⟩ := by
        unfold Addr.add
        split
        · simp_all
        · simp
      rw [e1, cell_of_row w g j cur e (0, 0) hh]
      have hj : j < xs.length := (List.getElem?_eq_some_iff.1 hu).1
      have h2 : cur.toList[j]? = some u := by
        rw [← List.getElem?_take_of_lt (show j < n * 1 by omega), ht]
        exact hu
      simpa using h2
end

/-- a row of the call's own stays where its block stays -/
theorem own_stays {w w' : World} {base size n : Nat} {e : TypeId} {v : Value} {xs : List Value} (h : w.ownsRow base e size v n xs) (hk : ∀ g, v.ownBlock = some g → w'.heap[g]? = w.heap[g]?) : w'.ownsRow base e size v n xs := by
  obtain ⟨hl, h | ⟨g, cap, cur, rfl, hb, hh, r⟩⟩ := h
  · exact ⟨hl, .inl h⟩
  · exact ⟨hl, .inr ⟨g, cap, cur, rfl, hb, (hk g rfl).trans hh, r⟩⟩
theorem own_lt {w : World} {base size n g : Nat} {e : TypeId} {v : Value} {xs : List Value} (h : w.ownsRow base e size v n xs) (hg : v.ownBlock = some g) : base ≤ g ∧ g < w.heap.size := by
  obtain ⟨_, ⟨rfl, _⟩ | ⟨g', cap, cur, rfl, hb, hh, _⟩⟩ := h
  · cases hg
  · cases hg
    exact ⟨hb, (Array.getElem?_eq_some_iff.1 hh).1⟩
theorem own_form {w : World} {base size n : Nat} {e : TypeId} {v : Value} {xs : List Value} (h : w.ownsRow base e size v n xs) (hn : 0 < n) : ∃ g cap, v = .slice (some ⟨g, 0, none⟩) n cap ∧ base ≤ g ∧ g < w.heap.size ∧ n ≤ cap := by
  obtain ⟨_, ⟨_, h0⟩ | ⟨g, cap, cur, e1, hb, hh, hc, _⟩⟩ := h
  · omega
  · exact ⟨g, cap, e1, hb, (Array.getElem?_eq_some_iff.1 hh).1, hc⟩
theorem own_below {w w' : World} {base size n : Nat} {e : TypeId} {v : Value} {xs : List Value} (h : w.ownsRow base e size v n xs) (hb : Below w.heap.size w w') : w'.ownsRow base e size v n xs :=
  own_stays h fun g hg => hb.block g (own_lt h hg).2
theorem own_alloc {w : World} {base size n : Nat} {e : TypeId} {v : Value} {xs : List Value} (h : w.ownsRow base e size v n xs) (o : Obj) : (w.alloc o).ownsRow base e size v n xs :=
  own_below h ((Below.refl _ _).alloc (Nat.le_refl _) o)
theorem grown_below {a b c : World} {row : Option Nat} (h : a.grownBy b row) (k : Below b.heap.size b c) : a.grownBy c row :=
  ⟨k.os.trans h.os, k.tape.trans h.tape, k.output.trans h.output, Nat.le_trans h.size k.size, fun i hi hne => (k.block i (Nat.lt_of_lt_of_le hi h.size)).trans (h.block i hi hne)⟩
theorem grown_trans {a b c : World} {row : Option Nat} (h : a.grownBy b row) (k : b.grownBy c row) : a.grownBy c row :=
  ⟨k.os.trans h.os, k.tape.trans h.tape, k.output.trans h.output, Nat.le_trans h.size k.size, fun i hi hne => (k.block i (Nat.lt_of_lt_of_le hi h.size) hne).trans (h.block i hi hne)⟩
theorem below_drewN {B : Nat} {a w : World} (h : Below B a w) (n : Nat) : Below B a (w.drewN n) := ⟨h.os, h.tape, h.output, h.size, h.block⟩

/-- behind an append of something new onto a row of the call's own, old memory is as it was -/
theorem below_push {w wr w' : World} {B size n : Nat} {e : TypeId} {v : Value} {xs : List Value} {o : Obj} (hb : Below B w wr) (hB : B ≤ w.heap.size) (hown : wr.ownsRow B e size v n xs) (hg : (wr.alloc o).grownBy w' v.ownBlock) : Below B w w' := by
  have hs := hb.size
  exact (hb.alloc (by omega) o).grown hg (by simp; omega) (fun k hk => (own_lt hown hk).1)
theorem one_new (w : World) (x : Value) (t : TypeId) : ∀ (j : Nat) (u : Value), [x][j]? = some u → (w.alloc (.cells #[x] t)).cell? (Addr.add ⟨w.heap.size, 0, none⟩ j) = some u := by
  intro j u h
  cases j with
  | zero =>
    have : (Addr.add ⟨w.heap.size, 0, none⟩ 0) = ⟨w.heap.size, 0, none⟩ := rfl
    rw [this, World.cell?_alloc_at _ _ _ _ rfl]
    simpa using h
  | succ j => simp at h

/-- two new cells read as a slice of two -/
theorem Row.lit2 (w : World) (x y : Value) (t : TypeId) : Row (w.alloc (.cells #[x, y] t)) w.heap.size (w.heap.size + 1) (.slice (some ⟨w.heap.size, 0, none⟩) 2 2) [x, y] := by
  refine ⟨_, _, rfl, fun j u hu => ⟨_, rfl, Nat.le_refl _, Nat.lt_succ_self _, ?_⟩⟩
  match j, hu with
  | 0, hu =>
    show (w.alloc (.cells #[x, y] t)).cell? ⟨w.heap.size, 0, none⟩ = some u
    rw [World.cell?_alloc_at _ _ _ _ rfl]
    simpa using hu
  | 1, hu =>
    show (w.alloc (.cells #[x, y] t)).cell? ⟨w.heap.size, 1, none⟩ = some u
    rw [World.cell?_alloc_at _ _ _ _ rfl]
    simpa using hu
  | j + 2, hu => simp at hu

/-- the two rules that a walk uses behind a call that leaves old memory alone -/
theorem below_rules {W w1 : World} (hb : Below W.heap.size W w1) : (∀ b o, b < W.heap.size → w1.cell? ⟨b, o, none⟩ = W.cell? ⟨b, o, none⟩) ∧ (∀ b o, b < W.heap.size → w1.frozen? ⟨b, o, none⟩ = W.frozen? ⟨b, o, none⟩) :=
  ⟨fun b o h => hb.cell (p := ⟨b, o, none⟩) h, fun b o h => hb.frozen (p := ⟨b, o, none⟩) h⟩
theorem Below.next {a b c : World} (h : Below a.heap.size a b) (k : Below b.heap.size b c) : Below a.heap.size a c := h.trans (k.mono h.size)

theorem own_apart {w w' : World} {base size n : Nat} {e : TypeId} {v : Value} {xs : List Value} {row : Option Nat} (h : w.ownsRow base e size v n xs) (hg : w.grownBy w' row) (hne : ∀ g k, v.ownBlock = some g → row = some k → g ≠ k) : w'.ownsRow base e size v n xs :=
  own_stays h fun g hv => hg.block g (own_lt h hv).2 (fun e => hne g g hv e.symm rfl)
theorem own_drew {w : World} {base size n : Nat} {e : TypeId} {v : Value} {xs : List Value} (h : w.ownsRow base e size v n xs) (q : Nat) : (w.drewN q).ownsRow base e size v n xs := h
theorem decide_refl {α : Type} [DecidableEq α] (x : α) : decide (x = x) = true := decide_eq_true rfl
/-- where a row of the call's own lies -/
def Lies (v : Value) (lo hi : Nat) : Prop := ∀ g, v.ownBlock = some g → lo ≤ g ∧ g < hi
theorem Lies.of {w : World} {base size n : Nat} {e : TypeId} {v : Value} {xs : List Value} (h : w.ownsRow base e size v n xs) : Lies v base w.heap.size := fun _ hg => own_lt h hg
theorem Lies.apart {u v : Value} {a b c d : Nat} (h : Lies u a b) (k : Lies v c d) (hd : b ≤ c ∨ d ≤ a) : ∀ x y, u.ownBlock = some x → v.ownBlock = some y → x ≠ y := by
  intro x y hx hy
  have := h x hx
  have := k y hy
  omega
theorem own_len {w : World} {base n : Nat} {e : TypeId} {v : Value} {xs : List Value} (h : w.ownsRow base e 1 v n xs) : ∃ A c, v = .slice A n c := by
  rcases h.2 with ⟨rfl, rfl⟩ | ⟨g, cap, cur, rfl, _⟩
  · exact ⟨_, _, rfl⟩
  · exact ⟨_, _, rfl⟩
end Go.Proofs.Ytofehcpapdlcnaa
