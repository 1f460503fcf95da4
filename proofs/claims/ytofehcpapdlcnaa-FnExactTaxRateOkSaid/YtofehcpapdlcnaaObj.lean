/-
  Values of the call's own with the blocks that they lean on, and how they are carried through calls: the words in which the exact laws are walked.
-/
import Derived.Test.YtofehcpapdlcnaaIntS
namespace Go.Proofs.Ytofehcpapdlcnaa
open Go.RowKit

/-- a fact of a world that leans on the blocks S alone -/
structure At (S : List Nat) (φ : World → Prop) (w : World) : Prop where
  here : φ w
  lt : ∀ g ∈ S, g < w.heap.size
  stays : ∀ w' : World, (∀ g ∈ S, w'.heap[g]? = w.heap[g]?) → φ w'

section
variable {S T : List Nat} {φ : World → Prop} {w w' w1 w2 : World} {B : Nat}
theorem At.move (h : At S φ w) (hk : ∀ g ∈ S, w'.heap[g]? = w.heap[g]?) (hz : w.heap.size ≤ w'.heap.size) : At S φ w' :=
  ⟨h.stays w' hk, fun g hg => Nat.lt_of_lt_of_le (h.lt g hg) hz, fun w'' hk' => h.stays w'' fun g hg => (hk' g hg).trans (hk g hg)⟩
theorem At.below (h : At S φ w) (hb : Below w.heap.size w w') : At S φ w' := h.move (fun g hg => hb.block g (h.lt g hg)) hb.size
theorem At.drewN (h : At S φ w) (q : Nat) : At S φ (w.drewN q) := h.move (fun _ _ => rfl) (Nat.le_refl _)
theorem At.imp {ψ : World → Prop} (h : At S φ w) (hi : ∀ w', φ w' → ψ w') : At S ψ w := ⟨hi _ h.here, h.lt, fun w' hk => hi _ (h.stays w' hk)⟩

/-- only blocks of T, and new ones, are other than they were -/
structure Chg (T : List Nat) (w w' : World) : Prop where
  os : w'.os = w.os
  tape : w'.tape = w.tape
  output : w'.output = w.output
  size : w.heap.size ≤ w'.heap.size
  block : ∀ i, i < w.heap.size → i ∉ T → w'.heap[i]? = w.heap[i]?
theorem Chg.of_grown {v : Value} (h : w.grownBy w' v.ownBlock) : Chg v.ownBlock.toList w w' :=
  ⟨h.os, h.tape, h.output, h.size, fun i hi hn => h.block i hi (fun e => hn (by rw [← e]; simp))⟩
theorem Chg.refl (T : List Nat) (w : World) : Chg T w w := ⟨rfl, rfl, rfl, Nat.le_refl _, fun _ _ _ => rfl⟩
theorem Chg.trans (h : Chg T w w1) (k : Chg T w1 w2) : Chg T w w2 :=
  ⟨k.os.trans h.os, k.tape.trans h.tape, k.output.trans h.output, Nat.le_trans h.size k.size, fun i hi hn => (k.block i (Nat.lt_of_lt_of_le hi h.size) hn).trans (h.block i hi hn)⟩
theorem Chg.of_below (h : Below w.heap.size w w') : Chg T w w' := ⟨h.os, h.tape, h.output, h.size, fun i hi _ => h.block i hi⟩
theorem Chg.more {U : List Nat} (h : Chg T w w') (hs : ∀ g ∈ T, g ∈ U) : Chg U w w' := ⟨h.os, h.tape, h.output, h.size, fun i hi hn => h.block i hi (fun hm => hn (hs i hm))⟩
theorem At.chg (h : At S φ w) (c : Chg T w w') (hd : ∀ g ∈ S, g ∉ T) : At S φ w' := h.move (fun g hg => c.block g (h.lt g hg) (hd g hg)) c.size
theorem below_chg (hb : Below B w w1) (c : Chg T w1 w2) (hB : B ≤ w1.heap.size) (hT : ∀ g ∈ T, B ≤ g) : Below B w w2 :=
  ⟨c.os.trans hb.os, c.tape.trans hb.tape, c.output.trans hb.output, Nat.le_trans hb.size c.size,
    fun i hi => (c.block i (Nat.lt_of_lt_of_le hi hB) (fun hm => by have := hT i hm; omega)).trans (hb.block i hi)⟩

theorem Chg.setCell (h : Chg T w w1) {p : Addr} (hp : p.block ∈ T) (u : Value) : Chg T w (w1.setCell p u) :=
  ⟨h.os, h.tape, h.output, by simpa [World.setCell] using h.size, fun i hi hn => (Below.heap_setCell _ _ _ _ (fun e => hn (by rw [e]; exact hp))).trans (h.block i hi hn)⟩

/-- where blocks lie -/
def Within (S : List Nat) (lo hi : Nat) : Prop := ∀ g ∈ S, lo ≤ g ∧ g < hi
theorem Within.apart {a b c d : Nat} (h : Within S a b) (k : Within T c d) (hd : b ≤ c ∨ d ≤ a) : ∀ g ∈ S, g ∉ T := by
  intro g hg hm
  have h1 := h g hg
  have h2 := k g hm
  omega
theorem Within.from {a b B : Nat} (h : Within S a b) (hB : B ≤ a) : ∀ g ∈ S, B ≤ g := fun g hg => Nat.le_trans hB (h g hg).1
theorem apart_symm (h : ∀ g ∈ S, g ∉ T) : ∀ g ∈ T, g ∉ S := fun g hg hm => h g hm hg
end

/-! ### slices of ints -/
def OwnI (v : Value) (xs : List Int) (w : World) : Prop := w.ownsRow 0 3 1 v xs.length (intsV xs)
def MarkI (v : Value) (xs : List Int) (m : Int) (w : World) : Prop := w.ownsRow 0 3 1 v xs.length (marksI m xs.length)
def szI (xs : List Int) : Int := xs.length
theorem own_zero {w : World} {base n : Nat} {e : TypeId} {v : Value} {xs : List Value} (h : w.ownsRow base e 1 v n xs) : w.ownsRow 0 e 1 v n xs := by
  obtain ⟨hl, h | ⟨g, cap, cur, rfl, hg, r⟩⟩ := h
  · exact ⟨hl, .inl h⟩
  · exact ⟨hl, .inr ⟨g, cap, cur, rfl, Nat.zero_le _, r⟩⟩
theorem own_at {w : World} {base n : Nat} {e : TypeId} {v : Value} {xs : List Value} (h : w.ownsRow base e 1 v n xs) : At v.ownBlock.toList (fun w => w.ownsRow 0 e 1 v n xs) w :=
  ⟨own_zero h, fun g hg => (own_lt h (by simpa using hg)).2, fun w' hk => own_stays (own_zero h) fun g hg => hk g (by rw [hg]; simp)⟩
theorem own_within {w : World} {base n : Nat} {e : TypeId} {v : Value} {xs : List Value} (h : w.ownsRow base e 1 v n xs) : Within v.ownBlock.toList base w.heap.size := fun g hg => own_lt h (by simpa using hg)
theorem OwnI.row {v : Value} {xs : List Int} {w : World} (h : OwnI v xs w) : Row w 0 w.heap.size v (intsV xs) := Row.of_own h

/-- a new value: its blocks, all new -/
def NewV (φ : Value → World → Prop) (w : World) (e : Ending) (w' : World) : Prop := ∃ v S, e = .returned v ∧ At S (φ v) w' ∧ Within S w.heap.size w'.heap.size ∧ Below w.heap.size w w'
/-- two new values apart from each other -/
def NewV2 (φ ψ : Value → World → Prop) (w : World) (e : Ending) (w' : World) : Prop :=
  ∃ u S v T, e = .returned (.tuple #[u, v]) ∧ At S (φ u) w' ∧ At T (ψ v) w' ∧ Within S w.heap.size w'.heap.size ∧ Within T w.heap.size w'.heap.size ∧ (∀ g ∈ S, g ∉ T) ∧ Below w.heap.size w w'
theorem NewInts.newV {xs : List Int} {w w' : World} {e : Ending} (h : NewInts xs w e w') : NewV (fun v => OwnI v xs) w e w' := by
  obtain ⟨v, rfl, o, b⟩ := h
  exact ⟨v, _, rfl, own_at o, own_within o, b⟩

theorem toIntS_at (v : Value) (xs : List Int) (lo hi : Nat) (w : World) (hhi : hi ≤ w.heap.size) (hn : xs.length ≤ 1048576) (hr : Row w lo hi v (intsV xs)) :
    Calls Try.prog 26 #[v] w (NewV (fun u => OwnI u xs) w) := (toIntS_any v xs lo hi w hhi hn hr).mono fun _ _ h => h.newV
theorem eqIntS_at (u v : Value) (xs ys : List Int) (w : World) (hl : xs.length ≤ 9223372036854775807) (hu : OwnI u xs w) (hv : OwnI v ys w) :
    Calls Try.prog 31 #[u, v] w fun e w' => e = .returned (.bool (decide (xs = ys))) ∧ Below w.heap.size w w' := by
  refine (eqIntS_any u v xs ys _ _ _ _ w hl hu.row hv.row).mono ?_
  rintro e w' ⟨rfl, q, rfl⟩
  exact ⟨rfl, below_drewN (Below.refl _ _) q⟩

/-! ### what calls answer -/
def PostI (R0 : List Int) (w : World) (e : Ending) (w' : World) : Prop :=
  ∃ (u0 : Value) (S0 : List Nat), e = .returned u0 ∧ At S0 (OwnI u0 R0) w' ∧ Within S0 w.heap.size w'.heap.size ∧ Below w.heap.size w w'
def PostII (R0 : List Int) (R1 : List Int) (w : World) (e : Ending) (w' : World) : Prop :=
  ∃ (u0 : Value) (S0 : List Nat) (u1 : Value) (S1 : List Nat), e = .returned (.tuple #[u0, u1]) ∧ At S0 (OwnI u0 R0) w' ∧ At S1 (OwnI u1 R1) w' ∧ Within S0 w.heap.size w'.heap.size ∧ Within S1 w.heap.size w'.heap.size ∧ (∀ g ∈ S0, g ∉ S1) ∧ Below w.heap.size w w'
def Postn (R0 : Int) (w : World) (e : Ending) (w' : World) : Prop :=
  e = .returned (.int .i64 R0) ∧ Below w.heap.size w w'
def Postb (R0 : Bool) (w : World) (e : Ending) (w' : World) : Prop :=
  e = .returned (.bool R0) ∧ Below w.heap.size w w'
def PostIb (R0 : List Int) (R1 : Bool) (w : World) (e : Ending) (w' : World) : Prop :=
  ∃ (u0 : Value) (S0 : List Nat), e = .returned (.tuple #[u0, (.bool R1)]) ∧ At S0 (OwnI u0 R0) w' ∧ Within S0 w.heap.size w'.heap.size ∧ Below w.heap.size w w'
def Postnb (R0 : Int) (R1 : Bool) (w : World) (e : Ending) (w' : World) : Prop :=
  e = .returned (.tuple #[(.int .i64 R0), (.bool R1)]) ∧ Below w.heap.size w w'
end Go.Proofs.Ytofehcpapdlcnaa
