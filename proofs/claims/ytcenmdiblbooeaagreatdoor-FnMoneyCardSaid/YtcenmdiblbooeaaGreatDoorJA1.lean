/-
  The words for memory that my walks use: a slice that reads as a list of one-cell values, and how the reading is carried on.
  The table of currencies in plain words: rows of code, number, places and cash, in the order of each side; what a look-up answers does not hang on the order.
  Impl's look-ups over its table of currencies, a package-level array.
  What every law of the seat needs: a call that returns true and changes nothing below the heap's old size meets the row's post, whatever its arguments are.
  What a law needs whose row names package-level variables and lists them: whatever they are, they read behind the call as they did before.
  The table of currencies as a row lists it: from the listed reading to its cells.
  A world for the witness: the settled one, the table of currencies holding what its initialiser lays.
  Contracts of library functions, laid over this program: each is one application of a theorem of the library.
  What spec.IntText and impl.IntText return: the decimal numeral.
  What a law of a door seat needs: its row lists the three number tables of the library; one of them is read.
  Worlds for witnesses that hold the table of currencies and the library's tables; the number table, wherever it is listed.
  What laws.toIntS, eqIntS, markIntS and heldIntS return, for slices of ints that read as lists.
  Values of the call's own with the blocks that they lean on, and how they are carried through calls: the words in which the exact laws are walked.
  Boxes: a block that holds known cells.
  Plain facts on natural numbers as lists of limbs below 1000000000, the least first.
  Plain facts on limbs and powers of 1000000000: setting a limb, filling up with zeros, when limbs are those of their number.
  Plain facts on division limb by limb.
-/
import Derived.Test.YtcenmdiblbooeaaGreatDoorRows
import Derived.WalkKit
import Derived.WalkSpells
import Derived.WalkLawsBesides
import Derived.Deep.QuietTactic
import Derived.BigQuiet
import Derived.Lib.Hide
import Derived.Deep.MidRow
import Derived.ProofKit
import Derived.OpenShut
import Derived.JoinedCond
import Derived.Test.YtcenmdiblbooeaaGreatDoorCards
import Derived.Test.YtcenmdiblbooeaaGreatDoorTie
import Derived.Deep.DeepHandedRow
import Derived.OpenVars
import Derived.Lib.LaidU8
import Derived.Shelf.Bits.Mul64
import Derived.Shelf.Small.Bits
import Derived.Shelf.Small.Strs
import Derived.Shelf.Small.Wraps
import Derived.Shelf.Strconv.Itoa3
import Derived.Shelf.Strings.BuilderK
import Derived.Shelf.Strings.Repeat
import Derived.Shelf.Strings.Search2
import Derived.Shelf.Strings.Trim
import Derived.Test.YtcenmdiblbooeaaGreatDoorProg
import Derived.Deep.RegionWith
import Derived.Lib.ItoaNum
import Derived.IntWalk
import Derived.Lib.LaidTab
import Derived.Lib.Builder
namespace Go.Proofs.YtcenmdiblbooeaaGreatDoor
open Go.RowKit

theorem ret_bool {a b : Bool} (h : a = b) : Ending.returned (.bool a) = .returned (.bool b) := by rw [h]
theorem ret_int {k : IntKind} {a b : Int} (h : a = b) : Ending.returned (.int k a) = .returned (.int k b) := by rw [h]
theorem ret_str {a b : ByteArray} (h : a = b) : Ending.returned (.string a) = .returned (.string b) := by rw [h]
theorem ret_two {a b c d : Value} (h : a = c) (k : b = d) : Ending.returned (.tuple #[a, b]) = .returned (.tuple #[c, d]) := by rw [h, k]

/-- the slice value v reads as xs, an element a cell; its cells, if any, lie in a block from lo on and below hi -/
def Row (w : World) (lo hi : Nat) (v : Value) (xs : List Value) : Prop :=
  ∃ A c, v = .slice A xs.length c ∧ ∀ j u, xs[j]? = some u → ∃ a : Addr, A = some a ∧ lo ≤ a.block ∧ a.block < hi ∧ w.cell? (a.add j) = some u

section
variable {w w' : World} {lo hi : Nat} {v : Value} {xs : List Value}

theorem block_add (a : Addr) (n : Nat) : (a.add n).block = a.block := by
  unfold Addr.add
  split <;> rfl

theorem cell_lt {w : World} {p : Addr} {u : Value} (h : w.cell? p = some u) : p.block < w.heap.size := by
  rcases Nat.lt_or_ge p.block w.heap.size with hl | hl
  · exact hl
  · simp [World.cell?, Array.getElem?_eq_none hl] at h
/-- the reading stays where the cells below hi stay -/
theorem Row.stays (h : Row w lo hi v xs) (hk : ∀ p : Addr, p.block < hi → w'.cell? p = w.cell? p) : Row w' lo hi v xs := by
  obtain ⟨A, c, rfl, h⟩ := h
  refine ⟨A, c, rfl, fun j u hj => ?_⟩
  obtain ⟨a, e, h1, h2, h3⟩ := h j u hj
  exact ⟨a, e, h1, h2, (hk _ (by rw [block_add]; exact h2)).trans h3⟩
theorem Row.below {B : Nat} (h : Row w lo hi v xs) (hb : Below B w w') (hB : hi ≤ B) : Row w' lo hi v xs :=
  h.stays fun _ hp => hb.cell (by omega)
theorem Row.drewN (h : Row w lo hi v xs) (n : Nat) : Row (w.drewN n) lo hi v xs := h.stays fun _ _ => rfl
theorem Row.wide {lo' hi' : Nat} (h : Row w lo hi v xs) (h1 : lo' ≤ lo) (h2 : hi ≤ hi') : Row w lo' hi' v xs := by
  obtain ⟨A, c, rfl, h⟩ := h
  refine ⟨A, c, rfl, fun j u hj => ?_⟩
  obtain ⟨a, e, k1, k2, k3⟩ := h j u hj
  exact ⟨a, e, by omega, by omega, k3⟩
theorem Row.nil_ (A : Option Addr) (c : Nat) : Row w lo hi (.slice A 0 c) [] := ⟨A, c, rfl, fun j u hj => absurd hj (by simp)⟩

/-- a row that the call owns reads as its cells -/
theorem Row.of_own {base : Nat} {e : TypeId} {n : Nat} (h : w.ownsRow base e 1 v n xs) : Row w base w.heap.size v xs := by
  obtain ⟨hl, h | ⟨g, cap, cur, rfl, hb, hh, _, _, hcs, ht⟩⟩ := h
  · obtain ⟨rfl, rfl⟩ := h
    obtain rfl : xs = [] := List.eq_nil_of_length_eq_zero (by omega)
    exact Row.nil_ _ _
  · have hln : xs.length = n := by omega
    refine ⟨some ⟨g, 0, none⟩, cap, by rw [hln], fun j u hu => ⟨_, rfl, hb, ?_, ?_⟩⟩
    · exact (Array.getElem?_eq_some_iff.1 hh).1
    · have e1 : (Addr.add ⟨g, 0, none⟩ j) = ⟨g, j, none⟩ := by
        unfold Addr.add
        split
        · simp_all
        · simp
      rw [e1, cell_of_row w g j cur e (0, 0) hh]
      have hj : j < xs.length := (List.getElem?_eq_some_iff.1 hu).1
      have h2 : cur.toList[j]? = some u := by
        rw [← List.getElem?_take_of_lt (show j < n * 1 by omega), ht]
        exact hu
      simpa using h2
end

/-- a row of the call's own stays where its block stays -/
theorem own_stays {w w' : World} {base size n : Nat} {e : TypeId} {v : Value} {xs : List Value} (h : w.ownsRow base e size v n xs) (hk : ∀ g, v.ownBlock = some g → w'.heap[g]? = w.heap[g]?) : w'.ownsRow base e size v n xs := by
  obtain ⟨hl, h | ⟨g, cap, cur, rfl, hb, hh, r⟩⟩ := h
  · exact ⟨hl, .inl h⟩
  · exact ⟨hl, .inr ⟨g, cap, cur, rfl, hb, (hk g rfl).trans hh, r⟩⟩
theorem own_lt {w : World} {base size n g : Nat} {e : TypeId} {v : Value} {xs : List Value} (h : w.ownsRow base e size v n xs) (hg : v.ownBlock = some g) : base ≤ g ∧ g < w.heap.size := by
  obtain ⟨_, ⟨rfl, _⟩ | ⟨g', cap, cur, rfl, hb, hh, _⟩⟩ := h
  · cases hg
  · cases hg
    exact ⟨hb, (Array.getElem?_eq_some_iff.1 hh).1⟩
theorem own_form {w : World} {base size n : Nat} {e : TypeId} {v : Value} {xs : List Value} (h : w.ownsRow base e size v n xs) (hn : 0 < n) : ∃ g cap, v = .slice (some ⟨g, 0, none⟩) n cap ∧ base ≤ g ∧ g < w.heap.size ∧ n ≤ cap := by
  obtain ⟨_, ⟨_, h0⟩ | ⟨g, cap, cur, e1, hb, hh, hc, _⟩⟩ := h
  · omega
  · exact ⟨g, cap, e1, hb, (Array.getElem?_eq_some_iff.1 hh).1, hc⟩
theorem own_below {w w' : World} {base size n : Nat} {e : TypeId} {v : Value} {xs : List Value} (h : w.ownsRow base e size v n xs) (hb : Below w.heap.size w w') : w'.ownsRow base e size v n xs :=
  own_stays h fun g hg => hb.block g (own_lt h hg).2
theorem own_alloc {w : World} {base size n : Nat} {e : TypeId} {v : Value} {xs : List Value} (h : w.ownsRow base e size v n xs) (o : Obj) : (w.alloc o).ownsRow base e size v n xs :=
  own_below h ((Below.refl _ _).alloc (Nat.le_refl _) o)
theorem grown_below {a b c : World} {row : Option Nat} (h : a.grownBy b row) (k : Below b.heap.size b c) : a.grownBy c row :=
  ⟨k.os.trans h.os, k.tape.trans h.tape, k.output.trans h.output, Nat.le_trans h.size k.size, fun i hi hne => (k.block i (Nat.lt_of_lt_of_le hi h.size)).trans (h.block i hi hne)⟩
theorem grown_trans {a b c : World} {row : Option Nat} (h : a.grownBy b row) (k : b.grownBy c row) : a.grownBy c row :=
  ⟨k.os.trans h.os, k.tape.trans h.tape, k.output.trans h.output, Nat.le_trans h.size k.size, fun i hi hne => (k.block i (Nat.lt_of_lt_of_le hi h.size) hne).trans (h.block i hi hne)⟩
theorem below_drewN {B : Nat} {a w : World} (h : Below B a w) (n : Nat) : Below B a (w.drewN n) := ⟨h.os, h.tape, h.output, h.size, h.block⟩

/-- behind an append of something new onto a row of the call's own, old memory is as it was -/
theorem below_push {w wr w' : World} {B size n : Nat} {e : TypeId} {v : Value} {xs : List Value} {o : Obj} (hb : Below B w wr) (hB : B ≤ w.heap.size) (hown : wr.ownsRow B e size v n xs) (hg : (wr.alloc o).grownBy w' v.ownBlock) : Below B w w' := by
  have hs := hb.size
  exact (hb.alloc (by omega) o).grown hg (by simp; omega) (fun k hk => (own_lt hown hk).1)
theorem one_new (w : World) (x : Value) (t : TypeId) : ∀ (j : Nat) (u : Value), [x][j]? = some u → (w.alloc (.cells #[x] t)).cell? (Addr.add ⟨w.heap.size, 0, none⟩ j) = some u := by
  intro j u h
  cases j with
  | zero =>
    have : (Addr.add ⟨w.heap.size, 0, none⟩ 0) = ⟨w.heap.size, 0, none⟩ := rfl
    rw [this, World.cell?_alloc_at _ _ _ _ rfl]
    simpa using h
  | succ j => simp at h

/-- two new cells read as a slice of two -/
theorem Row.lit2 (w : World) (x y : Value) (t : TypeId) : Row (w.alloc (.cells #[x, y] t)) w.heap.size (w.heap.size + 1) (.slice (some ⟨w.heap.size, 0, none⟩) 2 2) [x, y] := by
  refine ⟨_, _, rfl, fun j u hu => ⟨_, rfl, Nat.le_refl _, Nat.lt_succ_self _, ?_⟩⟩
  match j, hu with
  | 0, hu =>
    show (w.alloc (.cells #[x, y] t)).cell? ⟨w.heap.size, 0, none⟩ = some u
    rw [World.cell?_alloc_at _ _ _ _ rfl]
    simpa using hu
  | 1, hu =>
    show (w.alloc (.cells #[x, y] t)).cell? ⟨w.heap.size, 1, none⟩ = some u
    rw [World.cell?_alloc_at _ _ _ _ rfl]
    simpa using hu
  | j + 2, hu => simp at hu

/-- the two rules that a walk uses behind a call that leaves old memory alone -/
theorem below_rules {W w1 : World} (hb : Below W.heap.size W w1) : (∀ b o, b < W.heap.size → w1.cell? ⟨b, o, none⟩ = W.cell? ⟨b, o, none⟩) ∧ (∀ b o, b < W.heap.size → w1.frozen? ⟨b, o, none⟩ = W.frozen? ⟨b, o, none⟩) :=
  ⟨fun b o h => hb.cell (p := ⟨b, o, none⟩) h, fun b o h => hb.frozen (p := ⟨b, o, none⟩) h⟩
theorem Below.next {a b c : World} (h : Below a.heap.size a b) (k : Below b.heap.size b c) : Below a.heap.size a c := h.trans (k.mono h.size)

theorem own_apart {w w' : World} {base size n : Nat} {e : TypeId} {v : Value} {xs : List Value} {row : Option Nat} (h : w.ownsRow base e size v n xs) (hg : w.grownBy w' row) (hne : ∀ g k, v.ownBlock = some g → row = some k → g ≠ k) : w'.ownsRow base e size v n xs :=
  own_stays h fun g hv => hg.block g (own_lt h hv).2 (fun e => hne g g hv e.symm rfl)
theorem own_drew {w : World} {base size n : Nat} {e : TypeId} {v : Value} {xs : List Value} (h : w.ownsRow base e size v n xs) (q : Nat) : (w.drewN q).ownsRow base e size v n xs := h
theorem decide_refl {α : Type} [DecidableEq α] (x : α) : decide (x = x) = true := decide_eq_true rfl
/-- where a row of the call's own lies -/
def Lies (v : Value) (lo hi : Nat) : Prop := ∀ g, v.ownBlock = some g → lo ≤ g ∧ g < hi
theorem Lies.of {w : World} {base size n : Nat} {e : TypeId} {v : Value} {xs : List Value} (h : w.ownsRow base e size v n xs) : Lies v base w.heap.size := fun _ hg => own_lt h hg
theorem Lies.apart {u v : Value} {a b c d : Nat} (h : Lies u a b) (k : Lies v c d) (hd : b ≤ c ∨ d ≤ a) : ∀ x y, u.ownBlock = some x → v.ownBlock = some y → x ≠ y := by
  intro x y hx hy
  have := h x hx
  have := k y hy
  omega
theorem own_len {w : World} {base n : Nat} {e : TypeId} {v : Value} {xs : List Value} (h : w.ownsRow base e 1 v n xs) : ∃ A c, v = .slice A n c := by
  rcases h.2 with ⟨rfl, rfl⟩ | ⟨g, cap, cur, rfl, _⟩
  · exact ⟨_, _, rfl⟩
  · exact ⟨_, _, rfl⟩
end Go.Proofs.YtcenmdiblbooeaaGreatDoor

namespace Go.Proofs.YtcenmdiblbooeaaGreatDoor
open Go.RowKit

/-- code, number, places, cash -/
abbrev CR : Type := ByteArray × ByteArray × Int × Int
def specT : List CR := [
  (⟨#[65, 85, 68]⟩, ⟨#[48, 51, 54]⟩, 2, 5),
  (⟨#[66, 72, 68]⟩, ⟨#[48, 52, 56]⟩, 3, 5),
  (⟨#[67, 65, 68]⟩, ⟨#[49, 50, 52]⟩, 2, 5),
  (⟨#[67, 72, 70]⟩, ⟨#[55, 53, 54]⟩, 2, 5),
  (⟨#[67, 76, 70]⟩, ⟨#[57, 57, 48]⟩, 4, 1),
  (⟨#[67, 90, 75]⟩, ⟨#[50, 48, 51]⟩, 2, 100),
  (⟨#[68, 75, 75]⟩, ⟨#[50, 48, 56]⟩, 2, 50),
  (⟨#[69, 85, 82]⟩, ⟨#[57, 55, 56]⟩, 2, 1),
  (⟨#[71, 66, 80]⟩, ⟨#[56, 50, 54]⟩, 2, 1),
  (⟨#[72, 85, 70]⟩, ⟨#[51, 52, 56]⟩, 2, 500),
  (⟨#[73, 83, 75]⟩, ⟨#[51, 53, 50]⟩, 0, 1),
  (⟨#[74, 80, 89]⟩, ⟨#[51, 57, 50]⟩, 0, 1),
  (⟨#[75, 82, 87]⟩, ⟨#[52, 49, 48]⟩, 0, 10),
  (⟨#[75, 87, 68]⟩, ⟨#[52, 49, 52]⟩, 3, 5),
  (⟨#[78, 79, 75]⟩, ⟨#[53, 55, 56]⟩, 2, 100),
  (⟨#[78, 90, 68]⟩, ⟨#[53, 53, 52]⟩, 2, 10),
  (⟨#[80, 76, 78]⟩, ⟨#[57, 56, 53]⟩, 2, 1),
  (⟨#[83, 69, 75]⟩, ⟨#[55, 53, 50]⟩, 2, 100),
  (⟨#[84, 78, 68]⟩, ⟨#[55, 56, 56]⟩, 3, 10),
  (⟨#[85, 83, 68]⟩, ⟨#[56, 52, 48]⟩, 2, 1)]
def implT : List CR := [
  (⟨#[67, 72, 70]⟩, ⟨#[55, 53, 54]⟩, 2, 5),
  (⟨#[69, 85, 82]⟩, ⟨#[57, 55, 56]⟩, 2, 1),
  (⟨#[85, 83, 68]⟩, ⟨#[56, 52, 48]⟩, 2, 1),
  (⟨#[71, 66, 80]⟩, ⟨#[56, 50, 54]⟩, 2, 1),
  (⟨#[74, 80, 89]⟩, ⟨#[51, 57, 50]⟩, 0, 1),
  (⟨#[83, 69, 75]⟩, ⟨#[55, 53, 50]⟩, 2, 100),
  (⟨#[78, 79, 75]⟩, ⟨#[53, 55, 56]⟩, 2, 100),
  (⟨#[68, 75, 75]⟩, ⟨#[50, 48, 56]⟩, 2, 50),
  (⟨#[67, 90, 75]⟩, ⟨#[50, 48, 51]⟩, 2, 100),
  (⟨#[72, 85, 70]⟩, ⟨#[51, 52, 56]⟩, 2, 500),
  (⟨#[80, 76, 78]⟩, ⟨#[57, 56, 53]⟩, 2, 1),
  (⟨#[67, 65, 68]⟩, ⟨#[49, 50, 52]⟩, 2, 5),
  (⟨#[65, 85, 68]⟩, ⟨#[48, 51, 54]⟩, 2, 5),
  (⟨#[78, 90, 68]⟩, ⟨#[53, 53, 52]⟩, 2, 10),
  (⟨#[75, 87, 68]⟩, ⟨#[52, 49, 52]⟩, 3, 5),
  (⟨#[66, 72, 68]⟩, ⟨#[48, 52, 56]⟩, 3, 5),
  (⟨#[84, 78, 68]⟩, ⟨#[55, 56, 56]⟩, 3, 10),
  (⟨#[73, 83, 75]⟩, ⟨#[51, 53, 50]⟩, 0, 1),
  (⟨#[75, 82, 87]⟩, ⟨#[52, 49, 48]⟩, 0, 10),
  (⟨#[67, 76, 70]⟩, ⟨#[57, 57, 48]⟩, 4, 1)]
def cellsC (r : CR) : List Value := [.string r.1, .string r.2.1, .int .i64 r.2.2.1, .int .i64 r.2.2.2]
def cellsT (l : List CR) : List Value := l.flatMap cellsC
def codesT (l : List CR) : List ByteArray := l.map (·.1)
def byNum (l : List CR) (n : ByteArray) : ByteArray := match l.find? (fun r => decide (r.2.1 = n)) with
  | some r => r.1
  | none => ⟨#[]⟩

theorem find_of_mem {α β : Type} [DecidableEq β] {f : α → β} : ∀ {l : List α}, (l.map f).Nodup → ∀ {r : α}, r ∈ l → l.find? (fun x => decide (f x = f r)) = some r
  | [], _, _, h => absurd h List.not_mem_nil
  | x :: l, hn, r, h => by
    rw [List.map_cons, List.nodup_cons] at hn
    rw [List.find?_cons]
    rcases List.mem_cons.1 h with rfl | h
    · simp
    · have : ¬ f x = f r := fun e => hn.1 (by rw [e]; exact List.mem_map_of_mem h)
      rw [decide_eq_false this]
      exact find_of_mem hn.2 h
theorem find_perm {α β : Type} [DecidableEq β] {f : α → β} {l m : List α} (hl : (l.map f).Nodup) (hm : (m.map f).Nodup) (h1 : ∀ x ∈ l, x ∈ m) (h2 : ∀ x ∈ m, x ∈ l) (b : β) :
    l.find? (fun x => decide (f x = b)) = m.find? (fun x => decide (f x = b)) := by
  cases h : l.find? (fun x => decide (f x = b)) with
  | some r =>
    have hr := List.mem_of_find?_eq_some h
    have hb : f r = b := by simpa using List.find?_some h
    subst hb
    exact (find_of_mem hm (h1 r hr)).symm
  | none =>
    cases k : m.find? (fun x => decide (f x = b)) with
    | none => rfl
    | some r =>
      have hr := List.mem_of_find?_eq_some k
      have hb : f r = b := by simpa using List.find?_some k
      subst hb
      rw [find_of_mem hl (h2 r hr)] at h
      cases h
theorem sub_of {l m : List CR} (h : (l.all fun x => m.any fun y => decide (x = y)) = true) : ∀ x ∈ l, x ∈ m := fun x hx => by
  have := List.all_eq_true.1 h x hx
  obtain ⟨y, hy, e⟩ := List.any_eq_true.1 this
  rw [of_decide_eq_true e]
  exact hy
set_option maxRecDepth 100000 in
theorem implT_sub : ∀ x ∈ implT, x ∈ specT := sub_of (by decide +kernel)
set_option maxRecDepth 100000 in
theorem specT_sub : ∀ x ∈ specT, x ∈ implT := sub_of (by decide +kernel)
set_option maxRecDepth 100000 in
theorem implT_nums : (implT.map fun r => r.2.1).Nodup := by decide +kernel
set_option maxRecDepth 100000 in
theorem specT_nums : (specT.map fun r => r.2.1).Nodup := by decide +kernel
set_option maxRecDepth 100000 in
theorem implT_codes : (implT.map fun r => r.1).Nodup := by decide +kernel
set_option maxRecDepth 100000 in
theorem specT_codes : (specT.map fun r => r.1).Nodup := by decide +kernel
theorem byNum_mem {l : List CR} (hn : (l.map fun r => r.2.1).Nodup) {r : CR} (h : r ∈ l) : byNum l r.2.1 = r.1 := by
  unfold byNum
  rw [find_of_mem (f := fun r : CR => r.2.1) hn h]
theorem byNum_none {l : List CR} {n : ByteArray} (h : ∀ r ∈ l, ¬ r.2.1 = n) : byNum l n = ⟨#[]⟩ := by
  unfold byNum
  rw [List.find?_eq_none.2 fun r hr => by simpa using h r hr]
theorem implT_len : implT.length = 20 := rfl
theorem specT_len : specT.length = 20 := rfl
theorem take_next {l : List CR} {φ : CR → Prop} {k : Nat} (h : ∀ r ∈ l.take k, φ r) (hk : k < l.length) (hx : φ l[k]) : ∀ r ∈ l.take (k + 1), φ r := by
  intro r hr
  rw [List.take_succ_eq_append_getElem hk] at hr
  rcases List.mem_append.1 hr with hr | hr
  · exact h r hr
  · rw [List.mem_singleton.1 hr]
    exact hx
theorem bytes_neC {a b : ByteArray} (h : ¬ a = b) : (a.toList == b.toList) = false := by
  rw [beq_eq_false_iff_ne, ByteArray.toList_eq, ByteArray.toList_eq]
  exact fun e => h (WideShapes.bytes_inj e)
theorem cellsT_cons (r : CR) (l : List CR) : cellsT (r :: l) = cellsC r ++ cellsT l := by simp [cellsT]
theorem cellsT_get : ∀ (l : List CR) (k j : Nat) (hk : k < l.length), j < 4 → (cellsT l)[k * 4 + j]? = (cellsC l[k])[j]?
  | [], k, j, hk, _ => absurd hk (by simp)
  | r :: l, 0, j, _, hj => by
    rw [cellsT_cons, Nat.zero_mul, Nat.zero_add, List.getElem?_append_left (by simpa [cellsC] using hj)]
    rfl
  | r :: l, k + 1, j, hk, hj => by
    have e : (k + 1) * 4 + j = (cellsC r).length + (k * 4 + j) := by simp [cellsC]; omega
    rw [cellsT_cons, e, List.getElem?_append_right (by omega), Nat.add_sub_cancel_left, cellsT_get l k j (by simpa using hk) hj]
    rfl
theorem byNum_eq (n : ByteArray) : byNum implT n = byNum specT n := by
  unfold byNum
  rw [find_perm (f := fun r : CR => r.2.1) implT_nums specT_nums implT_sub specT_sub n]
end Go.Proofs.YtcenmdiblbooeaaGreatDoor

namespace Go.Proofs.YtcenmdiblbooeaaGreatDoor
open Go.RowKit

def CurTab (w : World) : Prop := w.var? Tryz.prog "loop.example/g00793/impl.currencies" = some (cellsT implT).toArray
theorem curNamed : Tryz.prog.globalNamed "loop.example/g00793/impl.currencies" = some 0 := by kernel_rfl
theorem CurTab.lt {w : World} (h : CurTab w) : 0 < w.heap.size := by
  unfold CurTab World.var? at h
  rw [curNamed] at h
  simp only [Option.bind_some] at h
  cases hh : w.heap[0]? with
  | none => rw [hh] at h; cases h
  | some o => exact (Array.getElem?_eq_some_iff.1 hh).1
theorem CurTab.below {w w' : World} (h : CurTab w) (hb : Below w.heap.size w w') : CurTab w' := by
  have hl := h.lt
  unfold CurTab World.var? at h ⊢
  rw [curNamed] at h ⊢
  simp only [Option.bind_some] at h ⊢
  rw [hb.block _ hl]
  exact h
theorem CurTab.range {w : World} (h : CurTab w) : w.rangeAt 0 0 (cellsT implT) := by
  intro j v hv
  rw [World.var?_cell curNamed h (0 + j), Nat.zero_add]
  simpa using hv
theorem curInfo : (Tryz.prog.info? 143).map (·.size) = some (cellsT implT).length := by kernel_rfl
set_option maxRecDepth 100000 in
theorem cur_index (k : Nat) (hk : k < 20) (w : World) : (Instr.index 143 (.agg (cellsT implT).toArray) (.int .i64 (k : Int))).run Tryz.prog w = .ok (.agg (cellsC (implT[k]'hk)).toArray) w := by
  have h : k = 0 ∨ k = 1 ∨ k = 2 ∨ k = 3 ∨ k = 4 ∨ k = 5 ∨ k = 6 ∨ k = 7 ∨ k = 8 ∨ k = 9 ∨ k = 10 ∨ k = 11 ∨ k = 12 ∨ k = 13 ∨ k = 14 ∨ k = 15 ∨ k = 16 ∨ k = 17 ∨ k = 18 ∨ k = 19 := by omega
  rcases h with h | h | h | h | h | h | h | h | h | h | h | h | h | h | h | h | h | h | h | h <;> (subst h; show _ = _; kernel_rfl)
end Go.Proofs.YtcenmdiblbooeaaGreatDoor

namespace Go.Proofs.YtcenmdiblbooeaaGreatDoor
open Go.ChangeShapes Go.WideShapes Go.ChangeAt Go.RowKit

theorem Tryz.own : ownKnob Tryz.prog.godebug = none := by kernel_rfl
theorem Tryz.laidOut : laidOutB Tryz.prog = true := by kernel_rfl

section
variable {H : Type} {enc : TypeId × Value → H} {P : Program}

/-- the types of a list can all be read, and all lie in the program's table -/
def legible (P : Program) (ts : List TypeId) : Bool := ts.all fun t => P.readableRec t && decide (t < P.types.size)

theorem args_below (hl : laidOutB P = true) {W W' : World} (hb : Below W.heap.size W W') :
    ∀ {ts : List TypeId} {vs : List Value} {ds : List (DataW H)} {ps : List MemPlace}, legible P ts = true → DataW.TrodAll enc P W 0 (fun _ => true) true ts vs ds ps → (∀ x ∈ ps, x.block < W.heap.size) →
      DataW.TrodAll enc P W' 0 (fun b => decide (b < W.heap.size)) true ts vs ds ps
  | [], _, _, _, _, h, _ => by
    obtain ⟨rfl, rfl, rfl⟩ := trodAll_nil h
    rfl
  | t :: ts, _, _, _, hr, h, hlt => by
    obtain ⟨v, vs, d, ds, p, q, rfl, rfl, rfl, h1, h2⟩ := trodAll_cons h
    simp only [legible, List.all_cons, Bool.and_eq_true, decide_eq_true_eq] at hr
    exact ⟨p, q, Below.trod hl hr.1.1 hr.1.2 h1 hb (fun x hx => hlt x (List.mem_append_left _ hx)), args_below hl hb (by simpa only [legible] using hr.2) h2 (fun x hx => hlt x (List.mem_append_right _ hx)), rfl⟩

/-- the post of a law that lists no variable -/
theorem law_post (hl : laidOutB P = true) {f : Func} {s : ChangeSpec} {tb : TypeId} {W W' : World} {args : Array Value} {ds gs : List (DataW H)} {before : List MemPlace}
    (hr : legible P f.params.toList = true) (hty : f.resultTypes = #[tb]) (htb : P.underlying tb = some .bool) (hvars : s.vars = [])
    (hfn : s.fn H ds = { results := [.lit (.bool true)], args := ds })
    (hW : DataW.Whole enc P f.params.toList s.vars false W args.toList ds gs before) (hb : Below W.heap.size W W') :
    s.post enc P f false true false false W args (.bool true) W' := by
  have hW' := hW
  obtain ⟨p, q, hA, hV, rfl, _, _⟩ := hW
  rw [hvars] at hV
  obtain ⟨rfl, rfl⟩ := trodVars_none hV
  have hlt : ∀ x ∈ p, x.block < W.heap.size := fun x hx => hW'.lt x (by simpa using hx)
  have e : s.fn H (ds ++ []) = { results := [.lit (.bool true)], args := ds } := by rw [List.append_nil]; exact hfn
  refine ⟨ds, [], p ++ [], [], p, [], hW', ?_, ?_, ?_, hb.frame _, fun h => by cases h⟩
  · rw [e, hty]
    exact trodAll_mk1 (shut_bool htb _)
  · rw [e]
    exact args_below hl hb hr hA hlt
  · rw [e, hvars]
    rfl
end

set_option maxRecDepth 100000 in
/-- a law that lists no variable: from the walk at every argument to the lifted row -/
theorem law_lifted {H : Type} {enc : TypeId × Value → H} {os : Os} (started : os.Started) {f : FuncId} {fn : Func} {s : ChangeSpec} {conds : List PathCond} {tb : TypeId}
    (noInit : Tryz.prog.inits.idxOf? f = none) (hfun : Tryz.prog.funcs[f]? = some fn)
    (hr : legible Tryz.prog fn.params.toList = true) (hty : fn.resultTypes = #[tb]) (htb : Tryz.prog.underlying tb = some .bool) (hvars : s.vars = [])
    (witness : ∃ (w : World) (tape : Tape) (i : Input), w.os = os ∧ (w.forCall tape i).Shaped Tryz.checked.prog ∧ i.vars = [] ∧ Input.okWide Tryz.checked.prog (w.forCall tape i) .any w.heap.size f i ∧
      s.pre6 enc Tryz.checked.prog fn conds false (w.forCall tape i).memory i.args ∧ Assume.holds {} Tryz.checked.prog (lone (Frame.enter Tryz.checked.prog f i.args .normal) [] (w.forCall tape i)))
    (walk : ∀ (W : World) (base : Nat) (args : Array Value) (ds : List (DataW H)) (p : List MemPlace),
      (∀ (j : Nat) t v, fn.params[j]? = some t → args[j]? = some v → Value.okWide Tryz.prog W .any base t v) →
      DataW.TrodAll enc Tryz.prog W 0 (fun _ => true) true fn.params.toList args.toList ds p → (∀ x ∈ p, x.block < W.heap.size) → W.noneFrozen p →
      s.fn H ds = { results := [.lit (.bool true)], args := ds } ∧ Calls Tryz.prog f args W fun e W' => e = .returned (.bool true) ∧ Below W.heap.size W W') :
    ReturnsInHanded {} Tryz.checked os f .any (s.pre6 enc Tryz.prog fn conds false) (s.post enc Tryz.prog fn false true false false) := by
  refine returnsInHanded_of_change (C := Tryz.checked) Tryz.own started noInit hfun witness ?_
  intro W base args ds gs before hval hW _ _
  have hW' := hW
  obtain ⟨p, q, hA, hV, rfl, hz, _⟩ := hW
  rw [hvars] at hV
  obtain ⟨rfl, rfl⟩ := trodVars_none hV
  obtain ⟨hfn, hc⟩ := walk W base args ds p hval hA (fun x hx => hW'.lt x (by simpa using hx)) (by simpa using hz)
  refine hc.mono fun e W' ⟨he, hb⟩ => ?_
  subst he
  exact ⟨_, rfl, law_post Tryz.laidOut hr hty htb hvars hfn hW' hb⟩
end Go.Proofs.YtcenmdiblbooeaaGreatDoor

namespace Go.Proofs.YtcenmdiblbooeaaGreatDoor
open Go.ChangeShapes Go.WideShapes Go.ChangeAt Go.RowKit

theorem trodVars_length {H : Type} {enc : TypeId × Value → H} {P : Program} {w : World} {sp : Nat → Bool} : ∀ {ns : List String} {gs : List (DataW H)} {ps : List MemPlace}, DataW.TrodVars enc P w sp ns gs ps → gs.length = ns.length
  | [], [], _, _ => rfl
  | [], _ :: _, _, h => h.elim
  | _ :: _, [], _, h => h.elim
  | _ :: _, _ :: _, _, h => by
    obtain ⟨_, _, _, _, _, q, _, _, _, _, h5, _⟩ := h
    simp [trodVars_length h5]

/-- the post of a law that names variables -/
theorem law_postV {H : Type} {enc : TypeId × Value → H} {f : Func} {s : ChangeSpec} {tb : TypeId} {W W' : World} {args : Array Value} {ds gs : List (DataW H)} {before : List MemPlace}
    (hr : legible Tryz.prog f.params.toList = true) (hty : f.resultTypes = #[tb]) (htb : Tryz.prog.underlying tb = some .bool) (hv : varsRowed Tryz.prog s.vars = true)
    (hfn : ∀ gs : List (DataW H), gs.length = s.vars.length → s.fn H (ds ++ gs) = { results := [.lit (.bool true)], args := ds, vars := gs })
    (hW : DataW.Whole enc Tryz.prog f.params.toList s.vars false W args.toList ds gs before) (hb : Below W.heap.size W W') :
    s.post enc Tryz.prog f false true false false W args (.bool true) W' := by
  have hW' := hW
  obtain ⟨p, q, hA, hV, rfl, _, _⟩ := hW
  have hlt : ∀ x ∈ p, x.block < W.heap.size := fun x hx => hW'.lt x (by simp [hx])
  have e := hfn gs (trodVars_length hV)
  refine ⟨ds, gs, _, [], p, q, hW', ?_, ?_, ?_, hb.frame _, fun h => by cases h⟩
  · rw [e, hty]
    exact trodAll_mk1 (shut_bool htb _)
  · rw [e]
    exact args_below Tryz.laidOut hb hr hA hlt
  · rw [e]
    exact Below.trodVars Tryz.laidOut hb hv hV

set_option maxRecDepth 100000 in
/-- from the walk at every argument, the listed variables at hand, to the lifted row -/
theorem law_lifted_vars {H : Type} {enc : TypeId × Value → H} {os : Os} (started : os.Started) {F : Stop.Interp} {f : FuncId} {fn : Func} {s : ChangeSpec} {conds : List PathCond} {tb : TypeId} {laidL : List (String × DataW Unit)}
    (noInit : Tryz.prog.inits.idxOf? f = none) (hfun : Tryz.prog.funcs[f]? = some fn)
    (hr : legible Tryz.prog fn.params.toList = true) (hty : fn.resultTypes = #[tb]) (htb : Tryz.prog.underlying tb = some .bool) (hv : varsRowed Tryz.prog s.vars = true)
    (witness : ∃ (w : World) (tape : Tape) (i : Input), w.os = os ∧ (w.forCall tape i).Shaped Tryz.checked.prog ∧ i.vars = [] ∧ Input.okWide Tryz.checked.prog (w.forCall tape i) .any w.heap.size f i ∧
      (OpenSpec.ofChange s).preRow enc Tryz.checked.prog fn conds false laidL (w.forCall tape i).memory i.args ∧ Assume.holds {} Tryz.checked.prog (lone (Frame.enter Tryz.checked.prog f i.args .normal) [] (w.forCall tape i)))
    (walk : ∀ (W : World) (base : Nat) (args : Array Value) (ds : List (DataW H)) (p : List MemPlace),
      (∀ (j : Nat) t v, fn.params[j]? = some t → args[j]? = some v → Value.okWide Tryz.prog W .any base t v) →
      DataW.TrodAll enc Tryz.prog W 0 (fun _ => true) true fn.params.toList args.toList ds p → (∀ x ∈ p, x.block < W.heap.size) → laidMetH Tryz.prog laidL W →
      (∀ gs : List (DataW H), gs.length = s.vars.length → s.fn H (ds ++ gs) = { results := [.lit (.bool true)], args := ds, vars := gs }) ∧ Calls Tryz.prog f args W fun e W' => e = .returned (.bool true) ∧ Below W.heap.size W W') :
    ReturnsInHanded {} Tryz.checked os f .any ((OpenSpec.ofChange s).preRow enc Tryz.prog fn conds false laidL) (((OpenSpec.ofChange s).at F).post enc Tryz.prog fn false true false false) := by
  refine returnsInHanded_of_row (C := Tryz.checked) (s := OpenSpec.ofChange s) Tryz.own started noInit hfun witness ?_
  intro W base args ds gs before hval hW0 _ _ _ hL _ _
  have hW : DataW.Whole enc Tryz.prog fn.params.toList s.vars false W args.toList ds gs before := hW0
  have hW' := hW
  obtain ⟨p, q, hA, hV, rfl, _, _⟩ := hW
  obtain ⟨hfn, hc⟩ := walk W base args ds p hval hA (fun x hx => hW'.lt x (by simp [hx])) hL
  refine hc.mono fun e W' ⟨he, hb⟩ => ?_
  subst he
  exact ⟨_, rfl, law_postV hr hty htb hv hfn hW' hb⟩
end Go.Proofs.YtcenmdiblbooeaaGreatDoor

namespace Go.Proofs.YtcenmdiblbooeaaGreatDoor
open Go.ChangeShapes Go.WideShapes Go.ChangeAt Go.RowKit

def dataC (r : CR) : DataW Unit := .agg [.lit (.string r.1.data.toList), .lit (.string r.2.1.data.toList), .lit (.int .i64 r.2.2.1), .lit (.int .i64 r.2.2.2)]
theorem curData : (Rows.laid_loop_example_g00793_impl_currencies : DataW Unit) = .agg (implT.map dataC) := by kernel_rfl
theorem curType : (Tryz.prog.globals[0]?).map (·.type) = some 143 := by kernel_rfl
theorem curCells : Tryz.prog.cellsOf 143 = 80 := by kernel_rfl
theorem rowCells : Tryz.prog.cellsOf 109 = 4 := by kernel_rfl
theorem strCellsC : Tryz.prog.cellsOf 9 = 1 := by kernel_rfl
theorem intCellsC : Tryz.prog.cellsOf 3 = 1 := by kernel_rfl
theorem data_inj {a b : ByteArray} (h : a.data.toList = b.data.toList) : a = b := by
  cases a with
  | mk x =>
    cases b with
    | mk y => exact congrArg ByteArray.mk (Array.toList_inj.1 h)
set_option maxHeartbeats 400000 in
set_option maxRecDepth 100000 in
theorem row_read {fuel : Nat} {W : World} {cs : List Value} {r : CR} {p : List MemPlace}
    (h : DataW.trod (fun _ => ()) Tryz.prog W 0 (fun _ => true) false fuel 109 cs = some (dataC r, p)) : cs = cellsC r := by
  obtain ⟨xs, n, rfl, hx, hl, hxl, hall⟩ := DataW.trod_struct Tryz.underlying109 h
  rw [rowCells] at hl
  have h0 : DataW.trod (fun _ => ()) Tryz.prog W 0 (fun _ => true) false n 9 ((cs.drop 0).take (Tryz.prog.cellsOf 9)) = xs[0]? := hall 0 _ rfl
  have h1 : DataW.trod (fun _ => ()) Tryz.prog W 0 (fun _ => true) false n 9 ((cs.drop 1).take (Tryz.prog.cellsOf 9)) = xs[1]? := hall 1 _ rfl
  have h2 : DataW.trod (fun _ => ()) Tryz.prog W 0 (fun _ => true) false n 3 ((cs.drop 2).take (Tryz.prog.cellsOf 3)) = xs[2]? := hall 2 _ rfl
  have h3 : DataW.trod (fun _ => ()) Tryz.prog W 0 (fun _ => true) false n 3 ((cs.drop 3).take (Tryz.prog.cellsOf 3)) = xs[3]? := hall 3 _ rfl
  rw [strCellsC] at h0 h1
  rw [intCellsC] at h2 h3
  match cs, hl with
  | [c0, c1, c2, c3], _ =>
    match xs, hxl with
    | [x0, x1, x2, x3], _ =>
      obtain ⟨s0, e0, k0, _⟩ := DataW.trod_string Tryz.underlying9 h0
      obtain ⟨s1, e1, k1, _⟩ := DataW.trod_string Tryz.underlying9 h1
      obtain ⟨n2, e2, k2, _⟩ := DataW.trod_int Tryz.underlying3 h2
      obtain ⟨n3, e3, k3, _⟩ := DataW.trod_int Tryz.underlying3 h3
      simp at e0 e1 e2 e3
      subst e0 e1 e2 e3 k0 k1 k2 k3
      have hx1 := congrArg Prod.fst hx
      simp only [dataC, List.map_cons, List.map_nil, DataW.agg.injEq, List.cons.injEq, DataW.lit.injEq, Lit.string.injEq, Lit.int.injEq, true_and, and_true] at hx1
      obtain ⟨y0, y1, y2, y3⟩ := hx1
      unfold cellsC
      rw [data_inj y0, data_inj y1, y2, y3]
theorem cellsT_length : ∀ l : List CR, (cellsT l).length = l.length * 4
  | [] => rfl
  | r :: l => by
    rw [show cellsT (r :: l) = cellsC r ++ cellsT l by simp [cellsT], List.length_append, cellsT_length l]
    simp [cellsC]
    omega
theorem curTab_of {l : List (String × DataW Unit)} {W : World} (h : laidMet Tryz.prog l W) (hm : ("loop.example/g00793/impl.currencies", (Rows.laid_loop_example_g00793_impl_currencies : DataW Unit)) ∈ l) : CurTab W := by
  obtain ⟨g, t, cs, fuel, p, hg, ht, hvar, hd⟩ := Lib.laidMet.reads h hm
  obtain rfl := Option.some.inj (curNamed.symm.trans hg)
  obtain rfl := Option.some.inj (curType.symm.trans ht)
  rw [curData] at hd
  unfold CurTab
  rw [hvar]
  have hlen : cs.toList.length = 80 := by
    cases fuel with
    | zero => simp [DataW.trod] at hd
    | succ fuel =>
      simp only [DataW.trod, Tryz.underlying143, curCells] at hd
      split at hd
      · assumption
      · cases hd
  have hrow : ∀ i (hi : i < implT.length), (cs.toList.drop (i * 4)).take 4 = cellsC implT[i] := fun i hi => by
    obtain ⟨fuel', d, q, hdi, he⟩ := Lib.array_elem Tryz.underlying143 hd i hi
    rw [List.getElem?_map, List.getElem?_eq_getElem hi] at hdi
    obtain rfl := Option.some.inj hdi
    rw [rowCells] at he
    exact row_read he
  congr 1
  apply Array.toList_inj.1
  apply List.ext_getElem?
  intro m
  by_cases hlt : m < 80
  · have hi : m / 4 < implT.length := by rw [implT_len]; omega
    have e := congrArg (·[m % 4]?) (hrow (m / 4) hi)
    have hj : m % 4 < 4 := Nat.mod_lt _ (by decide)
    simp only [List.getElem?_take, List.getElem?_drop, hj, if_true] at e
    rw [← cellsT_get implT (m / 4) (m % 4) hi hj, show m / 4 * 4 + m % 4 = m by omega] at e
    simpa using e
  · rw [List.getElem?_eq_none (by omega), List.getElem?_eq_none (by simp [cellsT_length, implT_len]; omega)]
end Go.Proofs.YtcenmdiblbooeaaGreatDoor

namespace Go.Proofs.YtcenmdiblbooeaaGreatDoor
open Go.ChangeShapes Go.WideShapes Go.ChangeAt Go.RowKit

def putC (cs : Array Value) : Obj → Obj
  | .cells _ t frozen => .cells cs t frozen
  | o => o
noncomputable def curWorld (os : Os) : World :=
  { World.holding Tryz.prog os ⟨#[], #[], []⟩ with heap := (World.holding Tryz.prog os ⟨#[], #[], []⟩).heap.modify 0 (putC (cellsT implT).toArray) }
end Go.Proofs.YtcenmdiblbooeaaGreatDoor

namespace Go.Proofs
open Go.Shelf
def Tryz.lays169_ren : Go.Shelf.Ren := ⟨fun | 169 => 112 | n => n, fun | 70 => 144 | 9 => 9 | 0 => 0 | 72 => 146 | 37 => 22 | 127 => 182 | 3 => 3 | 5 => 5 | n => n, fun | n => n⟩
theorem Tryz.lays169 : Go.Proofs.Lays.n169 Tryz.prog Tryz.lays169_ren := {
  mixed := by kernel_rfl
  f169 := Tryz.func112.trans (congrArg some (by kernel_rfl))
  t0 := Tryz.underlying0
  a0 := Tryz.isAgg0
  z0 := Tryz.sizeOf0
  v0 := Tryz.zeroValue0
  t3 := Tryz.underlying3
  a3 := Tryz.isAgg3
  z3 := Tryz.sizeOf3
  v3 := Tryz.zeroValue3
  t9 := Tryz.underlying9
  a9 := Tryz.isAgg9
  z9 := Tryz.sizeOf9
  v9 := Tryz.zeroValue9
  t37 := Tryz.underlying22
  a37 := Tryz.isAgg22
  z37 := Tryz.sizeOf22
  v37 := Tryz.zeroValue22
  t70 := Tryz.underlying144
  a70 := Tryz.isAgg144
  z70 := Tryz.sizeOf144
  v70 := Tryz.zeroValue144
  t72 := Tryz.underlying146
  a72 := Tryz.isAgg146
  z72 := Tryz.sizeOf146
  v72 := Tryz.zeroValue146
  t127 := Tryz.underlying182
  a127 := Tryz.isAgg182
  z127 := Tryz.sizeOf182
  v127 := Tryz.zeroValue182 }
theorem Tryz.Builder_Extra_169 : Builder.Extra Tryz.prog Tryz.lays169_ren := {
  sizeBuilder := by kernel_rfl
  liesBuilder := by kernel_rfl
  t5 := Tryz.underlying5
  a5 := Tryz.isAgg5
  z5 := Tryz.sizeOf5
  v5 := Tryz.zeroValue5
  infoByte := by kernel_rfl
  cellsByte := by kernel_rfl
  sizeByte := by kernel_rfl
  neB5 := by decide }
def Tryz.lays231_ren : Go.Shelf.Ren := ⟨fun | 231 => 107 | n => n, fun | 9 => 9 | 5 => 5 | 3 => 3 | 4 => 4 | n => n, fun | n => n⟩
theorem Tryz.lays231 : Go.Proofs.Lays.n231 Tryz.prog Tryz.lays231_ren := {
  mixed := by kernel_rfl
  f231 := Tryz.func107.trans (congrArg some (by kernel_rfl))
  t3 := Tryz.underlying3
  a3 := Tryz.isAgg3
  z3 := Tryz.sizeOf3
  v3 := Tryz.zeroValue3
  t4 := Tryz.underlying4
  a4 := Tryz.isAgg4
  z4 := Tryz.sizeOf4
  v4 := Tryz.zeroValue4
  t5 := Tryz.underlying5
  a5 := Tryz.isAgg5
  z5 := Tryz.sizeOf5
  v5 := Tryz.zeroValue5
  t9 := Tryz.underlying9
  a9 := Tryz.isAgg9
  z9 := Tryz.sizeOf9
  v9 := Tryz.zeroValue9 }
open Go.RowKit in
theorem Tryz.strings_trimLeftByte (s : ByteArray) (c : UInt8) (w : World) :
    Calls Tryz.prog 107 #[.string s, .int .u8 c.toNat] w fun e w' => e = .returned (.string ⟨(Lib.trimLeftB s.data.toList c).toArray⟩) ∧ w' = w := Any.strings_trimLeftByte Tryz.lays231 s c w
def Tryz.lays134_ren : Go.Shelf.Ren := ⟨fun | 134 => 233 | 129 => 225 | n => n, fun | 53 => 207 | 3 => 3 | 4 => 4 | 46 => 172 | 5 => 5 | 9 => 9 | n => n, fun | n => n⟩
theorem Tryz.lays134 : Go.Proofs.Lays.n134 Tryz.prog Tryz.lays134_ren := {
  mixed := by kernel_rfl
  f129 := Tryz.func225.trans (congrArg some (by kernel_rfl))
  f134 := Tryz.func233.trans (congrArg some (by kernel_rfl))
  t3 := Tryz.underlying3
  a3 := Tryz.isAgg3
  z3 := Tryz.sizeOf3
  v3 := Tryz.zeroValue3
  t4 := Tryz.underlying4
  a4 := Tryz.isAgg4
  z4 := Tryz.sizeOf4
  v4 := Tryz.zeroValue4
  t5 := Tryz.underlying5
  a5 := Tryz.isAgg5
  z5 := Tryz.sizeOf5
  v5 := Tryz.zeroValue5
  t9 := Tryz.underlying9
  a9 := Tryz.isAgg9
  z9 := Tryz.sizeOf9
  v9 := Tryz.zeroValue9
  t46 := Tryz.underlying172
  a46 := Tryz.isAgg172
  z46 := Tryz.sizeOf172
  v46 := Tryz.zeroValue172
  t53 := Tryz.underlying207
  a53 := Tryz.isAgg207
  z53 := Tryz.sizeOf207
  v53 := Tryz.zeroValue207 }
theorem Tryz.bits_LeadingZeros64 (x : Int) (w : World) (h0 : 0 ≤ x) (h1 : x ≤ 18446744073709551615) :
    Calls Tryz.prog 233 #[.int .u64 x] w fun e w' => e = .returned (.int .i64 (64 - (Lib.bitLen x.toNat : Int))) ∧ w' = w := Any.bits_LeadingZeros64 Tryz.lays134 x w h0 h1
def Tryz.lays137_ren : Go.Shelf.Ren := ⟨fun | 137 => 209 | 217 => 140 | 266 => 182 | n => n, fun | 9 => 9 | 5 => 5 | 3 => 3 | n => n, fun | n => n⟩
theorem Tryz.lays137 : Go.Proofs.Lays.n137 Tryz.prog Tryz.lays137_ren := {
  mixed := by kernel_rfl
  f137 := Tryz.func209.trans (congrArg some (by kernel_rfl))
  f217 := Tryz.func140.trans (congrArg some (by kernel_rfl))
  f266 := Tryz.func182.trans (congrArg some (by kernel_rfl))
  t3 := Tryz.underlying3
  a3 := Tryz.isAgg3
  z3 := Tryz.sizeOf3
  v3 := Tryz.zeroValue3
  t5 := Tryz.underlying5
  a5 := Tryz.isAgg5
  z5 := Tryz.sizeOf5
  v5 := Tryz.zeroValue5
  t9 := Tryz.underlying9
  a9 := Tryz.isAgg9
  z9 := Tryz.sizeOf9
  v9 := Tryz.zeroValue9 }
open Go.RowKit in
theorem Tryz.strings_IndexByte (s : ByteArray) (c : Int) (w : World) :
    Calls Tryz.prog 209 #[.string s, .int .u8 c] w fun e w' => e = .returned (.int .i64 (Lib.indexByte s.data.toList c.toNat.toUInt8)) ∧ w' = w := Any.strings_IndexByte Tryz.lays137 s c w
def Tryz.lays103_ren : Go.Shelf.Ren := ⟨fun | 103 => 70 | 210 => 103 | 206 => 144 | n => n, fun | 9 => 9 | 4 => 4 | 24 => 103 | 3 => 3 | n => n, fun | n => n⟩
theorem Tryz.lays103 : Go.Proofs.Lays.n103 Tryz.prog Tryz.lays103_ren := {
  mixed := by kernel_rfl
  f103 := Tryz.func70.trans (congrArg some (by kernel_rfl))
  f206 := Tryz.func144.trans (congrArg some (by kernel_rfl))
  f210 := Tryz.func103.trans (congrArg some (by kernel_rfl))
  t3 := Tryz.underlying3
  a3 := Tryz.isAgg3
  z3 := Tryz.sizeOf3
  v3 := Tryz.zeroValue3
  t4 := Tryz.underlying4
  a4 := Tryz.isAgg4
  z4 := Tryz.sizeOf4
  v4 := Tryz.zeroValue4
  t9 := Tryz.underlying9
  a9 := Tryz.isAgg9
  z9 := Tryz.sizeOf9
  v9 := Tryz.zeroValue9
  t24 := Tryz.underlying103
  a24 := Tryz.isAgg103
  z24 := Tryz.sizeOf103
  v24 := Tryz.zeroValue103 }
open Go.RowKit in
theorem Tryz.strings_CutPrefix (s p : ByteArray) (w : World) :
    Calls Tryz.prog 70 #[.string s, .string p] w fun e w' => e = .returned (.tuple #[.string ⟨(Lib.trimPrefix s.data.toList p.data.toList).toArray⟩, .bool (Lib.hasPrefix s.data.toList p.data.toList)]) ∧ w' = w := Any.strings_CutPrefix Tryz.lays103 s p w
open Go.RowKit in
theorem Tryz.Builder_String_any_k (B b : Nat) (l : List UInt8) (w : World) (h : Lib.IsBuilderF 146 5 B b (Lib.byteCells l) w) (hBw : B ≤ w.heap.size) :
    Calls Tryz.prog 112 #[.pointer (some ⟨b, 0, none⟩)] w fun e w' => e = .returned (.string ⟨l.toArray⟩) ∧ (Lib.IsBuilderF 146 5 B b (Lib.byteCells l) w' ∧ Below B w w' ∧ Lib.OthersKept 5 (some b) w w') := Any.Builder_String_any_k Tryz.lays169 Tryz.Builder_Extra_169 B b l w h hBw
def Tryz.laysM171_ren : Go.Shelf.Ren := ⟨fun | 171 => 154 | 243 => 190 | 246 => 212 | 283 => 218 | 284 => 219 | 285 => 220 | 286 => 221 | 129 => 225 | 317 => 224 | 318 => 226 | 319 => 227 | 320 => 228 | 337 => 231 | 338 => 232 | n => n, fun | 3 => 3 | 9 => 9 | 2 => 2 | 4 => 4 | 171 => 226 | 0 => 0 | 53 => 207 | 37 => 22 | 5 => 5 | 173 => 229 | 212 => 244 | 51 => 200 | 20 => 20 | 213 => 245 | 46 => 172 | 232 => 249 | 233 => 250 | n => n, fun | 17 => 5 | 18 => 8 | 19 => 9 | n => n⟩
theorem Tryz.laysM171 : Go.Proofs.LaysM.n171 Tryz.prog Tryz.laysM171_ren := {
  mixed := by kernel_rfl
  f129 := Tryz.func225.trans (congrArg some (by kernel_rfl))
  f171 := Tryz.func154.trans (congrArg some (by kernel_rfl))
  f243 := Tryz.func190.trans (congrArg some (by kernel_rfl))
  f246 := Tryz.func212.trans (congrArg some (by kernel_rfl))
  f283 := Tryz.func218.trans (congrArg some (by kernel_rfl))
  f284 := Tryz.func219.trans (congrArg some (by kernel_rfl))
  f285 := Tryz.func220.trans (congrArg some (by kernel_rfl))
  f286 := Tryz.func221.trans (congrArg some (by kernel_rfl))
  f317 := Tryz.func224.trans (congrArg some (by kernel_rfl))
  f318 := Tryz.func226.trans (congrArg some (by kernel_rfl))
  f319 := Tryz.func227.trans (congrArg some (by kernel_rfl))
  f320 := Tryz.func228.trans (congrArg some (by kernel_rfl))
  f337 := Tryz.func231.trans (congrArg some (by kernel_rfl))
  f338 := Tryz.func232.trans (congrArg some (by kernel_rfl))
  t0 := Tryz.underlying0
  a0 := Tryz.isAgg0
  z0 := Tryz.sizeOf0
  v0 := Tryz.zeroValue0
  t2 := Tryz.underlying2
  a2 := Tryz.isAgg2
  z2 := Tryz.sizeOf2
  v2 := Tryz.zeroValue2
  t3 := Tryz.underlying3
  a3 := Tryz.isAgg3
  z3 := Tryz.sizeOf3
  v3 := Tryz.zeroValue3
  t4 := Tryz.underlying4
  a4 := Tryz.isAgg4
  z4 := Tryz.sizeOf4
  v4 := Tryz.zeroValue4
  t5 := Tryz.underlying5
  a5 := Tryz.isAgg5
  z5 := Tryz.sizeOf5
  v5 := Tryz.zeroValue5
  t9 := Tryz.underlying9
  a9 := Tryz.isAgg9
  z9 := Tryz.sizeOf9
  v9 := Tryz.zeroValue9
  t20 := Tryz.underlying20
  a20 := Tryz.isAgg20
  z20 := Tryz.sizeOf20
  v20 := Tryz.zeroValue20
  t37 := Tryz.underlying22
  a37 := Tryz.isAgg22
  z37 := Tryz.sizeOf22
  v37 := Tryz.zeroValue22
  t46 := Tryz.underlying172
  a46 := Tryz.isAgg172
  z46 := Tryz.sizeOf172
  v46 := Tryz.zeroValue172
  t51 := Tryz.underlying200
  a51 := Tryz.isAgg200
  z51 := Tryz.sizeOf200
  v51 := Tryz.zeroValue200
  t53 := Tryz.underlying207
  a53 := Tryz.isAgg207
  z53 := Tryz.sizeOf207
  v53 := Tryz.zeroValue207
  t171 := Tryz.underlying226
  a171 := Tryz.isAgg226
  z171 := Tryz.sizeOf226
  v171 := Tryz.zeroValue226
  t173 := Tryz.underlying229
  a173 := Tryz.isAgg229
  z173 := Tryz.sizeOf229
  v173 := Tryz.zeroValue229
  t212 := Tryz.underlying244
  a212 := Tryz.isAgg244
  z212 := Tryz.sizeOf244
  v212 := Tryz.zeroValue244
  t213 := Tryz.underlying245
  a213 := Tryz.isAgg245
  z213 := Tryz.sizeOf245
  t232 := Tryz.underlying249
  a232 := Tryz.isAgg249
  z232 := Tryz.sizeOf249
  v232 := Tryz.zeroValue249
  t233 := Tryz.underlying250
  a233 := Tryz.isAgg250
  z233 := Tryz.sizeOf250
  v233 := Tryz.zeroValue250
  g17 := by kernel_rfl
  g18 := by kernel_rfl
  g19 := by kernel_rfl
  i0 := by kernel_rfl
  i2 := by kernel_rfl
  i3 := by kernel_rfl
  i4 := by kernel_rfl
  i5 := by kernel_rfl
  i9 := by kernel_rfl
  i20 := by kernel_rfl
  i37 := by kernel_rfl
  i46 := by kernel_rfl
  i51 := by kernel_rfl
  i53 := by kernel_rfl
  i171 := by kernel_rfl
  i173 := by kernel_rfl
  i212 := by kernel_rfl
  i232 := by kernel_rfl
  i233 := by kernel_rfl
  m17 := by kernel_rfl
  m18 := by kernel_rfl
  m19 := by kernel_rfl }
open Go.RowKit Go.Sort Go.Lib in
theorem Tryz.strconv_Itoa (n : Int) (h0 : -9223372036854775808 ≤ n) (h1 : n ≤ 9223372036854775807) (w : World) (htab : Lib.TabIs Tryz.prog w "internal/strconv.uint64pow10" .u64 Lib.pow10Tab) :
    Calls Tryz.prog 154 #[.int .i64 n] w fun e w' => e = .returned (.string ⟨(Lib.itoa n).toArray⟩) ∧ ∃ k os, w' = grow (w.drewN k) os := Any.strconv_Itoa Tryz.laysM171 n h0 h1 w htab
def Tryz.lays219_ren : Go.Shelf.Ren := ⟨fun | 219 => 102 | 217 => 140 | 225 => 141 | 224 => 142 | 267 => 143 | 266 => 182 | 314 => 183 | n => n, fun | 9 => 9 | 3 => 3 | 4 => 4 | 5 => 5 | 46 => 172 | 146 => 201 | 51 => 200 | n => n, fun | 1 => 1 | n => n⟩
theorem Tryz.lays219 : Go.Proofs.Lays.n219 Tryz.prog Tryz.lays219_ren := {
  mixed := by kernel_rfl
  f217 := Tryz.func140.trans (congrArg some (by kernel_rfl))
  f219 := Tryz.func102.trans (congrArg some (by kernel_rfl))
  f224 := Tryz.func142.trans (congrArg some (by kernel_rfl))
  f225 := Tryz.func141.trans (congrArg some (by kernel_rfl))
  f266 := Tryz.func182.trans (congrArg some (by kernel_rfl))
  f267 := Tryz.func143.trans (congrArg some (by kernel_rfl))
  f314 := Tryz.func183.trans (congrArg some (by kernel_rfl))
  t3 := Tryz.underlying3
  a3 := Tryz.isAgg3
  z3 := Tryz.sizeOf3
  v3 := Tryz.zeroValue3
  t4 := Tryz.underlying4
  a4 := Tryz.isAgg4
  z4 := Tryz.sizeOf4
  v4 := Tryz.zeroValue4
  t5 := Tryz.underlying5
  a5 := Tryz.isAgg5
  z5 := Tryz.sizeOf5
  v5 := Tryz.zeroValue5
  t9 := Tryz.underlying9
  a9 := Tryz.isAgg9
  z9 := Tryz.sizeOf9
  v9 := Tryz.zeroValue9
  t46 := Tryz.underlying172
  a46 := Tryz.isAgg172
  z46 := Tryz.sizeOf172
  v46 := Tryz.zeroValue172
  t51 := Tryz.underlying200
  a51 := Tryz.isAgg200
  z51 := Tryz.sizeOf200
  v51 := Tryz.zeroValue200
  t146 := Tryz.underlying201
  a146 := Tryz.isAgg201
  z146 := Tryz.sizeOf201
  v146 := Tryz.zeroValue201
  g1 := by kernel_rfl }
open Go.RowKit Go.Lib in
theorem Tryz.stringslite_Index_one (s : ByteArray) (c : UInt8) (w : World) :
    Calls Tryz.prog 102 #[.string s, .string ⟨#[c]⟩] w fun e w' => e = .returned (.int .i64 (Lib.indexByte s.data.toList c)) ∧ w' = w := Any.stringslite_Index_one Tryz.lays219 s c w
def Tryz.lays264_ren : Go.Shelf.Ren := ⟨fun | 264 => 188 | n => n, fun | 53 => 207 | 46 => 172 | n => n, fun | n => n⟩
theorem Tryz.lays264 : Go.Proofs.Lays.n264 Tryz.prog Tryz.lays264_ren := {
  mixed := by kernel_rfl
  f264 := Tryz.func188.trans (congrArg some (by kernel_rfl))
  t46 := Tryz.underlying172
  a46 := Tryz.isAgg172
  z46 := Tryz.sizeOf172
  v46 := Tryz.zeroValue172
  t53 := Tryz.underlying207
  a53 := Tryz.isAgg207
  z53 := Tryz.sizeOf207
  v53 := Tryz.zeroValue207 }
open Go.RowKit Go.Lib in
theorem Tryz.bits_Mul64 (x y : Nat) (hx : x < 18446744073709551616) (hy : y < 18446744073709551616) (w : World) :
    Calls Tryz.prog 188 #[.int .u64 x, .int .u64 y] w fun e w' => e = .returned (.tuple #[.int .u64 ((x * y / 18446744073709551616 : Nat) : Int), .int .u64 ((x * y % 18446744073709551616 : Nat) : Int)]) ∧ w' = w := Any.bits_Mul64 Tryz.lays264 x y hx hy w
def Tryz.lays105_ren : Go.Shelf.Ren := ⟨fun | 105 => 113 | 212 => 150 | 99 => 151 | 165 => 152 | 166 => 111 | 170 => 153 | 169 => 112 | 263 => 187 | 264 => 188 | 206 => 144 | 240 => 149 | 241 => 189 | 276 => 186 | 277 => 211 | n => n, fun | 9 => 9 | 3 => 3 | 4 => 4 | 20 => 20 | 0 => 0 | 46 => 172 | 109 => 183 | 5 => 5 | 72 => 146 | 76 => 149 | 51 => 200 | 146 => 201 | 53 => 207 | 148 => 208 | 70 => 144 | 37 => 22 | 75 => 148 | 127 => 182 | 164 => 204 | 80 => 151 | n => n, fun | n => n⟩
theorem Tryz.lays105 : Go.Proofs.Lays.n105 Tryz.prog Tryz.lays105_ren := {
  mixed := by kernel_rfl
  f99 := Tryz.func151.trans (congrArg some (by kernel_rfl))
  f105 := Tryz.func113.trans (congrArg some (by kernel_rfl))
  f165 := Tryz.func152.trans (congrArg some (by kernel_rfl))
  f166 := Tryz.func111.trans (congrArg some (by kernel_rfl))
  f169 := Tryz.func112.trans (congrArg some (by kernel_rfl))
  f170 := Tryz.func153.trans (congrArg some (by kernel_rfl))
  f206 := Tryz.func144.trans (congrArg some (by kernel_rfl))
  f212 := Tryz.func150.trans (congrArg some (by kernel_rfl))
  f240 := Tryz.func149.trans (congrArg some (by kernel_rfl))
  f241 := Tryz.func189.trans (congrArg some (by kernel_rfl))
  f263 := Tryz.func187.trans (congrArg some (by kernel_rfl))
  f264 := Tryz.func188.trans (congrArg some (by kernel_rfl))
  f276 := Tryz.func186.trans (congrArg some (by kernel_rfl))
  f277 := Tryz.func211.trans (congrArg some (by kernel_rfl))
  t0 := Tryz.underlying0
  a0 := Tryz.isAgg0
  z0 := Tryz.sizeOf0
  v0 := Tryz.zeroValue0
  t3 := Tryz.underlying3
  a3 := Tryz.isAgg3
  z3 := Tryz.sizeOf3
  v3 := Tryz.zeroValue3
  t4 := Tryz.underlying4
  a4 := Tryz.isAgg4
  z4 := Tryz.sizeOf4
  v4 := Tryz.zeroValue4
  t5 := Tryz.underlying5
  a5 := Tryz.isAgg5
  z5 := Tryz.sizeOf5
  v5 := Tryz.zeroValue5
  t9 := Tryz.underlying9
  a9 := Tryz.isAgg9
  z9 := Tryz.sizeOf9
  v9 := Tryz.zeroValue9
  t20 := Tryz.underlying20
  a20 := Tryz.isAgg20
  z20 := Tryz.sizeOf20
  v20 := Tryz.zeroValue20
  t37 := Tryz.underlying22
  a37 := Tryz.isAgg22
  z37 := Tryz.sizeOf22
  v37 := Tryz.zeroValue22
  t46 := Tryz.underlying172
  a46 := Tryz.isAgg172
  z46 := Tryz.sizeOf172
  v46 := Tryz.zeroValue172
  t51 := Tryz.underlying200
  a51 := Tryz.isAgg200
  z51 := Tryz.sizeOf200
  v51 := Tryz.zeroValue200
  t53 := Tryz.underlying207
  a53 := Tryz.isAgg207
  z53 := Tryz.sizeOf207
  v53 := Tryz.zeroValue207
  t70 := Tryz.underlying144
  a70 := Tryz.isAgg144
  z70 := Tryz.sizeOf144
  v70 := Tryz.zeroValue144
  t72 := Tryz.underlying146
  a72 := Tryz.isAgg146
  z72 := Tryz.sizeOf146
  v72 := Tryz.zeroValue146
  t75 := Tryz.underlying148
  a75 := Tryz.isAgg148
  z75 := Tryz.sizeOf148
  v75 := Tryz.zeroValue148
  t76 := Tryz.underlying149
  a76 := Tryz.isAgg149
  z76 := Tryz.sizeOf149
  v76 := Tryz.zeroValue149
  t109 := Tryz.underlying183
  a109 := Tryz.isAgg183
  z109 := Tryz.sizeOf183
  v109 := Tryz.zeroValue183
  t127 := Tryz.underlying182
  a127 := Tryz.isAgg182
  z127 := Tryz.sizeOf182
  v127 := Tryz.zeroValue182
  t146 := Tryz.underlying201
  a146 := Tryz.isAgg201
  z146 := Tryz.sizeOf201
  v146 := Tryz.zeroValue201
  t148 := Tryz.underlying208
  a148 := Tryz.isAgg208
  z148 := Tryz.sizeOf208
  v148 := Tryz.zeroValue208
  t164 := Tryz.underlying204
  a164 := Tryz.isAgg204
  z164 := Tryz.sizeOf204
  v164 := Tryz.zeroValue204 }
theorem Tryz.Builder_Extra_105 : Builder.Extra Tryz.prog Tryz.lays105_ren := {
  sizeBuilder := by kernel_rfl
  liesBuilder := by kernel_rfl
  t5 := Tryz.underlying5
  a5 := Tryz.isAgg5
  z5 := Tryz.sizeOf5
  v5 := Tryz.zeroValue5
  infoByte := by kernel_rfl
  cellsByte := by kernel_rfl
  sizeByte := by kernel_rfl
  neB5 := by decide }
open Go.RowKit Go.Lib in
theorem Tryz.strings_Repeat (s : ByteArray) (c : Nat) (w : World) (hc : c ≤ 9223372036854775807) (hlen : s.size * c ≤ 140737488355328) :
    Calls Tryz.prog 113 #[.string s, .int .i64 c] w fun e w' => e = .returned (.string ⟨(Lib.repeatL s.data.toList c).toArray⟩) ∧ Below w.heap.size w w' := Any.strings_Repeat Tryz.lays105 Tryz.Builder_Extra_105 s c w hc hlen
end Go.Proofs

namespace Go.Proofs.YtcenmdiblbooeaaGreatDoor
open Go.RowKit

/-- the decimal numeral of an int -/
def numB (n : Int) : ByteArray := ⟨(Lib.itoa n).toArray⟩
/-- one byte as a text -/
def byteB (c : Int) : ByteArray := ⟨#[UInt8.ofNat c.toNat]⟩

/-- string([]byte{c}), the cell known -/
theorem conv_cell (W : World) (b : Nat) (c : Int) (h : W.cell? ⟨b, 0, none⟩ = some (.int .u8 c)) : (convert 22 9 (.slice (some ⟨b, 0, none⟩) 1 1)).run Tryz.prog W = .ok (.string (byteB c)) W := by
  rw [run_convert_bytes_string _ 22 9 5 _ _ _ Tryz.underlying22 Tryz.underlying5 Tryz.underlying9]
  rw [run_bytesToString _ _ 1 1 [c] ?_]
  · rfl
  · simp [loadCells, loadCellsFrom, go_sem, Addr.add, h]

theorem dec_small (u : Nat) (h : u < 10) : Lib.decDigits u = [UInt8.ofNat (48 + u)] := by rw [Lib.decDigits, dif_pos h]
theorem dec_big (u : Nat) (h : ¬ u < 10) : Lib.decDigits u = Lib.decDigits (u / 10) ++ [UInt8.ofNat (48 + u % 10)] := by rw [Lib.decDigits, dif_neg h]
theorem num_neg_small (n : Int) (h : n < 0) (h1 : -10 < n) : (⟨#[45]⟩ : ByteArray) ++ byteB (48 - n) = numB n := by
  unfold numB byteB Lib.itoa
  rw [if_pos h, dec_small _ (by omega), show (48 - n).toNat = 48 + n.natAbs from by omega]
  apply ByteArray.ext
  simp
theorem num_neg_big (n : Int) (h : n ≤ -10) : numB (n.tdiv 10) ++ byteB (48 - n.tmod 10) = numB n := by
  have hq : n.tdiv 10 = -((n.natAbs / 10 : Nat) : Int) := by
    obtain ⟨m, rfl⟩ : ∃ m : Nat, n = -(m : Int) := ⟨n.natAbs, by omega⟩
    rw [Int.neg_tdiv, Int.natAbs_neg, Int.natAbs_natCast]
    rfl
  have hr : n.tmod 10 = -((n.natAbs % 10 : Nat) : Int) := by
    obtain ⟨m, rfl⟩ : ∃ m : Nat, n = -(m : Int) := ⟨n.natAbs, by omega⟩
    rw [Int.neg_tmod, Int.natAbs_neg, Int.natAbs_natCast]
    rfl
  unfold numB byteB Lib.itoa
  rw [hq, hr, if_pos (by omega), if_pos (by omega), dec_big n.natAbs (by omega), show (48 - -((n.natAbs % 10 : Nat) : Int)).toNat = 48 + n.natAbs % 10 from by omega, show (-((n.natAbs / 10 : Nat) : Int)).natAbs = n.natAbs / 10 from by omega]
  apply ByteArray.ext
  simp
theorem numB_size (n : Int) (k : Nat) (h : n.natAbs < 10 ^ (k + 1)) : (numB n).size ≤ k + 2 := by
  have hd : ∀ (k u : Nat), u < 10 ^ (k + 1) → (Lib.decDigits u).length ≤ k + 1 := by
    intro k
    induction k with
    | zero => intro u hu; rw [dec_small u (by simpa using hu)]; simp
    | succ k ih =>
      intro u hu
      by_cases hs : u < 10
      · rw [dec_small u hs]; simp
      · rw [dec_big u hs, List.length_append]
        have := ih (u / 10) (by rw [Nat.pow_succ] at hu; omega)
        simp; omega
  have e : (numB n).size = (Lib.itoa n).length := rfl
  rw [e]
  unfold Lib.itoa
  split
  · have := hd k n.natAbs h; simp; omega
  · have := hd k n.toNat (by omega); omega

theorem quo_small (n : Int) (h : n < 0) (h1 : -10 < n) : (n.tdiv 10 == 0) = true := by
  rw [beq_iff_eq]
  obtain ⟨m, rfl⟩ : ∃ m : Nat, n = -(m : Int) := ⟨n.natAbs, by omega⟩
  rw [Int.neg_tdiv, Int.tdiv_eq_zero_of_lt (by omega) (by omega)]
  rfl
theorem quo_rem (n : Int) (h : n ≤ 0) : n.tdiv 10 * 10 + n.tmod 10 = n ∧ -9 ≤ n.tmod 10 ∧ n.tmod 10 ≤ 0 := by
  obtain ⟨m, rfl⟩ : ∃ m : Nat, n = -(m : Int) := ⟨n.natAbs, by omega⟩
  have hq : (-(m : Int)).tdiv 10 = -((m / 10 : Nat) : Int) := by rw [Int.neg_tdiv]; rfl
  have hr : (-(m : Int)).tmod 10 = -((m % 10 : Nat) : Int) := by rw [Int.neg_tmod]; rfl
  rw [hq, hr]
  omega

set_option maxHeartbeats 400000 in
set_option maxRecDepth 100000 in
theorem specIntText_negSmall (n : Int) (w : World) (hn : n < 0) (hp : -10 < n) :
    Calls Tryz.prog 161 #[.int .i64 n] w fun e w' => e = .returned (.string (numB n)) ∧ Below w.heap.size w w' := by
  have hcv := conv_cell
  have hq := quo_small n hn hp
  go_enter Tryz.func161, Tryz.ntmps161
  go_wp2
  go_ret
  exact ⟨ret_str (num_neg_small n hn hp), (Below.refl _ _).alloc (Nat.le_refl _) _⟩

set_option maxHeartbeats 1000000 in
set_option maxRecDepth 100000 in
theorem specIntText_neg (k : Nat) : ∀ (n : Int) (w : World), k ≤ 18 → n < 0 → n.natAbs < 10 ^ (k + 1) → -9223372036854775808 ≤ n →
    Calls Tryz.prog 161 #[.int .i64 n] w fun e w' => e = .returned (.string (numB n)) ∧ Below w.heap.size w w' := by
  induction k with
  | zero =>
    intro n w hk hn hp hl
    exact specIntText_negSmall n w hn (by simp at hp; omega)
  | succ k ih =>
    intro n w hk hn hp hl
    have IH := Lib.hid ih
    clear ih
    by_cases hs : -10 < n
    · exact specIntText_negSmall n w hn hs
    · have hcv := conv_cell
      have hqr := quo_rem n (by omega)
      have HF := Lib.hid (num_neg_big n (by omega))
      have hq : (n.tdiv 10 == 0) = false := by rw [beq_eq_false_iff_ne]; omega
      have hpq : (n.tdiv 10).natAbs < 10 ^ (k + 1) := by rw [Nat.pow_succ] at hp; omega
      have hsz := numB_size _ k hpq
      have HC := Lib.hid (fun w' : World => IH.out (n.tdiv 10) w' (by omega) (by omega) hpq (by omega))
      have hbs : ∀ c : Int, (byteB c).size = 1 := fun _ => rfl
      have hcat : ¬ 9223372036854775807 < (numB (n.tdiv 10)).size + 1 := by omega
      have hw1 : IntKind.i64.wrap (n.tdiv 10) = n.tdiv 10 := IntWalk.i64_in _ (by omega)
      have hw2 : IntKind.i64.wrap (n.tmod 10) = n.tmod 10 := IntWalk.i64_in _ (by omega)
      have hw3 : IntKind.i64.wrap (48 - n.tmod 10) = 48 - n.tmod 10 := IntWalk.i64_in _ (by omega)
      have hw4 : IntKind.u8.wrap (48 - n.tmod 10) = 48 - n.tmod 10 := by rw [IntKind.wrap_u8]; omega
      clear hp hpq IH
      go_enter Tryz.func161, Tryz.ntmps161
      go_wp2
      go_region_with (go_at_call 161; refine (HC.out _).mono ?_; rintro e w1 ⟨rfl, hb1⟩; obtain ⟨hc1, hf1⟩ := below_rules hb1)
      all_goals go_wp2
      all_goals go_ret
      all_goals refine ⟨ret_str HF.out, ?_⟩
      all_goals first
        | exact (Below.next (Below.refl _ w).drew hb1).alloc hb1.size _
        | exact Below.next ((Below.refl _ w).drew.alloc (Nat.le_refl _) _) hb1
        | exact Below.next ((Below.refl _ w).alloc (Nat.le_refl _) _).drew hb1

/-- the digits of m ahead of what has been written -/
theorem pos_step (m : Nat) (acc : List UInt8) (h : ¬ m < 10) : Lib.decDigits m ++ acc = Lib.decDigits (m / 10) ++ (UInt8.ofNat (48 + m % 10) :: acc) := by
  rw [dec_big m h, List.append_assoc]
  rfl
theorem byte_app (m : Nat) (acc : List UInt8) : byteB (48 + (m : Int) % 10) ++ (⟨acc.toArray⟩ : ByteArray) = ⟨(UInt8.ofNat (48 + m % 10) :: acc).toArray⟩ := by
  unfold byteB
  rw [show (48 + (m : Int) % 10).toNat = 48 + m % 10 from by omega]
  apply ByteArray.ext
  simp
theorem pos_last (n m : Nat) (acc : List UInt8) (h : m < 10) (hd : Lib.decDigits m ++ acc = Lib.decDigits n) : byteB (48 + (m : Int)) ++ (⟨acc.toArray⟩ : ByteArray) = numB n := by
  unfold byteB numB Lib.itoa
  rw [if_neg (by omega), Int.toNat_natCast, ← hd, dec_small m h, show (48 + (m : Int)).toNat = 48 + m from by omega]
  apply ByteArray.ext
  simp

set_option maxHeartbeats 400000 in
set_option maxRecDepth 100000 in
theorem specIntText_pos (n : Nat) (w : World) (hn : n ≤ 9223372036854775807) :
    Calls Tryz.prog 161 #[.int .i64 n] w fun e w' => e = .returned (.string (numB n)) ∧ Below w.heap.size w w' := by
  have hcv := conv_cell
  have hbs : ∀ c : Int, (byteB c).size = 1 := fun _ => rfl
  have hn0 : ¬ (n : Int) < 0 := by omega
  go_enter Tryz.func161, Tryz.ntmps161
  go_wp2
  go_loopw [0, 3] (fun a o wr => ∃ (m f : Nat) (acc : List UInt8), m < 10 ^ f ∧ acc.length + f ≤ 19 ∧ m ≤ 9223372036854775807 ∧ a = .int .i64 m ∧ o = .string ⟨acc.toArray⟩ ∧ Hid (Lib.decDigits m ++ acc = Lib.decDigits n) ∧ Below w.heap.size w wr) (fun a _ _ => (intOf a).toNat)
  case atStart => exact ⟨n, 19, [], by omega, by simp, by omega, rfl, rfl, Lib.hid (List.append_nil _), Below.refl _ _⟩
  case round =>
    obtain ⟨m, f, acc, hf, hl, hm, rfl, rfl, HD, hb⟩ := hrel
    by_cases hs : m < 10
    · go_wp2
      go_ret
      exact ⟨ret_str (pos_last n m acc hs HD.out), hb.alloc hb.size _⟩
    · have HS := Lib.hid ((pos_step m acc hs).symm.trans HD.out)
      obtain ⟨g, rfl⟩ : ∃ g, f = g + 1 := by
        cases f with
        | zero => simp at hf; omega
        | succ g => exact ⟨g, rfl⟩
      have hg : m / 10 < 10 ^ g := by rw [Nat.pow_succ] at hf; omega
      clear hf
      go_wp2
      go_roundw
      case rel => exact ⟨m / 10, g, _, hg, by simp; omega, by omega, by go_num, by rw [byte_app], HS, hb.alloc hb.size _⟩
      case measure => simp [intOf]; omega

theorem specIntText_any (n : Int) (w : World) (h0 : -9223372036854775808 ≤ n) (h1 : n ≤ 9223372036854775807) :
    Calls Tryz.prog 161 #[.int .i64 n] w fun e w' => e = .returned (.string (numB n)) ∧ Below w.heap.size w w' := by
  by_cases h : n < 0
  · exact specIntText_neg 18 n w (by omega) h (by omega) h0
  · obtain ⟨m, rfl⟩ := Int.eq_ofNat_of_zero_le (show 0 ≤ n by omega)
    exact specIntText_pos m w (by omega)

/-- the table that the library reads is at hand -/
def Tab (w : World) : Prop := Lib.TabIs Tryz.prog w "internal/strconv.uint64pow10" .u64 Lib.pow10Tab
theorem powGlobal : Tryz.prog.globalNamed "internal/strconv.uint64pow10" = some 5 := by kernel_rfl
theorem Tab.lt {w : World} (h : Tab w) : 5 < w.heap.size := by
  unfold Tab Lib.TabIs World.var? at h
  rw [powGlobal] at h
  simp only [Option.bind_some] at h
  split at h
  · rename_i hh; exact (Array.getElem?_eq_some_iff.1 hh).1
  · cases h
theorem Tab.below {w w' : World} (h : Tab w) (hb : Below w.heap.size w w') : Tab w' := by
  have hl := h.lt
  unfold Tab Lib.TabIs World.var? at h ⊢
  rw [powGlobal] at h ⊢
  simp only [Option.bind_some] at h ⊢
  rw [hb.block _ hl]
  exact h
theorem Tab.drewN {w : World} (h : Tab w) (n : Nat) : Tab (w.drewN n) := h

theorem below_grow (w : World) (k : Nat) (os : Array Obj) : Below w.heap.size w (Sort.grow (w.drewN k) os) :=
  ⟨rfl, rfl, rfl, by show w.heap.size ≤ (w.heap ++ os).size; simp, fun i hi => by show (w.heap ++ os)[i]? = _; rw [Array.getElem?_append_left hi]⟩

theorem itoa_any (n : Int) (w : World) (h0 : -9223372036854775808 ≤ n) (h1 : n ≤ 9223372036854775807) (ht : Tab w) :
    Calls Tryz.prog 154 #[.int .i64 n] w fun e w' => e = .returned (.string (numB n)) ∧ Below w.heap.size w w' := by
  refine (Tryz.strconv_Itoa n h0 h1 w ht).mono ?_
  rintro e w' ⟨rfl, k, os, rfl⟩
  exact ⟨rfl, below_grow w k os⟩

set_option maxHeartbeats 400000 in
set_option maxRecDepth 100000 in
theorem implIntText_any (n : Int) (w : World) (h0 : -9223372036854775808 ≤ n) (h1 : n ≤ 9223372036854775807) (ht : Tab w) :
    Calls Tryz.prog 114 #[.int .i64 n] w fun e w' => e = .returned (.string (numB n)) ∧ Below w.heap.size w w' := by
  go_enter Tryz.func114, Tryz.ntmps114
  go_wp2_with fail
  refine (itoa_any n _ h0 h1 ht).mono ?_
  rintro e w1 ⟨rfl, hb⟩
  go_wp2
  go_ret
  exact ⟨rfl, hb⟩
end Go.Proofs.YtcenmdiblbooeaaGreatDoor

namespace Go.Proofs.YtcenmdiblbooeaaGreatDoor
open Go.ChangeShapes Go.WideShapes Go.ChangeAt Go.RowKit

/-- the three tables, as the rows list them -/
abbrev laid3 : List (String × DataW Unit) := [("math/bits.deBruijn32tab", Rows.laid_math_bits_deBruijn32tab), ("math/bits.deBruijn64tab", Rows.laid_math_bits_deBruijn64tab), ("internal/strconv.uint64pow10", Rows.laid_internal_strconv_uint64pow10)]
theorem powType : (Tryz.prog.globals[5]?).map (·.type) = some 244 := by kernel_rfl
theorem powCells : Tryz.prog.cellsOf 244 = 20 := by kernel_rfl
theorem u64Cells : Tryz.prog.cellsOf 207 = 1 := by kernel_rfl
theorem powData : (Rows.laid_internal_strconv_uint64pow10 : DataW Unit) = Lib.tabData .u64 Lib.pow10Tab := by kernel_rfl

theorem tab_of {W : World} (h : laidMetH Tryz.prog laid3 W) : Tab W := by
  obtain ⟨ps, ⟨_, _, _, _, _, _, _, _, _, _, ⟨_, _, _, _, _, _, _, _, _, _, ⟨g3, t3, cs3, fuel3, p3, q3, hg3, ht3, hvar3, hd3, _, _⟩, _⟩, _⟩, _⟩ := (show laidMet Tryz.prog laid3 W from h)
  obtain rfl := Option.some.inj (powGlobal.symm.trans hg3)
  obtain rfl := Option.some.inj (powType.symm.trans ht3)
  rw [powData] at hd3
  unfold Tab Lib.TabIs
  rw [hvar3, ← Lib.cells_of_tab Tryz.underlying244 Tryz.underlying207 u64Cells powCells hd3]

/-- a world for the witness: the settled one, the tables holding what their initialisers lay -/
def tabCells (k : IntKind) : List (DataW Unit) → List Value
  | .lit (.int _ z) :: r => .int k z :: tabCells k r
  | _ => []
def aggOf : DataW Unit → List (DataW Unit)
  | .agg l => l
  | _ => []
def putCells (cs : Array Value) : Obj → Obj
  | .cells _ t frozen => .cells cs t frozen
  | o => o
noncomputable def laidWorld (os : Os) : World :=
  { World.holding Tryz.prog os ⟨#[], #[], []⟩ with heap := (((World.holding Tryz.prog os ⟨#[], #[], []⟩).heap.modify 8 (putCells (tabCells .u8 (aggOf Rows.laid_math_bits_deBruijn32tab)).toArray)).modify 9 (putCells (tabCells .u8 (aggOf Rows.laid_math_bits_deBruijn64tab)).toArray)).modify 5 (putCells (tabCells .u64 (aggOf Rows.laid_internal_strconv_uint64pow10)).toArray) }

set_option maxRecDepth 100000 in
/-- from the walk at every argument, the table at hand, to the lifted row -/
theorem law_lifted_laid {H : Type} {enc : TypeId × Value → H} {os : Os} (started : os.Started) {F : Stop.Interp} {f : FuncId} {fn : Func} {s : ChangeSpec} {conds : List PathCond} {tb : TypeId}
    (noInit : Tryz.prog.inits.idxOf? f = none) (hfun : Tryz.prog.funcs[f]? = some fn)
    (hr : legible Tryz.prog fn.params.toList = true) (hty : fn.resultTypes = #[tb]) (htb : Tryz.prog.underlying tb = some .bool) (hvars : s.vars = [])
    (witness : ∃ (w : World) (tape : Tape) (i : Input), w.os = os ∧ (w.forCall tape i).Shaped Tryz.checked.prog ∧ i.vars = [] ∧ Input.okWide Tryz.checked.prog (w.forCall tape i) .any w.heap.size f i ∧
      (OpenSpec.ofChange s).preRow enc Tryz.checked.prog fn conds false laid3 (w.forCall tape i).memory i.args ∧ Assume.holds {} Tryz.checked.prog (lone (Frame.enter Tryz.checked.prog f i.args .normal) [] (w.forCall tape i)))
    (walk : ∀ (W : World) (base : Nat) (args : Array Value) (ds : List (DataW H)) (p : List MemPlace),
      (∀ (j : Nat) t v, fn.params[j]? = some t → args[j]? = some v → Value.okWide Tryz.prog W .any base t v) →
      DataW.TrodAll enc Tryz.prog W 0 (fun _ => true) true fn.params.toList args.toList ds p → (∀ x ∈ p, x.block < W.heap.size) → Tab W →
      s.fn H ds = { results := [.lit (.bool true)], args := ds } ∧ Calls Tryz.prog f args W fun e W' => e = .returned (.bool true) ∧ Below W.heap.size W W') :
    ReturnsInHanded {} Tryz.checked os f .any ((OpenSpec.ofChange s).preRow enc Tryz.prog fn conds false laid3) (((OpenSpec.ofChange s).at F).post enc Tryz.prog fn false true false false) := by
  refine returnsInHanded_of_row (C := Tryz.checked) (s := OpenSpec.ofChange s) Tryz.own started noInit hfun witness ?_
  intro W base args ds gs before hval hW0 _ _ _ hL _ _
  have hW : DataW.Whole enc Tryz.prog fn.params.toList s.vars false W args.toList ds gs before := hW0
  have hW' := hW
  obtain ⟨p, q, hA, hV, rfl, _, _⟩ := hW
  rw [hvars] at hV
  obtain ⟨rfl, rfl⟩ := trodVars_none hV
  obtain ⟨hfn, hc⟩ := walk W base args ds p hval hA (fun x hx => hW'.lt x (by simpa using hx)) (tab_of hL)
  refine hc.mono fun e W' ⟨he, hb⟩ => ?_
  subst he
  exact ⟨_, rfl, law_post Tryz.laidOut hr hty htb hvars hfn hW' hb⟩
end Go.Proofs.YtcenmdiblbooeaaGreatDoor

namespace Go.Proofs.YtcenmdiblbooeaaGreatDoor
open Go.ChangeShapes Go.WideShapes Go.ChangeAt Go.RowKit

theorem tab_any {l : List (String × DataW Unit)} {W : World} (h : laidMet Tryz.prog l W) (hm : ("internal/strconv.uint64pow10", (Rows.laid_internal_strconv_uint64pow10 : DataW Unit)) ∈ l) : Tab W := by
  obtain ⟨g, t, cs, fuel, p, hg, ht, hvar, hd⟩ := Lib.laidMet.reads h hm
  obtain rfl := Option.some.inj (powGlobal.symm.trans hg)
  obtain rfl := Option.some.inj (powType.symm.trans ht)
  rw [powData] at hd
  unfold Tab Lib.TabIs
  rw [hvar, ← Lib.cells_of_tab Tryz.underlying244 Tryz.underlying207 u64Cells powCells hd]
noncomputable def curLaidWorld (os : Os) : World :=
  { laidWorld os with heap := (laidWorld os).heap.modify 0 (putC (cellsT implT).toArray) }
noncomputable def curUtfWorld (os : Os) : World :=
  { curLaidWorld os with heap := ((curLaidWorld os).heap.modify 4 (putCells ((aggOf Rows.laid_unicode_utf8_acceptRanges).flatMap fun x => tabCells .u8 (aggOf x)).toArray)).modify 3 (putCells (tabCells .u8 (aggOf Rows.laid_unicode_utf8_first)).toArray) }
end Go.Proofs.YtcenmdiblbooeaaGreatDoor

namespace Go.Proofs.YtcenmdiblbooeaaGreatDoor
open Go.RowKit

/-- ints as cells -/
def intsV (xs : List Int) : List Value := xs.map (Value.int .i64)
theorem intsV_length (xs : List Int) : (intsV xs).length = xs.length := by simp [intsV]
theorem intsV_at (xs : List Int) (k : Nat) (h : k < xs.length) : (intsV xs)[k]? = some (.int .i64 xs[k]) := by simp [intsV, h]

theorem take_same_succ {α : Type} {ss ts : List α} {k : Nat} (h : ss.take k = ts.take k) (h1 : k < ss.length) (h2 : k < ts.length) (e : ss[k] = ts[k]) : ss.take (k + 1) = ts.take (k + 1) := by
  rw [List.take_succ_eq_append_getElem h1, List.take_succ_eq_append_getElem h2, h, e]
theorem ne_of_at {α : Type} {ss ts : List α} {k : Nat} (h1 : k < ss.length) (h2 : k < ts.length) (e : ¬ ss[k] = ts[k]) : ¬ ss = ts := by
  intro h
  subst h
  exact e rfl
theorem same_of_takes {α : Type} {ss ts : List α} {k : Nat} (h : ss.take k = ts.take k) (hl : ss.length = ts.length) (hk : ¬ k < ss.length) : ss = ts := by
  rwa [List.take_of_length_le (by omega), List.take_of_length_le (by omega)] at h

set_option maxHeartbeats 400000 in
set_option maxRecDepth 100000 in
theorem eqIntS_any (va vb : Value) (ss ts : List Int) (la ha lb hb : Nat) (w : World) (hl : ss.length ≤ 9223372036854775807)
    (hra : Row w la ha va (intsV ss)) (hrb : Row w lb hb vb (intsV ts)) :
    Calls Tryz.prog 60 #[va, vb] w fun e w' => e = .returned (.bool (decide (ss = ts))) ∧ ∃ q, w.drewN q = w' := by
  obtain ⟨A, c, rfl, hA⟩ := hra
  obtain ⟨B, d, rfl, hB⟩ := hrb
  rw [intsV_length, intsV_length]
  have HA := Lib.hid hA
  have HB := Lib.hid hB
  clear hA hB
  by_cases hlen : ss.length = ts.length
  · have HL := Lib.hid hlen
    have hbe : ((ss.length : Int) != (ts.length : Int)) = false := by simp [hlen]
    clear hlen
    go_enter Tryz.func60, Tryz.ntmps60
    go_wp2
    go_loopw [5] (fun i wr => ∃ k q : Nat, k ≤ ss.length ∧ i = .int .i64 k ∧ wr = w.drewN q ∧ Hid (ss.take k = ts.take k)) (fun i _ => ss.length - (intOf i).toNat)
    case atStart => exact ⟨0, 0, Nat.zero_le _, rfl, rfl, Lib.hid rfl⟩
    case round =>
      obtain ⟨k, q, hk, rfl, rfl, HT⟩ := hrel
      by_cases hlt : k < ss.length
      · have hlt2 : k < ts.length := by have := HL.out; omega
        obtain ⟨a, rfl, _, _, hca⟩ := HA.out k _ (intsV_at ss k hlt)
        obtain ⟨b, rfl, _, _, hcb⟩ := HB.out k _ (intsV_at ts k hlt2)
        by_cases he : ss[k] = ts[k]
        · rw [← he] at hcb
          have HE := Lib.hid he
          clear he
          go_wp2
          go_quiet (fail)
          go_wp2
          go_roundw
          case rel => exact ⟨k + 1, _, by omega, by go_num, rfl, Lib.hid (take_same_succ HT.out hlt hlt2 HE.out)⟩
          case measure => simp [intOf]; omega
        · have hne : (ss[k] != ts[k]) = true := by rw [bne_iff_ne]; exact he
          have hne2 : (ss[k] == ts[k]) = false := by rw [beq_eq_false_iff_ne]; exact he
          go_wp2
          go_quiet (fail)
          go_wp2
          go_ret
          exact ⟨ret_bool (decide_eq_false (ne_of_at hlt hlt2 he)).symm, _, (World.drewN_drewN _ _ _).symm⟩
      · go_wp2
        go_ret
        exact ⟨ret_bool (decide_eq_true (same_of_takes HT.out HL.out hlt)).symm, q, rfl⟩
  · have hbe : ((ss.length : Int) != (ts.length : Int)) = true := by simp; omega
    go_enter Tryz.func60, Tryz.ntmps60
    go_wp2
    go_ret
    exact ⟨ret_bool (decide_eq_false (fun e => hlen (by rw [e]))).symm, 0, rfl⟩

/-- the numbers from m on -/
def marksI (m : Int) (n : Nat) : List Value := (List.range n).map fun i : Nat => Value.int .i64 (m + (i : Int))
theorem marksI_succ (m : Int) (n : Nat) : marksI m (n + 1) = marksI m n ++ [Value.int .i64 (m + (n : Int))] := by
  simp [marksI, List.range_succ]
theorem marksI_length (m : Int) (n : Nat) : (marksI m n).length = n := by simp [marksI]
theorem marksI_get (m : Int) (n k : Nat) (h : k < n) : (marksI m n)[k]? = some (Value.int .i64 (m + (k : Int))) := by simp [marksI, h]
theorem setI_mid (m : Int) (k : Nat) (xs : List Value) (h : k < xs.length) : (marksI m k ++ xs.drop k).set k (Value.int .i64 (m + (k : Int))) = marksI m (k + 1) ++ xs.drop (k + 1) := by
  rw [List.set_append_right _ _ (by rw [marksI_length]; omega), marksI_length, Nat.sub_self, List.drop_eq_getElem_cons h, List.set_cons_zero, marksI_succ, List.append_assoc]
  rfl

set_option maxHeartbeats 400000 in
set_option maxRecDepth 100000 in
/-- marking writes the numbers from m on -/
theorem markIntS_any (v : Value) (n : Nat) (xs : List Value) (base : Nat) (m : Int) (w : World) (hm : m + n ≤ 9223372036854775807) (hm0 : 0 ≤ m)
    (ho : w.ownsRow base 3 1 v n xs) :
    Calls Tryz.prog 61 #[v, .int .i64 m] w fun e w' => e = .returned (.int .i64 (m + n)) ∧ w'.ownsRow base 3 1 v n (marksI m n) ∧ w.grownBy w' v.ownBlock := by
  rcases ho.2 with ⟨rfl, rfl⟩ | ⟨g, cap, cur, rfl, hb, hh, hnc, hcm, hcs, ht⟩
  · go_enter Tryz.func61, Tryz.ntmps61
    go_wp2
    refine wp_loop_rounds 1 ?_
    rw [rounds_succ]
    go_wp2
    go_ret
    exact ⟨ret_int (by omega), ⟨rfl, .inl ⟨rfl, rfl⟩⟩, World.grownBy.refl _ _⟩
  · have hxl := Lib.hid ho.1
    have HO := Lib.hid ho
    clear ho hh hcs ht
    go_enter Tryz.func61, Tryz.ntmps61
    go_wp2
    go_loopw [1, 5] (fun a i wr => ∃ k : Nat, k ≤ n ∧ i = .int .i64 k ∧ a = .int .i64 (m + k) ∧ wr.ownsRow base 3 1 (.slice (some ⟨g, 0, none⟩) n cap) n (marksI m k ++ xs.drop k) ∧ w.grownBy wr (some g)) (fun _ i _ => n - (intOf i).toNat)
    case atStart => exact ⟨0, Nat.zero_le _, rfl, by simp, HO.out, World.grownBy.refl _ _⟩
    case round =>
      obtain ⟨k, hk, rfl, rfl, ho, hg⟩ := hrel
      by_cases hlt : k < n
      · have hcell := ho.cellAt k (by omega)
        rw [List.getElem?_eq_getElem (by simp [marksI_length]; have := hxl.out; omega)] at hcell
        have hfr := ho.frozenAt k
        obtain ⟨ho2, hg2⟩ := ho.stored k (Value.int .i64 (m + (k : Int)))
        rw [setI_mid m k xs (by have := hxl.out; omega)] at ho2
        have hg3 := grown_trans hg hg2
        clear ho hg hg2
        go_wp2
        go_roundw
        case rel => exact ⟨k + 1, by omega, by go_num, by go_num, ho2, hg3⟩
        case measure => simp [intOf]; omega
      · obtain rfl : k = n := by omega
        rw [List.drop_of_length_le (by have := hxl.out; omega), List.append_nil] at ho
        go_wp2
        go_ret
        exact ⟨rfl, ho, hg⟩

set_option maxHeartbeats 400000 in
set_option maxRecDepth 100000 in
/-- a slice that bears the numbers from m on is held -/
theorem heldIntS_any (v : Value) (n lo hi : Nat) (m : Int) (w : World) (hm : m + n ≤ 9223372036854775807) (hm0 : 0 ≤ m)
    (hr : Row w lo hi v (marksI m n)) :
    Calls Tryz.prog 62 #[v, .int .i64 m] w fun e w' => e = .returned (.int .i64 (m + n)) ∧ w = w' := by
  obtain ⟨A, c, rfl, hA⟩ := hr
  rw [marksI_length]
  have HA := Lib.hid hA
  clear hA
  go_enter Tryz.func62, Tryz.ntmps62
  go_wp2
  go_loop [1, 5] (fun a i => ∃ k : Nat, k ≤ n ∧ i = .int .i64 k ∧ a = .int .i64 (m + k)) (fun _ i => n - (intOf i).toNat)
  case atStart => exact ⟨0, Nat.zero_le _, rfl, by simp⟩
  case round =>
    obtain ⟨k, hk, rfl, rfl⟩ := hrel
    by_cases hlt : k < n
    · obtain ⟨a, rfl, _, hab, hca⟩ := HA.out k _ (marksI_get m n k hlt)
      go_wp2
      go_round
      case rel => exact ⟨k + 1, by omega, by go_num, by go_num⟩
      case measure => simp [intOf]; omega
    · obtain rfl : k = n := by omega
      go_wp2
      go_ret
      exact ⟨rfl, rfl⟩

theorem intInfo : (Tryz.prog.info? 3).map (fun i => (i.zero, i.size, i.bytes)) = some (some (.int .i64 0), 1, 8) := by kernel_rfl
theorem make_ints (n : Nat) (hn : n ≤ 1099511627776) (W : World) :
    (Instr.makeSlice 23 (.int .i64 (n : Int)) (.int .i64 (n : Int))).run Tryz.prog W = .ok (.slice (some ⟨W.heap.size, 0, none⟩) n n) (W.alloc (.cells (madeCells #[.int .i64 0] n) 3)) := by
  obtain ⟨i0, hi, hz0, hz1, hz2⟩ := info_parts intInfo
  have h := run_make (P := Tryz.prog) W 23 3 i0 (.int .i64 0) Tryz.underlying23 hi hz0 .i64 .i64 (n : Int) (n : Int) (by omega) (by omega) (by rw [hz2]; omega) (by omega)
  rw [hz1, Int.toNat_natCast, Nat.mul_one] at h
  exact h
theorem setI_copy (xs ys : List Value) (k : Nat) (u : Value) (hx : xs.length = ys.length) (h : k < ys.length) (hu : ys[k]? = some u) : (ys.take k ++ xs.drop k).set k u = ys.take (k + 1) ++ xs.drop (k + 1) := by
  have hl : (ys.take k).length = k := by rw [List.length_take]; omega
  have hyk : ys[k] = u := by rw [List.getElem?_eq_getElem h] at hu; injection hu
  rw [List.set_append_right _ _ (by omega), hl, Nat.sub_self, List.drop_eq_getElem_cons (by omega), List.set_cons_zero, List.take_succ_eq_append_getElem h, hyk, List.append_assoc]
  rfl

/-- a new row of ints that the call owns -/
def NewInts (xs : List Int) (w : World) (e : Ending) (w' : World) : Prop :=
  ∃ v, e = .returned v ∧ w'.ownsRow w.heap.size 3 1 v xs.length (intsV xs) ∧ Below w.heap.size w w'

set_option maxHeartbeats 400000 in
set_option maxRecDepth 100000 in
theorem toIntS_any (v : Value) (ss : List Int) (lo hi : Nat) (w : World) (hhi : hi ≤ w.heap.size) (hn : ss.length ≤ 1048576) (hr : Row w lo hi v (intsV ss)) :
    Calls Tryz.prog 58 #[v] w (NewInts ss w) := by
  obtain ⟨A, c, rfl, hA⟩ := hr
  have HA := Lib.hid hA
  have hmk := make_ints ss.length (by omega)
  rw [intsV_length]
  clear hA
  go_enter Tryz.func58, Tryz.ntmps58
  go_wp2
  go_loopw [4] (fun i wr => ∃ k : Nat, k ≤ ss.length ∧ i = .int .i64 k ∧ wr.ownsRow w.heap.size 3 1 (.slice (some ⟨w.heap.size, 0, none⟩) ss.length ss.length) ss.length ((intsV ss).take k ++ (List.replicate ss.length (Value.int .i64 0)).drop k) ∧ Below w.heap.size w wr) (fun i _ => ss.length - (intOf i).toNat)
  case atStart =>
    refine ⟨0, Nat.zero_le _, rfl, ?_, (Below.refl _ _).alloc (Nat.le_refl _) _⟩
    have h := World.ownsRow_lit (e := 3) (size := 1) (base := w.heap.size) w (madeCells #[.int .i64 0] ss.length) ss.length (Nat.le_refl _) (by unfold maxLen; omega) (by rw [size_madeCells, Nat.mul_one])
    rw [toList_madeCells_one] at h
    exact h
  case round =>
    obtain ⟨k, hk, rfl, ho, hb⟩ := hrel
    by_cases hlt : k < ss.length
    · obtain ⟨a, rfl, _, hab, hca⟩ := HA.out k _ (intsV_at ss k hlt)
      have hca' : wr.cell? (a.add k) = some (.int .i64 ss[k]) := (hb.cell (by rw [block_add]; omega)).trans hca
      clear hca
      have hcell := ho.cellAt k (by omega)
      rw [List.getElem?_eq_getElem (by simp [intsV_length]; omega)] at hcell
      have hfr := ho.frozenAt k
      obtain ⟨ho2, hg2⟩ := ho.stored k (.int .i64 ss[k])
      rw [setI_copy _ _ k _ (by simp [intsV_length]) (by rw [intsV_length]; exact hlt) (intsV_at ss k hlt)] at ho2
      have hb2 := hb.grown hg2 hb.size (fun g hg => by cases hg; exact Nat.le_refl _)
      clear ho hg2
      go_wp2
      go_roundw
      case rel => exact ⟨k + 1, by omega, by go_num, ho2, hb2⟩
      case measure => simp [intOf]; omega
    · obtain rfl : k = ss.length := by omega
      rw [List.take_of_length_le (by rw [intsV_length]; exact Nat.le_refl _), List.drop_of_length_le (by simp), List.append_nil] at ho
      go_wp2
      go_ret
      exact ⟨_, rfl, ho, hb⟩
end Go.Proofs.YtcenmdiblbooeaaGreatDoor

namespace Go.Proofs.YtcenmdiblbooeaaGreatDoor
open Go.RowKit

/-- a fact of a world that leans on the blocks S alone -/
structure At (S : List Nat) (φ : World → Prop) (w : World) : Prop where
  here : φ w
  lt : ∀ g ∈ S, g < w.heap.size
  stays : ∀ w' : World, (∀ g ∈ S, w'.heap[g]? = w.heap[g]?) → φ w'

section
variable {S T : List Nat} {φ : World → Prop} {w w' w1 w2 : World} {B : Nat}
theorem At.move (h : At S φ w) (hk : ∀ g ∈ S, w'.heap[g]? = w.heap[g]?) (hz : w.heap.size ≤ w'.heap.size) : At S φ w' :=
  ⟨h.stays w' hk, fun g hg => Nat.lt_of_lt_of_le (h.lt g hg) hz, fun w'' hk' => h.stays w'' fun g hg => (hk' g hg).trans (hk g hg)⟩
theorem At.below (h : At S φ w) (hb : Below w.heap.size w w') : At S φ w' := h.move (fun g hg => hb.block g (h.lt g hg)) hb.size
theorem At.drewN (h : At S φ w) (q : Nat) : At S φ (w.drewN q) := h.move (fun _ _ => rfl) (Nat.le_refl _)
theorem At.imp {ψ : World → Prop} (h : At S φ w) (hi : ∀ w', φ w' → ψ w') : At S ψ w := ⟨hi _ h.here, h.lt, fun w' hk => hi _ (h.stays w' hk)⟩

/-- only blocks of T, and new ones, are other than they were -/
structure Chg (T : List Nat) (w w' : World) : Prop where
  os : w'.os = w.os
  tape : w'.tape = w.tape
  output : w'.output = w.output
  size : w.heap.size ≤ w'.heap.size
  block : ∀ i, i < w.heap.size → i ∉ T → w'.heap[i]? = w.heap[i]?
theorem Chg.of_grown {v : Value} (h : w.grownBy w' v.ownBlock) : Chg v.ownBlock.toList w w' :=
  ⟨h.os, h.tape, h.output, h.size, fun i hi hn => h.block i hi (fun e => hn (by rw [← e]; simp))⟩
theorem Chg.refl (T : List Nat) (w : World) : Chg T w w := ⟨rfl, rfl, rfl, Nat.le_refl _, fun _ _ _ => rfl⟩
theorem Chg.trans (h : Chg T w w1) (k : Chg T w1 w2) : Chg T w w2 :=
  ⟨k.os.trans h.os, k.tape.trans h.tape, k.output.trans h.output, Nat.le_trans h.size k.size, fun i hi hn => (k.block i (Nat.lt_of_lt_of_le hi h.size) hn).trans (h.block i hi hn)⟩
theorem Chg.of_below (h : Below w.heap.size w w') : Chg T w w' := ⟨h.os, h.tape, h.output, h.size, fun i hi _ => h.block i hi⟩
theorem Chg.more {U : List Nat} (h : Chg T w w') (hs : ∀ g ∈ T, g ∈ U) : Chg U w w' := ⟨h.os, h.tape, h.output, h.size, fun i hi hn => h.block i hi (fun hm => hn (hs i hm))⟩
theorem At.chg (h : At S φ w) (c : Chg T w w') (hd : ∀ g ∈ S, g ∉ T) : At S φ w' := h.move (fun g hg => c.block g (h.lt g hg) (hd g hg)) c.size
theorem below_chg (hb : Below B w w1) (c : Chg T w1 w2) (hB : B ≤ w1.heap.size) (hT : ∀ g ∈ T, B ≤ g) : Below B w w2 :=
  ⟨c.os.trans hb.os, c.tape.trans hb.tape, c.output.trans hb.output, Nat.le_trans hb.size c.size,
    fun i hi => (c.block i (Nat.lt_of_lt_of_le hi hB) (fun hm => by have := hT i hm; omega)).trans (hb.block i hi)⟩

theorem Chg.setCell (h : Chg T w w1) {p : Addr} (hp : p.block ∈ T) (u : Value) : Chg T w (w1.setCell p u) :=
  ⟨h.os, h.tape, h.output, by simpa [World.setCell] using h.size, fun i hi hn => (Below.heap_setCell _ _ _ _ (fun e => hn (by rw [e]; exact hp))).trans (h.block i hi hn)⟩

/-- where blocks lie -/
def Within (S : List Nat) (lo hi : Nat) : Prop := ∀ g ∈ S, lo ≤ g ∧ g < hi
theorem Within.apart {a b c d : Nat} (h : Within S a b) (k : Within T c d) (hd : b ≤ c ∨ d ≤ a) : ∀ g ∈ S, g ∉ T := by
  intro g hg hm
  have h1 := h g hg
  have h2 := k g hm
  omega
theorem Within.from {a b B : Nat} (h : Within S a b) (hB : B ≤ a) : ∀ g ∈ S, B ≤ g := fun g hg => Nat.le_trans hB (h g hg).1
theorem apart_symm (h : ∀ g ∈ S, g ∉ T) : ∀ g ∈ T, g ∉ S := fun g hg hm => h g hm hg
end

/-! ### slices of ints -/
def OwnI (v : Value) (xs : List Int) (w : World) : Prop := w.ownsRow 0 3 1 v xs.length (intsV xs)
def MarkI (v : Value) (xs : List Int) (m : Int) (w : World) : Prop := w.ownsRow 0 3 1 v xs.length (marksI m xs.length)
def szI (xs : List Int) : Int := xs.length
theorem own_zero {w : World} {base n : Nat} {e : TypeId} {v : Value} {xs : List Value} (h : w.ownsRow base e 1 v n xs) : w.ownsRow 0 e 1 v n xs := by
  obtain ⟨hl, h | ⟨g, cap, cur, rfl, hg, r⟩⟩ := h
  · exact ⟨hl, .inl h⟩
  · exact ⟨hl, .inr ⟨g, cap, cur, rfl, Nat.zero_le _, r⟩⟩
theorem own_at {w : World} {base n : Nat} {e : TypeId} {v : Value} {xs : List Value} (h : w.ownsRow base e 1 v n xs) : At v.ownBlock.toList (fun w => w.ownsRow 0 e 1 v n xs) w :=
  ⟨own_zero h, fun g hg => (own_lt h (by simpa using hg)).2, fun w' hk => own_stays (own_zero h) fun g hg => hk g (by rw [hg]; simp)⟩
theorem own_within {w : World} {base n : Nat} {e : TypeId} {v : Value} {xs : List Value} (h : w.ownsRow base e 1 v n xs) : Within v.ownBlock.toList base w.heap.size := fun g hg => own_lt h (by simpa using hg)
theorem OwnI.row {v : Value} {xs : List Int} {w : World} (h : OwnI v xs w) : Row w 0 w.heap.size v (intsV xs) := Row.of_own h

/-- a new value: its blocks, all new -/
def NewV (φ : Value → World → Prop) (w : World) (e : Ending) (w' : World) : Prop := ∃ v S, e = .returned v ∧ At S (φ v) w' ∧ Within S w.heap.size w'.heap.size ∧ Below w.heap.size w w'
/-- two new values apart from each other -/
def NewV2 (φ ψ : Value → World → Prop) (w : World) (e : Ending) (w' : World) : Prop :=
  ∃ u S v T, e = .returned (.tuple #[u, v]) ∧ At S (φ u) w' ∧ At T (ψ v) w' ∧ Within S w.heap.size w'.heap.size ∧ Within T w.heap.size w'.heap.size ∧ (∀ g ∈ S, g ∉ T) ∧ Below w.heap.size w w'
theorem NewInts.newV {xs : List Int} {w w' : World} {e : Ending} (h : NewInts xs w e w') : NewV (fun v => OwnI v xs) w e w' := by
  obtain ⟨v, rfl, o, b⟩ := h
  exact ⟨v, _, rfl, own_at o, own_within o, b⟩

theorem toIntS_at (v : Value) (xs : List Int) (lo hi : Nat) (w : World) (hhi : hi ≤ w.heap.size) (hn : xs.length ≤ 1048576) (hr : Row w lo hi v (intsV xs)) :
    Calls Tryz.prog 58 #[v] w (NewV (fun u => OwnI u xs) w) := (toIntS_any v xs lo hi w hhi hn hr).mono fun _ _ h => h.newV
theorem eqIntS_at (u v : Value) (xs ys : List Int) (w : World) (hl : xs.length ≤ 9223372036854775807) (hu : OwnI u xs w) (hv : OwnI v ys w) :
    Calls Tryz.prog 60 #[u, v] w fun e w' => e = .returned (.bool (decide (xs = ys))) ∧ Below w.heap.size w w' := by
  refine (eqIntS_any u v xs ys _ _ _ _ w hl hu.row hv.row).mono ?_
  rintro e w' ⟨rfl, q, rfl⟩
  exact ⟨rfl, below_drewN (Below.refl _ _) q⟩
theorem markIntS_at (v : Value) (xs : List Int) (S : List Nat) (m : Int) (w : World) (hm : m + szI xs ≤ 9223372036854775807) (hm0 : 0 ≤ m) (h : At S (OwnI v xs) w) :
    Calls Tryz.prog 61 #[v, .int .i64 m] w fun e w' => e = .returned (.int .i64 (m + szI xs)) ∧ At S (MarkI v xs m) w' ∧ Chg S w w' := by
  have hS : ∀ g, v.ownBlock = some g → g ∈ S := by
    intro g hg
    rcases Classical.em (g ∈ S) with hin | hout
    · exact hin
    · exfalso
      have hst := h.stays { w with heap := w.heap.set! g (.cells #[] 4 (0, 0)) } (fun i hi => by
        have : i ≠ g := fun e => hout (e ▸ hi)
        simp [Ne.symm this])
      have hlt := (own_lt h.here hg).2
      obtain ⟨_, ⟨rfl, _⟩ | ⟨g', cap, cur, rfl, _, hh, _⟩⟩ := hst
      · cases hg
      · cases hg
        have hlt' : g' < w.heap.size := hlt
        have hh' : (w.heap.setIfInBounds g' (.cells #[] 4 (0, 0)))[g']? = some (.cells cur 3 (0, 0)) := hh
        rw [Array.getElem?_setIfInBounds_self_of_lt hlt'] at hh'
        simp at hh'
  refine (markIntS_any v xs.length (intsV xs) 0 m w hm hm0 h.here).mono ?_
  rintro e w' ⟨rfl, ho, hg⟩
  have hc : Chg S w w' := (Chg.of_grown hg).more (fun g hg => hS g (by simpa using hg))
  exact ⟨rfl, ⟨ho, fun g hg => Nat.lt_of_lt_of_le (h.lt g hg) hc.size, fun w'' hk => own_stays ho fun g hg => hk g (hS g hg)⟩, hc⟩
theorem heldIntS_at (v : Value) (xs : List Int) (m : Int) (w : World) (hm : m + szI xs ≤ 9223372036854775807) (hm0 : 0 ≤ m) (h : MarkI v xs m w) :
    Calls Tryz.prog 62 #[v, .int .i64 m] w fun e w' => e = .returned (.int .i64 (m + szI xs)) ∧ Below w.heap.size w w' := by
  refine (heldIntS_any v xs.length 0 w.heap.size m w hm hm0 (Row.of_own h)).mono ?_
  rintro e w' ⟨rfl, rfl⟩
  exact ⟨rfl, Below.refl _ _⟩

/-! ### what calls answer -/
def PostI (R0 : List Int) (w : World) (e : Ending) (w' : World) : Prop :=
  ∃ (u0 : Value) (S0 : List Nat), e = .returned u0 ∧ At S0 (OwnI u0 R0) w' ∧ Within S0 w.heap.size w'.heap.size ∧ Below w.heap.size w w'
def PostII (R0 : List Int) (R1 : List Int) (w : World) (e : Ending) (w' : World) : Prop :=
  ∃ (u0 : Value) (S0 : List Nat) (u1 : Value) (S1 : List Nat), e = .returned (.tuple #[u0, u1]) ∧ At S0 (OwnI u0 R0) w' ∧ At S1 (OwnI u1 R1) w' ∧ Within S0 w.heap.size w'.heap.size ∧ Within S1 w.heap.size w'.heap.size ∧ (∀ g ∈ S0, g ∉ S1) ∧ Below w.heap.size w w'
def Postn (R0 : Int) (w : World) (e : Ending) (w' : World) : Prop :=
  e = .returned (.int .i64 R0) ∧ Below w.heap.size w w'
def Postb (R0 : Bool) (w : World) (e : Ending) (w' : World) : Prop :=
  e = .returned (.bool R0) ∧ Below w.heap.size w w'
def PostIb (R0 : List Int) (R1 : Bool) (w : World) (e : Ending) (w' : World) : Prop :=
  ∃ (u0 : Value) (S0 : List Nat), e = .returned (.tuple #[u0, (.bool R1)]) ∧ At S0 (OwnI u0 R0) w' ∧ Within S0 w.heap.size w'.heap.size ∧ Below w.heap.size w w'
def Postnb (R0 : Int) (R1 : Bool) (w : World) (e : Ending) (w' : World) : Prop :=
  e = .returned (.tuple #[(.int .i64 R0), (.bool R1)]) ∧ Below w.heap.size w w'
end Go.Proofs.YtcenmdiblbooeaaGreatDoor

namespace Go.Proofs.YtcenmdiblbooeaaGreatDoor
open Go.RowKit

/-- block g holds the cells cs of type T -/
def BoxAt (g : Nat) (cs : Array Value) (T : TypeId) (w : World) : Prop := w.heap[g]? = some (.cells cs T (0, 0))
theorem box_at {g : Nat} {cs : Array Value} {T : TypeId} {w : World} (h : BoxAt g cs T w) : At [g] (BoxAt g cs T) w :=
  ⟨h, fun i hi => by simp at hi; subst hi; exact (Array.getElem?_eq_some_iff.1 h).1, fun w' hk => (hk g (by simp)).trans h⟩
theorem box_new (w : World) (cs : Array Value) (T : TypeId) : At [w.heap.size] (BoxAt w.heap.size cs T) (w.alloc (.cells cs T)) := box_at (heap_alloc_new w _)
theorem BoxAt.cell {g : Nat} {cs : Array Value} {T : TypeId} {w : World} (h : BoxAt g cs T w) (j : Nat) (u : Value) (hj : cs[j]? = some u) : w.cell? ⟨g, j, none⟩ = some u := by
  rw [Lib.cell_of_heap h]; exact hj
theorem below_al {W0 W : World} (h : Below W0.heap.size W0 W) (o : Obj) : Below W0.heap.size W0 (W.alloc o) := h.alloc h.size o
end Go.Proofs.YtcenmdiblbooeaaGreatDoor

namespace Go.Proofs.YtcenmdiblbooeaaGreatDoor
open Go.RowKit

/-- the number that limbs stand for -/
def nval : List Int → Int
  | [] => 0
  | d :: r => d + 1000000000 * nval r
/-- every limb is in range -/
def DigN (xs : List Int) : Prop := ∀ d ∈ xs, 0 ≤ d ∧ d ≤ 999999999
/-- without zeros at its end -/
def trimL : List Int → List Int
  | [] => []
  | d :: r => if trimL r = [] ∧ d = 0 then [] else d :: trimL r
/-- the limbs of a number -/
def limbs (n : Nat) : List Int := if h : n = 0 then [] else ((n % 1000000000 : Nat) : Int) :: limbs (n / 1000000000)
termination_by n
decreasing_by omega
/-- what NatOk asks -/
def digB (d : Int) : Bool := decide (0 ≤ d ∧ d ≤ 999999999)
def natOkB (xs : List Int) : Bool := xs.all digB && (decide (xs.length ≤ 50) && decide (xs.getLastD 1 ≠ 0))
theorem all_dig (xs : List Int) : xs.all digB = true ↔ DigN xs := by
  rw [List.all_eq_true]
  constructor
  · intro h d hd
    exact of_decide_eq_true (h d hd)
  · intro h d hd
    exact decide_eq_true (h d hd)

theorem DigN.tail {d : Int} {r : List Int} (h : DigN (d :: r)) : DigN r := fun x hx => h x (by simp [hx])
theorem DigN.head {d : Int} {r : List Int} (h : DigN (d :: r)) : 0 ≤ d ∧ d ≤ 999999999 := h d (by simp)
theorem DigN.cons {d : Int} {r : List Int} (h0 : 0 ≤ d) (h1 : d ≤ 999999999) (h : DigN r) : DigN (d :: r) := by
  intro x hx
  rcases List.mem_cons.1 hx with rfl | hx
  · exact ⟨h0, h1⟩
  · exact h x hx
theorem DigN.drop {xs : List Int} (h : DigN xs) (k : Nat) : DigN (xs.drop k) := fun x hx => h x (List.mem_of_mem_drop hx)
theorem DigN.take {xs : List Int} (h : DigN xs) (k : Nat) : DigN (xs.take k) := fun x hx => h x (List.mem_of_mem_take hx)
theorem DigN.at_ {xs : List Int} (h : DigN xs) (k : Nat) (hk : k < xs.length) : 0 ≤ xs[k] ∧ xs[k] ≤ 999999999 := h _ (List.getElem_mem hk)
theorem nval_nonneg (xs : List Int) (h : DigN xs) : 0 ≤ nval xs := by
  induction xs with
  | nil => exact Int.le_refl _
  | cons d r ih => have := ih h.tail; have := h.head; unfold nval; omega
theorem nval_zero (xs : List Int) (h : DigN xs) : nval xs = 0 ↔ trimL xs = [] := by
  induction xs with
  | nil => simp [nval, trimL]
  | cons d r ih =>
    have h1 := ih h.tail
    have h2 := h.head
    have h3 := nval_nonneg r h.tail
    unfold nval trimL
    constructor
    · intro e
      rw [if_pos ⟨h1.1 (by omega), by omega⟩]
    · intro e
      split at e
      · rename_i hc
        have := h1.2 hc.1
        omega
      · cases e
/-- limbs in range, without zeros at the end, are those of their number -/
theorem trim_limbs (xs : List Int) (h : DigN xs) : trimL xs = limbs (nval xs).toNat := by
  induction xs with
  | nil => rw [limbs]; simp [trimL, nval]
  | cons d r ih =>
    have h1 := ih h.tail
    have h2 := h.head
    have h3 := nval_nonneg r h.tail
    have hz := nval_zero r h.tail
    unfold trimL
    by_cases hc : trimL r = [] ∧ d = 0
    · rw [if_pos hc]
      have : nval r = 0 := hz.2 hc.1
      rw [limbs, dif_pos (by unfold nval; omega)]
    · rw [if_neg hc]
      have hne : ¬ (nval (d :: r)).toNat = 0 := by
        unfold nval
        intro e
        exact hc ⟨hz.1 (by omega), by omega⟩
      rw [limbs, dif_neg hne, h1, show nval (d :: r) = d + 1000000000 * nval r from rfl]
      rw [show (d + 1000000000 * nval r).toNat / 1000000000 = (nval r).toNat from by omega, show (((d + 1000000000 * nval r).toNat % 1000000000 : Nat) : Int) = d from by omega]
theorem trim_last (xs : List Int) (h : xs.getLastD 1 ≠ 0) : trimL xs = xs := by
  induction xs with
  | nil => rfl
  | cons d r ih =>
    unfold trimL
    cases r with
    | nil => have : d ≠ 0 := by simpa using h
             rw [if_neg (fun e => this e.2)]
             rfl
    | cons e r' =>
      have h1 := ih (by simpa using h)
      rw [h1, if_neg (fun e => by cases e.1)]
theorem natOk_parts {xs : List Int} (h : natOkB xs = true) : DigN xs ∧ xs.length ≤ 50 ∧ xs.getLastD 1 ≠ 0 := by
  unfold natOkB at h
  rw [Bool.and_eq_true, Bool.and_eq_true, decide_eq_true_eq, decide_eq_true_eq, all_dig] at h
  exact h
theorem natOk_limbs {xs : List Int} (h : natOkB xs = true) : xs = limbs (nval xs).toNat := by
  obtain ⟨h1, _, h3⟩ := natOk_parts h
  rw [← trim_limbs xs h1, trim_last xs h3]
theorem nval_inj {xs ys : List Int} (h : natOkB xs = true) (k : natOkB ys = true) (e : nval xs = nval ys) : xs = ys := by
  rw [natOk_limbs h, natOk_limbs k, e]

theorem nval_drop (xs : List Int) (k : Nat) (h : k < xs.length) : nval (xs.drop k) = xs[k] + 1000000000 * nval (xs.drop (k + 1)) := by
  rw [List.drop_eq_getElem_cons h]
  rfl
/-- a beginning behind which all is zero -/
theorem trim_prefix (xs : List Int) (k : Nat) (hk : k ≤ xs.length) (hz : ∀ j (h : j < xs.length), k ≤ j → xs[j] = 0) (hl : ∀ h : k - 1 < xs.length, 0 < k → xs[k - 1] ≠ 0) : trimL xs = xs.take k := by
  induction xs generalizing k with
  | nil => simp [trimL]
  | cons d r ih =>
    unfold trimL
    cases k with
    | zero =>
      have h0 : d = 0 := hz 0 (by simp) (Nat.le_refl _)
      have hr : trimL r = r.take 0 := ih 0 (Nat.zero_le _) (fun j h _ => hz (j + 1) (by simpa using h) (Nat.zero_le _)) (fun _ h => absurd h (by omega))
      rw [hr, if_pos ⟨by simp, h0⟩]
      rfl
    | succ k =>
      have hr : trimL r = r.take k := ih k (by simpa using hk) (fun j h hj => hz (j + 1) (by simpa using h) (by omega)) (fun h h0 => by
        obtain ⟨m, rfl⟩ : ∃ m, k = m + 1 := ⟨k - 1, by omega⟩
        have hk2 : m + 1 ≤ r.length := by simpa using hk
        exact hl (by show m + 1 < (d :: r).length; rw [List.length_cons]; omega) (by omega))
      rw [hr, List.take_succ_cons, if_neg]
      intro e
      rcases Nat.eq_zero_or_pos k with h0 | h0
      · subst h0
        have := hl (by simp) (by omega)
        exact this (by simpa using e.2)
      · have : (r.take k).length = 0 := by rw [e.1]; rfl
        rw [List.length_take] at this
        simp at hk
        omega

/-! ### order -/
/-- less, equal, greater -/
def cmpI (x y : Int) : Int := if x < y then -1 else if y < x then 1 else 0
theorem nval_short (a b : List Int) (ha : DigN a) (hb : DigN b) (hl : a.length < b.length) (hlast : b.getLastD 1 ≠ 0) : nval a < nval b := by
  induction a generalizing b with
  | nil =>
    have h0 := nval_nonneg b hb
    have hz := nval_zero b hb
    have ht := trim_last b hlast
    have : ¬ nval b = 0 := fun e => by
      have := hz.1 e
      rw [ht] at this
      rw [this] at hl
      simp at hl
    show (0 : Int) < _
    omega
  | cons x a ih =>
    cases b with
    | nil => simp at hl
    | cons y b =>
      have hb1 : b.getLastD 1 ≠ 0 := by
        cases b with
        | nil => simp at hl
        | cons z b => simpa using hlast
      have := ih b ha.tail hb.tail (by simpa using hl) hb1
      have := ha.head
      have := hb.head
      unfold nval
      omega
theorem nval_lt_down (a b : List Int) (ha : DigN a) (hb : DigN b) (hl : a.length = b.length) (k : Nat) (hk : nval (a.drop k) < nval (b.drop k)) : nval a < nval b := by
  induction k with
  | zero => simpa using hk
  | succ k ih =>
    apply ih
    by_cases h : k < a.length
    · rw [nval_drop a k h, nval_drop b k (by omega)]
      have := ha.at_ k h
      have := hb.at_ k (by omega)
      omega
    · rw [List.drop_of_length_le (by omega), List.drop_of_length_le (by omega)] at hk
      exact absurd hk (Int.lt_irrefl _)

/-! ### sums -/
def addL : List Int → List Int → Int → List Int
  | [], [], c => if 0 < c then [c] else []
  | x :: a, [], c => (c + x) % 1000000000 :: addL a [] ((c + x) / 1000000000)
  | [], y :: b, c => (c + y) % 1000000000 :: addL [] b ((c + y) / 1000000000)
  | x :: a, y :: b, c => (c + x + y) % 1000000000 :: addL a b ((c + x + y) / 1000000000)
theorem addL_val (a b : List Int) (c : Int) (ha : DigN a) (hb : DigN b) (h0 : 0 ≤ c) (h1 : c ≤ 1) : nval (addL a b c) = nval a + nval b + c ∧ DigN (addL a b c) ∧ (addL a b c).length ≤ a.length + b.length + 1 := by
  induction a, b, c using addL.induct with
  | case1 c hc => simp only [addL, if_pos hc]; exact ⟨(by simp [nval]), DigN.cons (by omega) (by omega) (fun x hx => by cases hx), by simp⟩
  | case2 c hc => simp only [addL, if_neg hc]; exact ⟨(by simp [nval]; omega), (fun x hx => by cases hx), by simp⟩
  | case3 c x a ih =>
    have hx := ha.head
    obtain ⟨i1, i2, i3⟩ := ih ha.tail hb (by omega) (by omega)
    refine ⟨?_, ?_, ?_⟩
    · simp only [addL, nval] at i1 ⊢; omega
    · simp only [addL]; exact DigN.cons (by omega) (by omega) i2
    · simp only [addL, List.length_cons, List.length_nil] at i3 ⊢; omega
  | case4 c y b ih =>
    have hy := hb.head
    obtain ⟨i1, i2, i3⟩ := ih ha hb.tail (by omega) (by omega)
    refine ⟨?_, ?_, ?_⟩
    · simp only [addL, nval] at i1 ⊢; omega
    · simp only [addL]; exact DigN.cons (by omega) (by omega) i2
    · simp only [addL, List.length_cons, List.length_nil] at i3 ⊢; omega
  | case5 c x a y b ih =>
    have hx := ha.head
    have hy := hb.head
    obtain ⟨i1, i2, i3⟩ := ih ha.tail hb.tail (by omega) (by omega)
    refine ⟨?_, ?_, ?_⟩
    · simp only [addL, nval] at i1 ⊢; omega
    · simp only [addL]; exact DigN.cons (by omega) (by omega) i2
    · simp only [addL, List.length_cons] at i3 ⊢; omega

/-! ### differences -/
def subL : List Int → List Int → Int → List Int
  | [], _, _ => []
  | x :: a, b, c => if x - c - b.headD 0 < 0 then (x - c - b.headD 0 + 1000000000) :: subL a b.tail 1 else (x - c - b.headD 0) :: subL a b.tail 0
theorem subL_val (a b : List Int) (c : Int) (ha : DigN a) (hb : DigN b) (hl : b.length ≤ a.length) (h0 : 0 ≤ c) (h1 : c ≤ 1) (hle : nval b + c ≤ nval a) : nval (subL a b c) = nval a - nval b - c ∧ DigN (subL a b c) ∧ (subL a b c).length = a.length := by
  induction a generalizing b c with
  | nil =>
    have : b = [] := List.eq_nil_of_length_eq_zero (by simpa using hl)
    subst this
    have h3 : (0 : Int) + c ≤ 0 := hle
    refine ⟨?_, (fun x hx => by cases hx), rfl⟩
    show (0 : Int) = 0 - 0 - c
    omega
  | cons x a ih =>
    have hx := ha.head
    have hh : 0 ≤ b.headD 0 ∧ b.headD 0 ≤ 999999999 := by
      cases b with
      | nil => simp
      | cons y b => exact hb.head
    have hv : nval b = b.headD 0 + 1000000000 * nval b.tail := by
      cases b with
      | nil => simp [nval]
      | cons y b => simp [nval]
    have hbt : DigN b.tail := by
      cases b with
      | nil => exact hb
      | cons y b => exact hb.tail
    have hlt : b.tail.length ≤ a.length := by rw [List.length_tail]; simp at hl; omega
    simp only [nval] at hle ⊢
    unfold subL
    by_cases hn : x - c - b.headD 0 < 0
    · obtain ⟨i1, i2, i3⟩ := ih b.tail 1 ha.tail hbt hlt (by omega) (by omega) (by omega)
      rw [if_pos hn]
      exact ⟨by simp only [nval]; omega, DigN.cons (by omega) (by omega) i2, by simp [i3]⟩
    · obtain ⟨i1, i2, i3⟩ := ih b.tail 0 ha.tail hbt hlt (by omega) (by omega) (by omega)
      rw [if_neg hn]
      exact ⟨by simp only [nval]; omega, DigN.cons (by omega) (by omega) i2, by simp [i3]⟩

/-- at most 50 limbs, else none -/
def capL (xs : List Int) : List Int := if 50 < xs.length then [] else xs
/-- what the functions of the chapter answer for a number -/
def natRes (n : Int) : List Int := capL (limbs n.toNat)
end Go.Proofs.YtcenmdiblbooeaaGreatDoor

namespace Go.Proofs.YtcenmdiblbooeaaGreatDoor
open Go.RowKit

/-- the power of the base -/
def bp : Nat → Int
  | 0 => 1
  | k + 1 => 1000000000 * bp k
theorem bp_pos (k : Nat) : 0 < bp k := by
  induction k with
  | zero => decide
  | succ k ih => show 0 < 1000000000 * bp k; omega
theorem bp_add (j k : Nat) : bp (j + k) = bp j * bp k := by
  induction j with
  | zero => rw [Nat.zero_add]; show _ = 1 * _; omega
  | succ j ih =>
    rw [show j + 1 + k = (j + k) + 1 by omega]
    show 1000000000 * bp (j + k) = 1000000000 * bp j * bp k
    rw [ih, Int.mul_assoc]
theorem bp_mono {j k : Nat} (h : j ≤ k) : bp j ≤ bp k := by
  obtain ⟨d, rfl⟩ := Nat.le.dest h
  rw [bp_add]
  have h1 := bp_pos j
  have h2 := bp_pos d
  have h3 := Int.mul_le_mul_of_nonneg_left (show 1 ≤ bp d by omega) (show 0 ≤ bp j by omega)
  omega
theorem nval_append (xs ys : List Int) : nval (xs ++ ys) = nval xs + bp xs.length * nval ys := by
  induction xs with
  | nil => show nval ys = 0 + 1 * nval ys; omega
  | cons d r ih =>
    show d + 1000000000 * nval (r ++ ys) = d + 1000000000 * nval r + 1000000000 * bp r.length * nval ys
    rw [ih, Int.mul_add, Int.mul_assoc, Int.add_assoc]
theorem nval_lt (xs : List Int) (h : DigN xs) : nval xs < bp xs.length := by
  induction xs with
  | nil => show (0 : Int) < 1; decide
  | cons d r ih =>
    have h1 := ih h.tail
    have h2 := h.head
    show d + 1000000000 * nval r < 1000000000 * bp r.length
    omega
theorem DigN.append {xs ys : List Int} (h : DigN xs) (k : DigN ys) : DigN (xs ++ ys) := fun d hd => (List.mem_append.1 hd).elim (h d) (k d)
theorem dig_one {d : Int} (h0 : 0 ≤ d) (h1 : d ≤ 999999999) : DigN [d] := fun x hx => by simp at hx; omega
theorem dig_zeros (n : Nat) : DigN (List.replicate n 0) := fun d hd => by rw [(List.mem_replicate.1 hd).2]; omega
theorem nval_zeros (n : Nat) : nval (List.replicate n 0) = 0 := by
  induction n with
  | zero => rfl
  | succ n ih => rw [List.replicate_succ]; show 0 + 1000000000 * nval (List.replicate n 0) = 0; omega
theorem nval_set (xs : List Int) (k : Nat) (d : Int) (h : k < xs.length) : nval (xs.set k d) = nval xs + (d - xs[k]) * bp k := by
  induction xs generalizing k with
  | nil => simp at h
  | cons x r ih =>
    cases k with
    | zero => show d + 1000000000 * nval r = x + 1000000000 * nval r + (d - x) * 1; omega
    | succ k =>
      have hk : k < r.length := by simpa using h
      have h1 := ih k hk
      show x + 1000000000 * nval (r.set k d) = x + 1000000000 * nval r + (d - r[k]) * (1000000000 * bp k)
      rw [h1, Int.mul_add, Int.add_assoc]
      congr 2
      rw [← Int.mul_assoc, ← Int.mul_assoc, Int.mul_comm 1000000000]
theorem DigN.set {xs : List Int} (h : DigN xs) (k : Nat) {d : Int} (h0 : 0 ≤ d) (h1 : d ≤ 999999999) : DigN (xs.set k d) := fun x hx => by
  rcases List.mem_or_eq_of_mem_set hx with hx | rfl
  · exact h x hx
  · exact ⟨h0, h1⟩

/-- the last limb is not 0: the number is at least the power below its length -/
theorem nval_ge (xs : List Int) (h : DigN xs) (hl : xs.getLastD 1 ≠ 0) (hn : 0 < xs.length) : bp (xs.length - 1) ≤ nval xs := by
  have hne : xs ≠ [] := fun e => by rw [e] at hn; simp at hn
  have e := (List.dropLast_concat_getLast hne).symm
  have hg : xs.getLastD 1 = xs.getLast hne := by
    rw [List.getLastD_eq_getLast?, List.getLast?_eq_some_getLast hne]
    rfl
  rw [hg] at hl
  have hd := h _ (List.getLast_mem hne)
  rw [e, nval_append]
  have h1 := nval_nonneg xs.dropLast (fun d hd => h d (List.dropLast_subset _ hd))
  have h2 : nval [xs.getLast hne] = xs.getLast hne := by show xs.getLast hne + 1000000000 * 0 = _; omega
  rw [h2, List.length_append, List.length_dropLast]
  simp only [List.length_singleton]
  rw [show xs.length - 1 + 1 - 1 = xs.length - 1 by omega]
  have h3 := bp_pos (xs.length - 1)
  have h4 := Int.mul_le_mul_of_nonneg_left (show 1 ≤ xs.getLast hne by omega) (show 0 ≤ bp (xs.length - 1) by omega)
  omega
/-- the other way: then the limbs are those of their number -/
theorem limbs_of_ge (xs : List Int) (h : DigN xs) (hg : 0 < xs.length → bp (xs.length - 1) ≤ nval xs) : xs = limbs (nval xs).toNat := by
  rw [← trim_limbs xs h]
  symm
  apply trim_last
  intro h0
  by_cases hne : xs = []
  · rw [hne] at h0; exact absurd h0 (by decide)
  · have hn : 0 < xs.length := List.length_pos_iff.2 hne
    have e := (List.dropLast_concat_getLast hne).symm
    have hg2 : xs.getLastD 1 = xs.getLast hne := by
      rw [List.getLastD_eq_getLast?, List.getLast?_eq_some_getLast hne]
      rfl
    have h1 := hg hn
    rw [e, nval_append, ← hg2, h0] at h1
    have h2 := nval_lt xs.dropLast (fun d hd => h d (List.dropLast_subset _ hd))
    have h3 : nval [(0 : Int)] = 0 := rfl
    rw [h3, List.length_append, List.length_dropLast] at h1
    rw [List.length_dropLast] at h2
    simp only [List.length_singleton] at h1
    rw [show xs.length - 1 + 1 - 1 = xs.length - 1 by omega] at h1
    omega
theorem ok_ge {xs : List Int} (h : natOkB xs = true) (hn : 0 < xs.length) : bp (xs.length - 1) ≤ nval xs := nval_ge xs (natOk_parts h).1 (natOk_parts h).2.2 hn

/-- filled up with zeros to a length -/
def padL (xs : List Int) (n : Nat) : List Int := xs ++ List.replicate (n - xs.length) 0
theorem padL_length (xs : List Int) (n : Nat) : (padL xs n).length = max xs.length n := by unfold padL; rw [List.length_append, List.length_replicate]; omega
theorem padL_val (xs : List Int) (n : Nat) : nval (padL xs n) = nval xs := by unfold padL; rw [nval_append, nval_zeros]; omega
theorem padL_dig {xs : List Int} (h : DigN xs) (n : Nat) : DigN (padL xs n) := h.append (dig_zeros _)
theorem padL_long (xs : List Int) (n : Nat) (h : n ≤ xs.length) : padL xs n = xs := by unfold padL; rw [show n - xs.length = 0 by omega]; simp
theorem padL_at (xs : List Int) (k : Nat) (h : k < (padL xs (k + 1)).length) : (padL xs (k + 1))[k] = xs.getD k 0 := by
  unfold padL at h ⊢
  by_cases hk : k < xs.length
  · rw [List.getElem_append_left hk, List.getD_eq_getElem?_getD, List.getElem?_eq_getElem hk]; rfl
  · rw [List.getElem_append_right (by omega), List.getElem_replicate, List.getD_eq_getElem?_getD, List.getElem?_eq_none (by omega)]; rfl

/-- adding a value at a place: the new limbs; the carry -/
def addAtL (xs : List Int) (p : Nat) (v : Int) : List Int := (padL xs (p + 1)).set p ((v + xs.getD p 0) % 1000000000)
def addAtC (xs : List Int) (p : Nat) (v : Int) : Int := (v + xs.getD p 0) / 1000000000
theorem getD_dig {xs : List Int} (h : DigN xs) (p : Nat) : 0 ≤ xs.getD p 0 ∧ xs.getD p 0 ≤ 999999999 := by
  rw [List.getD_eq_getElem?_getD]
  by_cases hk : p < xs.length
  · rw [List.getElem?_eq_getElem hk]; exact h.at_ p hk
  · rw [List.getElem?_eq_none (by omega)]; show 0 ≤ (0 : Int) ∧ (0 : Int) ≤ 999999999; omega
theorem addAt_length (xs : List Int) (p : Nat) (v : Int) : (addAtL xs p v).length = max xs.length (p + 1) := by unfold addAtL; rw [List.length_set, padL_length]
theorem addAt_dig {xs : List Int} (h : DigN xs) (p : Nat) (v : Int) : DigN (addAtL xs p v) := (padL_dig h _).set p (by omega) (by omega)
theorem addAt_val (xs : List Int) (p : Nat) (v : Int) : nval (addAtL xs p v) + addAtC xs p v * bp (p + 1) = nval xs + v * bp p := by
  have hl : p < (padL xs (p + 1)).length := by rw [padL_length]; omega
  unfold addAtL addAtC
  rw [nval_set _ p _ hl, padL_val, padL_at]
  generalize xs.getD p 0 = d
  show nval xs + ((v + d) % 1000000000 - d) * bp p + (v + d) / 1000000000 * (1000000000 * bp p) = nval xs + v * bp p
  rw [← Int.mul_assoc, Int.add_assoc, ← Int.add_mul]
  rw [show (v + d) % 1000000000 - d + (v + d) / 1000000000 * 1000000000 = v by omega]
/-- a new last limb -/
theorem addAt_new (xs : List Int) (p : Nat) (v : Int) (hp : p = xs.length) (h0 : 0 < v) (h1 : v ≤ 999999999) : addAtC xs p v = 0 ∧ addAtL xs p v = xs ++ [v] := by
  subst hp
  have e : xs.getD xs.length 0 = 0 := by rw [List.getD_eq_getElem?_getD, List.getElem?_eq_none (Nat.le_refl _)]; rfl
  unfold addAtL addAtC padL
  rw [e]
  refine ⟨by omega, ?_⟩
  rw [show xs.length + 1 - xs.length = 1 by omega, List.set_append_right _ _ (Nat.le_refl _), Nat.sub_self]
  show xs ++ [(v + 0) % 1000000000] = xs ++ [v]
  rw [show (v + 0) % 1000000000 = v by omega]

/-- subtracting a value at a place; the borrow -/
def takeAtL (xs : List Int) (p : Nat) (v : Int) : List Int := xs.set p ((xs.getD p 0 - v) % 1000000000)
def takeAtC (xs : List Int) (p : Nat) (v : Int) : Int := -((xs.getD p 0 - v) / 1000000000)
theorem takeAt_length (xs : List Int) (p : Nat) (v : Int) : (takeAtL xs p v).length = xs.length := by unfold takeAtL; rw [List.length_set]
theorem takeAt_dig {xs : List Int} (h : DigN xs) (p : Nat) (v : Int) : DigN (takeAtL xs p v) := h.set p (by omega) (by omega)
theorem takeAt_bound {xs : List Int} (h : DigN xs) (p : Nat) (v : Int) (h0 : 0 ≤ v) (h1 : v ≤ 999999999000000000) : 0 ≤ takeAtC xs p v ∧ takeAtC xs p v ≤ 999999999 := by
  have hd := getD_dig h p
  unfold takeAtC
  omega
theorem takeAt_val (xs : List Int) (p : Nat) (v : Int) (hp : p < xs.length) : nval (takeAtL xs p v) - takeAtC xs p v * bp (p + 1) = nval xs - v * bp p := by
  have hg : xs.getD p 0 = xs[p] := by rw [List.getD_eq_getElem?_getD, List.getElem?_eq_getElem hp]; rfl
  unfold takeAtL takeAtC
  rw [nval_set _ p _ hp, hg]
  generalize xs[p] = d
  show nval xs + ((d - v) % 1000000000 - d) * bp p - -((d - v) / 1000000000) * (1000000000 * bp p) = nval xs - v * bp p
  rw [← Int.mul_assoc, Int.add_sub_assoc, ← Int.sub_mul]
  rw [show (d - v) % 1000000000 - d - -((d - v) / 1000000000) * 1000000000 = -v by omega, Int.neg_mul]
  omega
end Go.Proofs.YtcenmdiblbooeaaGreatDoor

namespace Go.Proofs.YtcenmdiblbooeaaGreatDoor
open Go.RowKit

/-- one limb more of a division -/
theorem div_step (x N D : Int) (hD : 0 < D) (hx0 : 0 ≤ x) (hx1 : x ≤ 999999999) :
    (x + 1000000000 * N) / D = (N % D * 1000000000 + x) / D + 1000000000 * (N / D) ∧ (x + 1000000000 * N) % D = (N % D * 1000000000 + x) % D ∧
      0 ≤ (N % D * 1000000000 + x) / D ∧ (N % D * 1000000000 + x) / D ≤ 999999999 ∧ 0 ≤ N % D ∧ N % D < D := by
  have h0 := Int.emod_nonneg N (show D ≠ 0 by omega)
  have h1 := Int.emod_lt_of_pos N hD
  have e : x + 1000000000 * N = (N % D * 1000000000 + x) + D * (1000000000 * (N / D)) := by
    have h2 := Int.emod_add_mul_ediv N D
    have h3 : 1000000000 * N = 1000000000 * (N % D) + D * (1000000000 * (N / D)) := by
      conv => lhs; rw [← h2, Int.mul_add, Int.mul_left_comm]
    omega
  refine ⟨?_, ?_, ?_, ?_, h0, h1⟩
  · rw [e, Int.add_mul_ediv_left _ _ (by omega)]
  · rw [e, Int.add_mul_emod_self_left]
  · exact Int.ediv_nonneg (by omega) (by omega)
  · have : (N % D * 1000000000 + x) / D < 1000000000 := Int.ediv_lt_of_lt_mul hD (by
      have h4 : N % D * 1000000000 + x < (N % D + 1) * 1000000000 := by omega
      have h5 : (N % D + 1) * 1000000000 ≤ D * 1000000000 := Int.mul_le_mul_of_nonneg_right (by omega) (by omega)
      omega)
    omega

/-- a division that has come down to limb k -/
def DivR (a : List Int) (D : Int) (k : Nat) (R : Int) (qs : List Int) : Prop :=
  R = nval (a.drop k) % D ∧ nval qs = nval (a.drop k) / D ∧ DigN qs ∧ qs.length + k = a.length
theorem DivR.start (a : List Int) (D : Int) : DivR a D a.length 0 [] := by
  refine ⟨?_, ?_, (fun d hd => by cases hd), by simp⟩
  · rw [List.drop_of_length_le (Nat.le_refl _)]; show (0 : Int) = 0 % D; simp
  · rw [List.drop_of_length_le (Nat.le_refl _)]; show (0 : Int) = 0 / D; simp
theorem DivR.bound {a : List Int} {D : Int} {k : Nat} {R : Int} {qs : List Int} (h : DivR a D k R qs) (hD : 0 < D) : 0 ≤ R ∧ R < D := by
  rw [h.1]
  exact ⟨Int.emod_nonneg _ (by omega), Int.emod_lt_of_pos _ hD⟩
theorem DivR.next {a : List Int} {D : Int} {i : Nat} {R : Int} {qs : List Int} (h : DivR a D (i + 1) R qs) (hD : 0 < D) (hd : DigN a) (hi : i < a.length) :
    DivR a D i ((R * 1000000000 + a[i]) % D) ((R * 1000000000 + a[i]) / D :: qs) := by
  obtain ⟨h1, h2, h3, h4⟩ := h
  have hx := hd.at_ i hi
  obtain ⟨e1, e2, e3, e4, _, _⟩ := div_step a[i] (nval (a.drop (i + 1))) D hD hx.1 hx.2
  subst h1
  refine ⟨by rw [nval_drop a i hi, e2], ?_, DigN.cons e3 e4 h3, by simp; omega⟩
  show _ + 1000000000 * nval qs = _
  rw [nval_drop a i hi, e1, h2]
theorem DivR.digit {a : List Int} {D : Int} {i : Nat} {R : Int} {qs : List Int} (h : DivR a D (i + 1) R qs) (hD : 0 < D) (hd : DigN a) (hi : i < a.length) :
    0 ≤ (R * 1000000000 + a[i]) / D ∧ (R * 1000000000 + a[i]) / D ≤ 999999999 := by
  have hx := hd.at_ i hi
  obtain ⟨_, _, e3, e4, _, _⟩ := div_step a[i] (nval (a.drop (i + 1))) D hD hx.1 hx.2
  rw [h.1]
  exact ⟨e3, e4⟩
theorem DivR.done {a : List Int} {D R : Int} {qs : List Int} (h : DivR a D 0 R qs) : trimL qs = limbs (nval a / D).toNat ∧ R = nval a % D := by
  obtain ⟨h1, h2, h3, h4⟩ := h
  rw [List.drop_zero] at h1 h2
  exact ⟨by rw [trim_limbs qs h3, h2], h1⟩
theorem zeros_set (i : Nat) (q : Int) (qs : List Int) : (List.replicate (i + 1) 0 ++ qs).set i q = List.replicate i 0 ++ (q :: qs) := by
  rw [List.replicate_succ', List.append_assoc, List.set_append_right _ _ (by simp), List.length_replicate, Nat.sub_self]
  rfl
theorem limbs_val (n : Nat) : nval (limbs n) = n := by
  induction n using Nat.strongRecOn with
  | _ n ih =>
    by_cases h0 : n = 0
    · subst h0; rw [limbs, dif_pos rfl]; rfl
    · rw [limbs, dif_neg h0]
      have := ih (n / 1000000000) (by omega)
      show ((n % 1000000000 : Nat) : Int) + 1000000000 * nval (limbs (n / 1000000000)) = n
      rw [this]
      omega
theorem limbs_toNat (N : Int) (h : 0 ≤ N) : nval (limbs N.toNat) = N := by rw [limbs_val]; omega
theorem limbs_digN (n : Nat) : DigN (limbs n) := by
  induction n using Nat.strongRecOn with
  | _ n ih =>
    by_cases h0 : n = 0
    · subst h0; rw [limbs, dif_pos rfl]; exact fun d hd => by cases hd
    · rw [limbs, dif_neg h0]
      exact DigN.cons (by omega) (by omega) (ih _ (by omega))
theorem limbs_lastN (n : Nat) : (limbs n).getLastD 1 ≠ 0 := by
  induction n using Nat.strongRecOn with
  | _ n ih =>
    by_cases h0 : n = 0
    · subst h0; rw [limbs, dif_pos rfl]; decide
    · by_cases hs : n / 1000000000 = 0
      · rw [limbs, dif_neg h0, hs, show limbs 0 = [] from by rw [limbs, dif_pos rfl]]
        show ((n % 1000000000 : Nat) : Int) ≠ 0
        omega
      · have hi := ih (n / 1000000000) (by omega)
        have e : limbs (n / 1000000000) = ((n / 1000000000 % 1000000000 : Nat) : Int) :: limbs (n / 1000000000 / 1000000000) := by rw [limbs, dif_neg hs]
        rw [limbs, dif_neg h0]
        rw [e] at hi ⊢
        simpa using hi
theorem limbs_length_le (n : Nat) (k : Nat) (h : (n : Int) < bp k) : (limbs n).length ≤ k := by
  rcases Nat.lt_or_ge k (limbs n).length with hl | hl
  · have h1 := nval_ge (limbs n) (limbs_digN n) (limbs_lastN n) (by omega)
    have h2 := bp_mono (show k ≤ (limbs n).length - 1 by omega)
    rw [limbs_val] at h1
    omega
  · exact hl
/-- the greatest digit -/
theorem digit_le (q r b : Int) (hb : 0 < b) : q * b ≤ r ↔ q ≤ r / b := (Int.le_ediv_iff_mul_le hb).symm
end Go.Proofs.YtcenmdiblbooeaaGreatDoor
