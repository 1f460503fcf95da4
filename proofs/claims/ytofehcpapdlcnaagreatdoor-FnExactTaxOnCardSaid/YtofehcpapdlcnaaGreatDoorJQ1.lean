/-
  MoneyCardTaxOnG, MoneyCardTaxOnH, Core, CurPlain, CurImpl, Law, VarLaw, CurTab, CurWorld, ErrIs, SenOnly, CurSenWorld, IntS, Obj, Box, NatPlain, NatPow, DivPlain, SignPlain, Signed, Loc0, MoneyPlain, Money, RatPlain, Rat, Loc
-/
import Derived.Test.YtofehcpapdlcnaaGreatDoorCards
import Derived.WalkKit
import Derived.JoinedCond
import Derived.Test.YtofehcpapdlcnaaGreatDoorRows
import Derived.WalkSpells
import Derived.WalkLawsBesides
import Derived.Deep.QuietTactic
import Derived.BigQuiet
import Derived.Lib.Hide
import Derived.Deep.MidRow
import Derived.ProofKit
import Derived.OpenShut
import Derived.Test.YtofehcpapdlcnaaGreatDoorTie
import Derived.Deep.DeepHandedRow
import Derived.OpenVars
import Derived.Lib.LaidU8
import Derived.LaidEql
import Derived.Stop.Asserts
import Derived.RowKitTokens
import Derived.Stop.LaidErr
import Derived.Lib.Builder
namespace Go.Proofs.YtofehcpapdlcnaaGreatDoor
open Go.ChangeShapes Go.WideShapes Go.ChangeAt Go.RowKit
set_option maxRecDepth 100000 in
theorem fnExactTaxOn_goes : false = Rows.fnExactTaxOnRow.goesBy Tryz.pinned.checked.prog := by kernel_rfl
end Go.Proofs.YtofehcpapdlcnaaGreatDoor

namespace Go.Proofs.YtofehcpapdlcnaaGreatDoor
open Go.ChangeShapes Go.WideShapes Go.ChangeAt Go.RowKit
set_option maxHeartbeats 4000000 in
set_option maxRecDepth 100000 in
theorem fnExactTaxOn_closed : joinedFacts Tryz.prog 3 Tryz.f3 (OpenSpec.ofChange Rows.fnExactTaxOnSpec).bare Rows.fnExactTaxOnRow = true := by
  unfold joinedFacts
  simp only [Bool.and_eq_true]
  repeat' apply And.intro
  all_goals (as_aux_lemma => kernel_rfl)
end Go.Proofs.YtofehcpapdlcnaaGreatDoor

namespace Go.Proofs.YtofehcpapdlcnaaGreatDoor
open Go.RowKit

theorem ret_bool {a b : Bool} (h : a = b) : Ending.returned (.bool a) = .returned (.bool b) := by rw [h]
theorem ret_int {k : IntKind} {a b : Int} (h : a = b) : Ending.returned (.int k a) = .returned (.int k b) := by rw [h]
/-- the slice value v reads as xs, an element a cell; its cells, if any, lie in a block from lo on and below hi -/
def Row (w : World) (lo hi : Nat) (v : Value) (xs : List Value) : Prop :=
  ∃ A c, v = .slice A xs.length c ∧ ∀ j u, xs[j]? = some u → ∃ a : Addr, A = some a ∧ lo ≤ a.block ∧ a.block < hi ∧ w.cell? (a.add j) = some u

section
variable {w w' : World} {lo hi : Nat} {v : Value} {xs : List Value}

theorem block_add (a : Addr) (n : Nat) : (a.add n).block = a.block := by
  unfold Addr.add
  split <;> rfl

theorem cell_lt {w : World} {p : Addr} {u : Value} (h : w.cell? p = some u) : p.block < w.heap.size := by
  rcases Nat.lt_or_ge p.block w.heap.size with hl | hl
  · exact hl
  · simp [World.cell?, Array.getElem?_eq_none hl] at h
/-- the reading stays where the cells below hi stay -/
theorem Row.stays (h : Row w lo hi v xs) (hk : ∀ p : Addr, p.block < hi → w'.cell? p = w.cell? p) : Row w' lo hi v xs := by
  obtain ⟨A, c, rfl, h⟩ := h
  refine ⟨A, c, rfl, fun j u hj => ?_⟩
  obtain ⟨a, e, h1, h2, h3⟩ := h j u hj
  exact ⟨a, e, h1, h2, (hk _ (by rw [block_add]; exact h2)).trans h3⟩
theorem Row.below {B : Nat} (h : Row w lo hi v xs) (hb : Below B w w') (hB : hi ≤ B) : Row w' lo hi v xs :=
  h.stays fun _ hp => hb.cell (by omega)
theorem Row.drewN (h : Row w lo hi v xs) (n : Nat) : Row (w.drewN n) lo hi v xs := h.stays fun _ _ => rfl
theorem Row.wide {lo' hi' : Nat} (h : Row w lo hi v xs) (h1 : lo' ≤ lo) (h2 : hi ≤ hi') : Row w lo' hi' v xs := by
  obtain ⟨A, c, rfl, h⟩ := h
  refine ⟨A, c, rfl, fun j u hj => ?_⟩
  obtain ⟨a, e, k1, k2, k3⟩ := h j u hj
  exact ⟨a, e, by omega, by omega, k3⟩
theorem Row.nil_ (A : Option Addr) (c : Nat) : Row w lo hi (.slice A 0 c) [] := ⟨A, c, rfl, fun j u hj => absurd hj (by simp)⟩

/-- a row that the call owns reads as its cells -/
theorem Row.of_own {base : Nat} {e : TypeId} {n : Nat} (h : w.ownsRow base e 1 v n xs) : Row w base w.heap.size v xs := by
  obtain ⟨hl, h | ⟨g, cap, cur, rfl, hb, hh, _, _, hcs, ht⟩⟩ := h
  · obtain ⟨rfl, rfl⟩ := h
    obtain rfl : xs = [] := List.eq_nil_of_length_eq_zero (by omega)
    exact Row.nil_ _ _
  · have hln : xs.length = n := by omega
    refine ⟨some ⟨g, 0, none⟩, cap, by rw [hln], fun j u hu => ⟨_, rfl, hb, ?_, ?_⟩⟩
    · exact (Array.getElem?_eq_some_iff.1 hh).1
    · have e1 : (Addr.add ⟨g, 0, none⟩ j) = ⟨g, j, none⟩ := by
        unfold Addr.add
        split
        · simp_all
        · simp
      rw [e1, cell_of_row w g j cur e (0, 0) hh]
      have hj : j < xs.length := (List.getElem?_eq_some_iff.1 hu).1
      have h2 : cur.toList[j]? = some u := by
        rw [← List.getElem?_take_of_lt (show j < n * 1 by omega), ht]
        exact hu
      simpa using h2
end

/-- a row of the call's own stays where its block stays -/
theorem own_stays {w w' : World} {base size n : Nat} {e : TypeId} {v : Value} {xs : List Value} (h : w.ownsRow base e size v n xs) (hk : ∀ g, v.ownBlock = some g → w'.heap[g]? = w.heap[g]?) : w'.ownsRow base e size v n xs := by
  obtain ⟨hl, h | ⟨g, cap, cur, rfl, hb, hh, r⟩⟩ := h
  · exact ⟨hl, .inl h⟩
  · exact ⟨hl, .inr ⟨g, cap, cur, rfl, hb, (hk g rfl).trans hh, r⟩⟩
theorem own_lt {w : World} {base size n g : Nat} {e : TypeId} {v : Value} {xs : List Value} (h : w.ownsRow base e size v n xs) (hg : v.ownBlock = some g) : base ≤ g ∧ g < w.heap.size := by
  obtain ⟨_, ⟨rfl, _⟩ | ⟨g', cap, cur, rfl, hb, hh, _⟩⟩ := h
  · cases hg
  · cases hg
    exact ⟨hb, (Array.getElem?_eq_some_iff.1 hh).1⟩
theorem own_form {w : World} {base size n : Nat} {e : TypeId} {v : Value} {xs : List Value} (h : w.ownsRow base e size v n xs) (hn : 0 < n) : ∃ g cap, v = .slice (some ⟨g, 0, none⟩) n cap ∧ base ≤ g ∧ g < w.heap.size ∧ n ≤ cap := by
  obtain ⟨_, ⟨_, h0⟩ | ⟨g, cap, cur, e1, hb, hh, hc, _⟩⟩ := h
  · omega
  · exact ⟨g, cap, e1, hb, (Array.getElem?_eq_some_iff.1 hh).1, hc⟩
theorem own_below {w w' : World} {base size n : Nat} {e : TypeId} {v : Value} {xs : List Value} (h : w.ownsRow base e size v n xs) (hb : Below w.heap.size w w') : w'.ownsRow base e size v n xs :=
  own_stays h fun g hg => hb.block g (own_lt h hg).2
theorem own_alloc {w : World} {base size n : Nat} {e : TypeId} {v : Value} {xs : List Value} (h : w.ownsRow base e size v n xs) (o : Obj) : (w.alloc o).ownsRow base e size v n xs :=
  own_below h ((Below.refl _ _).alloc (Nat.le_refl _) o)
theorem grown_trans {a b c : World} {row : Option Nat} (h : a.grownBy b row) (k : b.grownBy c row) : a.grownBy c row :=
  ⟨k.os.trans h.os, k.tape.trans h.tape, k.output.trans h.output, Nat.le_trans h.size k.size, fun i hi hne => (k.block i (Nat.lt_of_lt_of_le hi h.size) hne).trans (h.block i hi hne)⟩
theorem below_drewN {B : Nat} {a w : World} (h : Below B a w) (n : Nat) : Below B a (w.drewN n) := ⟨h.os, h.tape, h.output, h.size, h.block⟩

/-- behind an append of something new onto a row of the call's own, old memory is as it was -/
theorem below_push {w wr w' : World} {B size n : Nat} {e : TypeId} {v : Value} {xs : List Value} {o : Obj} (hb : Below B w wr) (hB : B ≤ w.heap.size) (hown : wr.ownsRow B e size v n xs) (hg : (wr.alloc o).grownBy w' v.ownBlock) : Below B w w' := by
  have hs := hb.size
  exact (hb.alloc (by omega) o).grown hg (by simp; omega) (fun k hk => (own_lt hown hk).1)
theorem one_new (w : World) (x : Value) (t : TypeId) : ∀ (j : Nat) (u : Value), [x][j]? = some u → (w.alloc (.cells #[x] t)).cell? (Addr.add ⟨w.heap.size, 0, none⟩ j) = some u := by
  intro j u h
  cases j with
  | zero =>
    have : (Addr.add ⟨w.heap.size, 0, none⟩ 0) = ⟨w.heap.size, 0, none⟩ := rfl
    rw [this, World.cell?_alloc_at _ _ _ _ rfl]
    simpa using h
  | succ j => simp at h

theorem Below.next {a b c : World} (h : Below a.heap.size a b) (k : Below b.heap.size b c) : Below a.heap.size a c := h.trans (k.mono h.size)

theorem own_apart {w w' : World} {base size n : Nat} {e : TypeId} {v : Value} {xs : List Value} {row : Option Nat} (h : w.ownsRow base e size v n xs) (hg : w.grownBy w' row) (hne : ∀ g k, v.ownBlock = some g → row = some k → g ≠ k) : w'.ownsRow base e size v n xs :=
  own_stays h fun g hv => hg.block g (own_lt h hv).2 (fun e => hne g g hv e.symm rfl)
theorem own_drew {w : World} {base size n : Nat} {e : TypeId} {v : Value} {xs : List Value} (h : w.ownsRow base e size v n xs) (q : Nat) : (w.drewN q).ownsRow base e size v n xs := h
theorem decide_refl {α : Type} [DecidableEq α] (x : α) : decide (x = x) = true := decide_eq_true rfl
/-- where a row of the call's own lies -/
def Lies (v : Value) (lo hi : Nat) : Prop := ∀ g, v.ownBlock = some g → lo ≤ g ∧ g < hi
theorem Lies.of {w : World} {base size n : Nat} {e : TypeId} {v : Value} {xs : List Value} (h : w.ownsRow base e size v n xs) : Lies v base w.heap.size := fun _ hg => own_lt h hg
theorem Lies.apart {u v : Value} {a b c d : Nat} (h : Lies u a b) (k : Lies v c d) (hd : b ≤ c ∨ d ≤ a) : ∀ x y, u.ownBlock = some x → v.ownBlock = some y → x ≠ y := by
  intro x y hx hy
  have := h x hx
  have := k y hy
  omega
theorem own_len {w : World} {base n : Nat} {e : TypeId} {v : Value} {xs : List Value} (h : w.ownsRow base e 1 v n xs) : ∃ A c, v = .slice A n c := by
  rcases h.2 with ⟨rfl, rfl⟩ | ⟨g, cap, cur, rfl, _⟩
  · exact ⟨_, _, rfl⟩
  · exact ⟨_, _, rfl⟩
end Go.Proofs.YtofehcpapdlcnaaGreatDoor

namespace Go.Proofs.YtofehcpapdlcnaaGreatDoor
open Go.RowKit

/-- code, number, places, cash -/
abbrev CR : Type := ByteArray × ByteArray × Int × Int
def specT : List CR := [
  (⟨#[65, 85, 68]⟩, ⟨#[48, 51, 54]⟩, 2, 5),
  (⟨#[66, 72, 68]⟩, ⟨#[48, 52, 56]⟩, 3, 5),
  (⟨#[67, 65, 68]⟩, ⟨#[49, 50, 52]⟩, 2, 5),
  (⟨#[67, 72, 70]⟩, ⟨#[55, 53, 54]⟩, 2, 5),
  (⟨#[67, 76, 70]⟩, ⟨#[57, 57, 48]⟩, 4, 1),
  (⟨#[67, 90, 75]⟩, ⟨#[50, 48, 51]⟩, 2, 100),
  (⟨#[68, 75, 75]⟩, ⟨#[50, 48, 56]⟩, 2, 50),
  (⟨#[69, 85, 82]⟩, ⟨#[57, 55, 56]⟩, 2, 1),
  (⟨#[71, 66, 80]⟩, ⟨#[56, 50, 54]⟩, 2, 1),
  (⟨#[72, 85, 70]⟩, ⟨#[51, 52, 56]⟩, 2, 500),
  (⟨#[73, 83, 75]⟩, ⟨#[51, 53, 50]⟩, 0, 1),
  (⟨#[74, 80, 89]⟩, ⟨#[51, 57, 50]⟩, 0, 1),
  (⟨#[75, 82, 87]⟩, ⟨#[52, 49, 48]⟩, 0, 10),
  (⟨#[75, 87, 68]⟩, ⟨#[52, 49, 52]⟩, 3, 5),
  (⟨#[78, 79, 75]⟩, ⟨#[53, 55, 56]⟩, 2, 100),
  (⟨#[78, 90, 68]⟩, ⟨#[53, 53, 52]⟩, 2, 10),
  (⟨#[80, 76, 78]⟩, ⟨#[57, 56, 53]⟩, 2, 1),
  (⟨#[83, 69, 75]⟩, ⟨#[55, 53, 50]⟩, 2, 100),
  (⟨#[84, 78, 68]⟩, ⟨#[55, 56, 56]⟩, 3, 10),
  (⟨#[85, 83, 68]⟩, ⟨#[56, 52, 48]⟩, 2, 1)]
def implT : List CR := [
  (⟨#[67, 72, 70]⟩, ⟨#[55, 53, 54]⟩, 2, 5),
  (⟨#[69, 85, 82]⟩, ⟨#[57, 55, 56]⟩, 2, 1),
  (⟨#[85, 83, 68]⟩, ⟨#[56, 52, 48]⟩, 2, 1),
  (⟨#[71, 66, 80]⟩, ⟨#[56, 50, 54]⟩, 2, 1),
  (⟨#[74, 80, 89]⟩, ⟨#[51, 57, 50]⟩, 0, 1),
  (⟨#[83, 69, 75]⟩, ⟨#[55, 53, 50]⟩, 2, 100),
  (⟨#[78, 79, 75]⟩, ⟨#[53, 55, 56]⟩, 2, 100),
  (⟨#[68, 75, 75]⟩, ⟨#[50, 48, 56]⟩, 2, 50),
  (⟨#[67, 90, 75]⟩, ⟨#[50, 48, 51]⟩, 2, 100),
  (⟨#[72, 85, 70]⟩, ⟨#[51, 52, 56]⟩, 2, 500),
  (⟨#[80, 76, 78]⟩, ⟨#[57, 56, 53]⟩, 2, 1),
  (⟨#[67, 65, 68]⟩, ⟨#[49, 50, 52]⟩, 2, 5),
  (⟨#[65, 85, 68]⟩, ⟨#[48, 51, 54]⟩, 2, 5),
  (⟨#[78, 90, 68]⟩, ⟨#[53, 53, 52]⟩, 2, 10),
  (⟨#[75, 87, 68]⟩, ⟨#[52, 49, 52]⟩, 3, 5),
  (⟨#[66, 72, 68]⟩, ⟨#[48, 52, 56]⟩, 3, 5),
  (⟨#[84, 78, 68]⟩, ⟨#[55, 56, 56]⟩, 3, 10),
  (⟨#[73, 83, 75]⟩, ⟨#[51, 53, 50]⟩, 0, 1),
  (⟨#[75, 82, 87]⟩, ⟨#[52, 49, 48]⟩, 0, 10),
  (⟨#[67, 76, 70]⟩, ⟨#[57, 57, 48]⟩, 4, 1)]
def cellsC (r : CR) : List Value := [.string r.1, .string r.2.1, .int .i64 r.2.2.1, .int .i64 r.2.2.2]
def cellsT (l : List CR) : List Value := l.flatMap cellsC
def codesT (l : List CR) : List ByteArray := l.map (·.1)
theorem find_of_mem {α β : Type} [DecidableEq β] {f : α → β} : ∀ {l : List α}, (l.map f).Nodup → ∀ {r : α}, r ∈ l → l.find? (fun x => decide (f x = f r)) = some r
  | [], _, _, h => absurd h List.not_mem_nil
  | x :: l, hn, r, h => by
    rw [List.map_cons, List.nodup_cons] at hn
    rw [List.find?_cons]
    rcases List.mem_cons.1 h with rfl | h
    · simp
    · have : ¬ f x = f r := fun e => hn.1 (by rw [e]; exact List.mem_map_of_mem h)
      rw [decide_eq_false this]
      exact find_of_mem hn.2 h
theorem find_perm {α β : Type} [DecidableEq β] {f : α → β} {l m : List α} (hl : (l.map f).Nodup) (hm : (m.map f).Nodup) (h1 : ∀ x ∈ l, x ∈ m) (h2 : ∀ x ∈ m, x ∈ l) (b : β) :
    l.find? (fun x => decide (f x = b)) = m.find? (fun x => decide (f x = b)) := by
  cases h : l.find? (fun x => decide (f x = b)) with
  | some r =>
    have hr := List.mem_of_find?_eq_some h
    have hb : f r = b := by simpa using List.find?_some h
    subst hb
    exact (find_of_mem hm (h1 r hr)).symm
  | none =>
    cases k : m.find? (fun x => decide (f x = b)) with
    | none => rfl
    | some r =>
      have hr := List.mem_of_find?_eq_some k
      have hb : f r = b := by simpa using List.find?_some k
      subst hb
      rw [find_of_mem hl (h2 r hr)] at h
      cases h
theorem sub_of {l m : List CR} (h : (l.all fun x => m.any fun y => decide (x = y)) = true) : ∀ x ∈ l, x ∈ m := fun x hx => by
  have := List.all_eq_true.1 h x hx
  obtain ⟨y, hy, e⟩ := List.any_eq_true.1 this
  rw [of_decide_eq_true e]
  exact hy
set_option maxRecDepth 100000 in
theorem implT_sub : ∀ x ∈ implT, x ∈ specT := sub_of (by decide +kernel)
set_option maxRecDepth 100000 in
theorem specT_sub : ∀ x ∈ specT, x ∈ implT := sub_of (by decide +kernel)
set_option maxRecDepth 100000 in
theorem implT_codes : (implT.map fun r => r.1).Nodup := by decide +kernel
set_option maxRecDepth 100000 in
theorem specT_codes : (specT.map fun r => r.1).Nodup := by decide +kernel
theorem implT_len : implT.length = 20 := rfl
theorem take_next {l : List CR} {φ : CR → Prop} {k : Nat} (h : ∀ r ∈ l.take k, φ r) (hk : k < l.length) (hx : φ l[k]) : ∀ r ∈ l.take (k + 1), φ r := by
  intro r hr
  rw [List.take_succ_eq_append_getElem hk] at hr
  rcases List.mem_append.1 hr with hr | hr
  · exact h r hr
  · rw [List.mem_singleton.1 hr]
    exact hx
theorem bytes_neC {a b : ByteArray} (h : ¬ a = b) : (a.toList == b.toList) = false := by
  rw [beq_eq_false_iff_ne, ByteArray.toList_eq, ByteArray.toList_eq]
  exact fun e => h (WideShapes.bytes_inj e)
theorem cellsT_cons (r : CR) (l : List CR) : cellsT (r :: l) = cellsC r ++ cellsT l := by simp [cellsT]
theorem cellsT_get : ∀ (l : List CR) (k j : Nat) (hk : k < l.length), j < 4 → (cellsT l)[k * 4 + j]? = (cellsC l[k])[j]?
  | [], k, j, hk, _ => absurd hk (by simp)
  | r :: l, 0, j, _, hj => by
    rw [cellsT_cons, Nat.zero_mul, Nat.zero_add, List.getElem?_append_left (by simpa [cellsC] using hj)]
    rfl
  | r :: l, k + 1, j, hk, hj => by
    have e : (k + 1) * 4 + j = (cellsC r).length + (k * 4 + j) := by simp [cellsC]; omega
    rw [cellsT_cons, e, List.getElem?_append_right (by omega), Nat.add_sub_cancel_left, cellsT_get l k j (by simpa using hk) hj]
    rfl
end Go.Proofs.YtofehcpapdlcnaaGreatDoor

namespace Go.Proofs.YtofehcpapdlcnaaGreatDoor
open Go.RowKit

def CurTab (w : World) : Prop := w.var? Tryz.prog "loop.example/g00793/impl.currencies" = some (cellsT implT).toArray
theorem curNamed : Tryz.prog.globalNamed "loop.example/g00793/impl.currencies" = some 1 := by kernel_rfl
theorem CurTab.lt {w : World} (h : CurTab w) : 1 < w.heap.size := by
  unfold CurTab World.var? at h
  rw [curNamed] at h
  simp only [Option.bind_some] at h
  cases hh : w.heap[1]? with
  | none => rw [hh] at h; cases h
  | some o => exact (Array.getElem?_eq_some_iff.1 hh).1
theorem CurTab.below {w w' : World} (h : CurTab w) (hb : Below w.heap.size w w') : CurTab w' := by
  have hl := h.lt
  unfold CurTab World.var? at h ⊢
  rw [curNamed] at h ⊢
  simp only [Option.bind_some] at h ⊢
  rw [hb.block _ hl]
  exact h
theorem CurTab.range {w : World} (h : CurTab w) : w.rangeAt 1 0 (cellsT implT) := by
  intro j v hv
  rw [World.var?_cell curNamed h (0 + j), Nat.zero_add]
  simpa using hv
theorem curInfo : (Tryz.prog.info? 201).map (·.size) = some (cellsT implT).length := by kernel_rfl
set_option maxRecDepth 100000 in
theorem cur_index (k : Nat) (hk : k < 20) (w : World) : (Instr.index 201 (.agg (cellsT implT).toArray) (.int .i64 (k : Int))).run Tryz.prog w = .ok (.agg (cellsC (implT[k]'hk)).toArray) w := by
  have h : k = 0 ∨ k = 1 ∨ k = 2 ∨ k = 3 ∨ k = 4 ∨ k = 5 ∨ k = 6 ∨ k = 7 ∨ k = 8 ∨ k = 9 ∨ k = 10 ∨ k = 11 ∨ k = 12 ∨ k = 13 ∨ k = 14 ∨ k = 15 ∨ k = 16 ∨ k = 17 ∨ k = 18 ∨ k = 19 := by omega
  rcases h with h | h | h | h | h | h | h | h | h | h | h | h | h | h | h | h | h | h | h | h <;> (subst h; show _ = _; kernel_rfl)
end Go.Proofs.YtofehcpapdlcnaaGreatDoor

namespace Go.Proofs.YtofehcpapdlcnaaGreatDoor
open Go.ChangeShapes Go.WideShapes Go.ChangeAt Go.RowKit

theorem Tryz.own : ownKnob Tryz.prog.godebug = none := by kernel_rfl
theorem Tryz.laidOut : laidOutB Tryz.prog = true := by kernel_rfl

section
variable {H : Type} {enc : TypeId × Value → H} {P : Program}

/-- the types of a list can all be read, and all lie in the program's table -/
def legible (P : Program) (ts : List TypeId) : Bool := ts.all fun t => P.readableRec t && decide (t < P.types.size)

theorem args_below (hl : laidOutB P = true) {W W' : World} (hb : Below W.heap.size W W') :
    ∀ {ts : List TypeId} {vs : List Value} {ds : List (DataW H)} {ps : List MemPlace}, legible P ts = true → DataW.TrodAll enc P W 0 (fun _ => true) true ts vs ds ps → (∀ x ∈ ps, x.block < W.heap.size) →
      DataW.TrodAll enc P W' 0 (fun b => decide (b < W.heap.size)) true ts vs ds ps
  | [], _, _, _, _, h, _ => by
    obtain ⟨rfl, rfl, rfl⟩ := trodAll_nil h
    rfl
  | t :: ts, _, _, _, hr, h, hlt => by
    obtain ⟨v, vs, d, ds, p, q, rfl, rfl, rfl, h1, h2⟩ := trodAll_cons h
    simp only [legible, List.all_cons, Bool.and_eq_true, decide_eq_true_eq] at hr
    exact ⟨p, q, Below.trod hl hr.1.1 hr.1.2 h1 hb (fun x hx => hlt x (List.mem_append_left _ hx)), args_below hl hb (by simpa only [legible] using hr.2) h2 (fun x hx => hlt x (List.mem_append_right _ hx)), rfl⟩

end

end Go.Proofs.YtofehcpapdlcnaaGreatDoor

namespace Go.Proofs.YtofehcpapdlcnaaGreatDoor
open Go.ChangeShapes Go.WideShapes Go.ChangeAt Go.RowKit

theorem trodVars_length {H : Type} {enc : TypeId × Value → H} {P : Program} {w : World} {sp : Nat → Bool} : ∀ {ns : List String} {gs : List (DataW H)} {ps : List MemPlace}, DataW.TrodVars enc P w sp ns gs ps → gs.length = ns.length
  | [], [], _, _ => rfl
  | [], _ :: _, _, h => h.elim
  | _ :: _, [], _, h => h.elim
  | _ :: _, _ :: _, _, h => by
    obtain ⟨_, _, _, _, _, q, _, _, _, _, h5, _⟩ := h
    simp [trodVars_length h5]

/-- the post of a law that names variables -/
theorem law_postV {H : Type} {enc : TypeId × Value → H} {f : Func} {s : ChangeSpec} {tb : TypeId} {W W' : World} {args : Array Value} {ds gs : List (DataW H)} {before : List MemPlace}
    (hr : legible Tryz.prog f.params.toList = true) (hty : f.resultTypes = #[tb]) (htb : Tryz.prog.underlying tb = some .bool) (hv : varsRowed Tryz.prog s.vars = true)
    (hfn : ∀ gs : List (DataW H), gs.length = s.vars.length → s.fn H (ds ++ gs) = { results := [.lit (.bool true)], args := ds, vars := gs })
    (hW : DataW.Whole enc Tryz.prog f.params.toList s.vars false W args.toList ds gs before) (hb : Below W.heap.size W W') :
    s.post enc Tryz.prog f false true false false W args (.bool true) W' := by
  have hW' := hW
  obtain ⟨p, q, hA, hV, rfl, _, _⟩ := hW
  have hlt : ∀ x ∈ p, x.block < W.heap.size := fun x hx => hW'.lt x (by simp [hx])
  have e := hfn gs (trodVars_length hV)
  refine ⟨ds, gs, _, [], p, q, hW', ?_, ?_, ?_, hb.frame _, fun h => by cases h⟩
  · rw [e, hty]
    exact trodAll_mk1 (shut_bool htb _)
  · rw [e]
    exact args_below Tryz.laidOut hb hr hA hlt
  · rw [e]
    exact Below.trodVars Tryz.laidOut hb hv hV

set_option maxRecDepth 100000 in
/-- from the walk at every argument, the listed variables at hand, to the lifted row -/
theorem law_lifted_vars {H : Type} {enc : TypeId × Value → H} {os : Os} (started : os.Started) {F : Stop.Interp} {f : FuncId} {fn : Func} {s : ChangeSpec} {conds : List PathCond} {tb : TypeId} {laidL : List (String × DataW Unit)}
    (noInit : Tryz.prog.inits.idxOf? f = none) (hfun : Tryz.prog.funcs[f]? = some fn)
    (hr : legible Tryz.prog fn.params.toList = true) (hty : fn.resultTypes = #[tb]) (htb : Tryz.prog.underlying tb = some .bool) (hv : varsRowed Tryz.prog s.vars = true)
    (witness : ∃ (w : World) (tape : Tape) (i : Input), w.os = os ∧ (w.forCall tape i).Shaped Tryz.checked.prog ∧ i.vars = [] ∧ Input.okWide Tryz.checked.prog (w.forCall tape i) .any w.heap.size f i ∧
      (OpenSpec.ofChange s).preRow enc Tryz.checked.prog fn conds false laidL (w.forCall tape i).memory i.args ∧ Assume.holds {} Tryz.checked.prog (lone (Frame.enter Tryz.checked.prog f i.args .normal) [] (w.forCall tape i)))
    (walk : ∀ (W : World) (base : Nat) (args : Array Value) (ds : List (DataW H)) (p : List MemPlace),
      (∀ (j : Nat) t v, fn.params[j]? = some t → args[j]? = some v → Value.okWide Tryz.prog W .any base t v) →
      DataW.TrodAll enc Tryz.prog W 0 (fun _ => true) true fn.params.toList args.toList ds p → (∀ x ∈ p, x.block < W.heap.size) → laidMetH Tryz.prog laidL W →
      (∀ gs : List (DataW H), gs.length = s.vars.length → s.fn H (ds ++ gs) = { results := [.lit (.bool true)], args := ds, vars := gs }) ∧ Calls Tryz.prog f args W fun e W' => e = .returned (.bool true) ∧ Below W.heap.size W W') :
    ReturnsInHanded {} Tryz.checked os f .any ((OpenSpec.ofChange s).preRow enc Tryz.prog fn conds false laidL) (((OpenSpec.ofChange s).at F).post enc Tryz.prog fn false true false false) := by
  refine returnsInHanded_of_row (C := Tryz.checked) (s := OpenSpec.ofChange s) Tryz.own started noInit hfun witness ?_
  intro W base args ds gs before hval hW0 _ _ _ hL _ _
  have hW : DataW.Whole enc Tryz.prog fn.params.toList s.vars false W args.toList ds gs before := hW0
  have hW' := hW
  obtain ⟨p, q, hA, hV, rfl, _, _⟩ := hW
  obtain ⟨hfn, hc⟩ := walk W base args ds p hval hA (fun x hx => hW'.lt x (by simp [hx])) hL
  refine hc.mono fun e W' ⟨he, hb⟩ => ?_
  subst he
  exact ⟨_, rfl, law_postV hr hty htb hv hfn hW' hb⟩
end Go.Proofs.YtofehcpapdlcnaaGreatDoor

namespace Go.Proofs.YtofehcpapdlcnaaGreatDoor
open Go.ChangeShapes Go.WideShapes Go.ChangeAt Go.RowKit

def dataC (r : CR) : DataW Unit := .agg [.lit (.string r.1.data.toList), .lit (.string r.2.1.data.toList), .lit (.int .i64 r.2.2.1), .lit (.int .i64 r.2.2.2)]
theorem curData : (Rows.laid_loop_example_g00793_impl_currencies : DataW Unit) = .agg (implT.map dataC) := by kernel_rfl
theorem curType : (Tryz.prog.globals[1]?).map (·.type) = some 201 := by kernel_rfl
theorem curCells : Tryz.prog.cellsOf 201 = 80 := by kernel_rfl
theorem rowCells : Tryz.prog.cellsOf 167 = 4 := by kernel_rfl
theorem strCellsC : Tryz.prog.cellsOf 9 = 1 := by kernel_rfl
theorem intCellsC : Tryz.prog.cellsOf 3 = 1 := by kernel_rfl
theorem data_inj {a b : ByteArray} (h : a.data.toList = b.data.toList) : a = b := by
  cases a with
  | mk x =>
    cases b with
    | mk y => exact congrArg ByteArray.mk (Array.toList_inj.1 h)
set_option maxHeartbeats 400000 in
set_option maxRecDepth 100000 in
theorem row_read {fuel : Nat} {W : World} {cs : List Value} {r : CR} {p : List MemPlace}
    (h : DataW.trod (fun _ => ()) Tryz.prog W 0 (fun _ => true) false fuel 167 cs = some (dataC r, p)) : cs = cellsC r := by
  obtain ⟨xs, n, rfl, hx, hl, hxl, hall⟩ := DataW.trod_struct Tryz.underlying167 h
  rw [rowCells] at hl
  have h0 : DataW.trod (fun _ => ()) Tryz.prog W 0 (fun _ => true) false n 9 ((cs.drop 0).take (Tryz.prog.cellsOf 9)) = xs[0]? := hall 0 _ rfl
  have h1 : DataW.trod (fun _ => ()) Tryz.prog W 0 (fun _ => true) false n 9 ((cs.drop 1).take (Tryz.prog.cellsOf 9)) = xs[1]? := hall 1 _ rfl
  have h2 : DataW.trod (fun _ => ()) Tryz.prog W 0 (fun _ => true) false n 3 ((cs.drop 2).take (Tryz.prog.cellsOf 3)) = xs[2]? := hall 2 _ rfl
  have h3 : DataW.trod (fun _ => ()) Tryz.prog W 0 (fun _ => true) false n 3 ((cs.drop 3).take (Tryz.prog.cellsOf 3)) = xs[3]? := hall 3 _ rfl
  rw [strCellsC] at h0 h1
  rw [intCellsC] at h2 h3
  match cs, hl with
  | [c0, c1, c2, c3], _ =>
    match xs, hxl with
    | [x0, x1, x2, x3], _ =>
      obtain ⟨s0, e0, k0, _⟩ := DataW.trod_string Tryz.underlying9 h0
      obtain ⟨s1, e1, k1, _⟩ := DataW.trod_string Tryz.underlying9 h1
      obtain ⟨n2, e2, k2, _⟩ := DataW.trod_int Tryz.underlying3 h2
      obtain ⟨n3, e3, k3, _⟩ := DataW.trod_int Tryz.underlying3 h3
      simp at e0 e1 e2 e3
      subst e0 e1 e2 e3 k0 k1 k2 k3
      have hx1 := congrArg Prod.fst hx
      simp only [dataC, List.map_cons, List.map_nil, DataW.agg.injEq, List.cons.injEq, DataW.lit.injEq, Lit.string.injEq, Lit.int.injEq, true_and, and_true] at hx1
      obtain ⟨y0, y1, y2, y3⟩ := hx1
      unfold cellsC
      rw [data_inj y0, data_inj y1, y2, y3]
theorem cellsT_length : ∀ l : List CR, (cellsT l).length = l.length * 4
  | [] => rfl
  | r :: l => by
    rw [show cellsT (r :: l) = cellsC r ++ cellsT l by simp [cellsT], List.length_append, cellsT_length l]
    simp [cellsC]
    omega
theorem curTab_of {l : List (String × DataW Unit)} {W : World} (h : laidMet Tryz.prog l W) (hm : ("loop.example/g00793/impl.currencies", (Rows.laid_loop_example_g00793_impl_currencies : DataW Unit)) ∈ l) : CurTab W := by
  obtain ⟨g, t, cs, fuel, p, hg, ht, hvar, hd⟩ := Lib.laidMet.reads h hm
  obtain rfl := Option.some.inj (curNamed.symm.trans hg)
  obtain rfl := Option.some.inj (curType.symm.trans ht)
  rw [curData] at hd
  unfold CurTab
  rw [hvar]
  have hlen : cs.toList.length = 80 := by
    cases fuel with
    | zero => simp [DataW.trod] at hd
    | succ fuel =>
      simp only [DataW.trod, Tryz.underlying201, curCells] at hd
      split at hd
      · assumption
      · cases hd
  have hrow : ∀ i (hi : i < implT.length), (cs.toList.drop (i * 4)).take 4 = cellsC implT[i] := fun i hi => by
    obtain ⟨fuel', d, q, hdi, he⟩ := Lib.array_elem Tryz.underlying201 hd i hi
    rw [List.getElem?_map, List.getElem?_eq_getElem hi] at hdi
    obtain rfl := Option.some.inj hdi
    rw [rowCells] at he
    exact row_read he
  congr 1
  apply Array.toList_inj.1
  apply List.ext_getElem?
  intro m
  by_cases hlt : m < 80
  · have hi : m / 4 < implT.length := by rw [implT_len]; omega
    have e := congrArg (·[m % 4]?) (hrow (m / 4) hi)
    have hj : m % 4 < 4 := Nat.mod_lt _ (by decide)
    simp only [List.getElem?_take, List.getElem?_drop, hj, if_true] at e
    rw [← cellsT_get implT (m / 4) (m % 4) hi hj, show m / 4 * 4 + m % 4 = m by omega] at e
    simpa using e
  · rw [List.getElem?_eq_none (by omega), List.getElem?_eq_none (by simp [cellsT_length, implT_len]; omega)]
end Go.Proofs.YtofehcpapdlcnaaGreatDoor

namespace Go.Proofs.YtofehcpapdlcnaaGreatDoor
open Go.ChangeShapes Go.WideShapes Go.ChangeAt Go.RowKit

def putC (cs : Array Value) : Obj → Obj
  | .cells _ t frozen => .cells cs t frozen
  | o => o
end Go.Proofs.YtofehcpapdlcnaaGreatDoor

namespace Go.Proofs.YtofehcpapdlcnaaGreatDoor
open Go.RowKit Go.Extern.Stop Go.Stop Go.Extern

theorem isTypeOf (v : Value) (w : World) : (Extern.ReflectliteType.typeOf #[.iface 254 v]).run Tryz.prog w = .ok (.iface 230 (.agg #[.pointer (some ⟨10, 254, none⟩)])) w := by kernel_rfl
theorem isComparable (w : World) : ((Extern.ReflectliteType.method fun t => do Extern.Rtype.noPackHeld "Comparable" t; (fun a => Value.bool a.comparable) <$> typeInfo t) #[.agg #[.pointer (some ⟨10, 254, none⟩)]]).run Tryz.prog w = .ok (.bool true) w := by kernel_rfl
theorem isMethodComparable (v : Value) (w : World) : (Go.method 387 230 v "Comparable").run Tryz.prog w = .ok (289, v) w := by kernel_rfl
theorem isComp : (Tryz.prog.info? 254).map (·.comparable) = some true := by kernel_rfl
theorem isSize : (Tryz.prog.info? 276).map (·.size) = some 1 := by kernel_rfl
/-- the sentinel is at hand -/
def Sen (w : World) : Prop := ∃ a : Addr, w.cell? ⟨0, 0, none⟩ = some (.iface 254 (.pointer (some a)))
theorem Sen.below {w w' : World} (h : Sen w) (hb : Below w.heap.size w w') : Sen w' := by
  obtain ⟨a, ha⟩ := h
  exact ⟨a, (hb.cell (cell_lt ha)).trans ha⟩

set_option maxHeartbeats 1000000 in
set_option maxRecDepth 100000 in
theorem is_same (a : Addr) (w : World) :
    Calls Tryz.prog 212 #[.iface 254 (.pointer (some a)), .iface 254 (.pointer (some a))] w fun e w' => e = .returned (.bool true) ∧ w = w' := by
  obtain ⟨i, hi, hcmp⟩ := Option.map_eq_some_iff.1 isComp
  obtain ⟨j, hj, hjs⟩ := Option.map_eq_some_iff.1 isSize
  have h8 := @run_callFunc_extern Tryz.prog 233 _ Extern.ReflectliteType.typeOf Tryz.func233 (by kernel_rfl) (by kernel_rfl) (by kernel_rfl) (by kernel_rfl)
  have h32 := @run_callFunc_extern Tryz.prog 289 _ (Extern.ReflectliteType.method fun t => do Extern.Rtype.noPackHeld "Comparable" t; pure (.bool (← typeInfo t).comparable)) Tryz.func289 (by kernel_rfl) (by kernel_rfl) (by kernel_rfl) (by kernel_rfl)
  have tT := isTypeOf
  have cT := isComparable
  have mR := isMethodComparable
  have heq := run_eql_iface_ptr_same (P := Tryz.prog) w a Tryz.underlying144 Tryz.underlying254 hi hcmp hj
  go_enter Tryz.func212, Tryz.ntmps212
  go_wp2
  refine wp_loop_rounds 1 ?_
  rw [rounds_succ]
  go_wp2
  go_ret
  exact ⟨rfl, rfl⟩
set_option maxHeartbeats 400000 in
set_option maxRecDepth 100000 in
theorem is_nil (b : Addr) (w : World) :
    Calls Tryz.prog 212 #[.nilIface, .iface 254 (.pointer (some b))] w fun e w' => e = .returned (.bool false) ∧ w = w' := by
  have hn := run_eql_iface_nil_left (P := Tryz.prog) w 254 (.pointer (some b)) Tryz.underlying144
  go_enter Tryz.func212, Tryz.ntmps212
  go_wp2
  go_ret
  exact ⟨rfl, rfl⟩
end Go.Proofs.YtofehcpapdlcnaaGreatDoor

namespace Go.Proofs.YtofehcpapdlcnaaGreatDoor
open Go.ChangeShapes Go.WideShapes Go.ChangeAt Go.RowKit

theorem senNamed : Tryz.prog.globalNamed "loop.example/g00793/impl.errZeroDivisor" = some 0 := by kernel_rfl
theorem senType : (Tryz.prog.globals[0]?).map (·.type) = some 144 := by kernel_rfl
theorem senCells : Tryz.prog.cellsOf 276 = 1 := by kernel_rfl
theorem strCells : Tryz.prog.cellsOf 9 = 1 := by kernel_rfl
theorem senStar : "*" ++ "errors.errorString" = "*errors.errorString" := by decide
theorem senRow (u : TypeId) (h : Tryz.prog.typeName? 3 u = some "*errors.errorString") : u = 254 :=
  typeName_ptr_named (nm := "errors.errorString") (by rw [senStar]; kernel_rfl) (by kernel_rfl) (by decide) u (by rw [senStar]; exact h)
/-- what the sentinel reads as -/
def senText : List UInt8 := [100, 105, 118, 105, 115, 105, 111, 110, 32, 98, 121, 32, 122, 101, 114, 111]
theorem senData : (Rows.laid_loop_example_g00793_impl_errZeroDivisor : DataW Unit) = .iface "*errors.errorString" (.ptr (.agg [.lit (.string senText)])) := by kernel_rfl
/-- the variable's value -/
def SenAt (a : Addr) (w : World) : Prop := w.var? Tryz.prog "loop.example/g00793/impl.errZeroDivisor" = some #[.iface 254 (.pointer (some a))]
theorem SenAt.sen {a : Addr} {w : World} (h : SenAt a w) : Sen w := ⟨a, by simpa using World.var?_cell senNamed h 0⟩
theorem sen_of {r : List (String × DataW Unit)} {W : World} (h : laidMet Tryz.prog (("loop.example/g00793/impl.errZeroDivisor", Rows.laid_loop_example_g00793_impl_errZeroDivisor) :: r) W) : ∃ a, SenAt a W := by
  rw [senData] at h
  obtain ⟨a, s, hv, _⟩ := laid_sentinel h senNamed senType Tryz.underlying144 senRow Tryz.underlying254 Tryz.underlying276 rfl rfl Tryz.underlying9 senCells strCells
  exact ⟨a, hv⟩
theorem SenAt.below {a : Addr} {w w' : World} (h : SenAt a w) (hb : Below w.heap.size w w') : SenAt a w' := by
  obtain ⟨_, hc⟩ := h.sen
  have hl := cell_lt hc
  unfold SenAt World.var? at h ⊢
  rw [senNamed] at h ⊢
  simp only [Option.bind_some] at h ⊢
  rw [hb.block _ hl]
  exact h

/-- a world for the witness: the settled one, the listed variable holding what its initialiser lays -/
def putSen (cs : Array Value) : Obj → Obj
  | .cells _ t frozen => .cells cs t frozen
  | o => o
noncomputable def low : Nat := (World.holding Tryz.prog default ⟨#[], #[], []⟩).heap.size
noncomputable def senWorld (os : Os) : World :=
  let w0 := World.holding Tryz.prog os ⟨#[.cells #[.string ⟨senText.toArray⟩] 276], #[], []⟩
  { w0 with heap := w0.heap.modify 0 (putSen #[.iface 254 (.pointer (some ⟨low, 0, none⟩))]) }

end Go.Proofs.YtofehcpapdlcnaaGreatDoor

namespace Go.Proofs.YtofehcpapdlcnaaGreatDoor
open Go.ChangeShapes Go.WideShapes Go.ChangeAt Go.RowKit

noncomputable def curSenWorld (os : Os) : World :=
  { senWorld os with heap := (senWorld os).heap.modify 1 (putC (cellsT implT).toArray) }
end Go.Proofs.YtofehcpapdlcnaaGreatDoor

namespace Go.Proofs.YtofehcpapdlcnaaGreatDoor
open Go.RowKit

/-- ints as cells -/
def intsV (xs : List Int) : List Value := xs.map (Value.int .i64)
theorem intsV_length (xs : List Int) : (intsV xs).length = xs.length := by simp [intsV]
theorem intsV_at (xs : List Int) (k : Nat) (h : k < xs.length) : (intsV xs)[k]? = some (.int .i64 xs[k]) := by simp [intsV, h]

theorem take_same_succ {α : Type} {ss ts : List α} {k : Nat} (h : ss.take k = ts.take k) (h1 : k < ss.length) (h2 : k < ts.length) (e : ss[k] = ts[k]) : ss.take (k + 1) = ts.take (k + 1) := by
  rw [List.take_succ_eq_append_getElem h1, List.take_succ_eq_append_getElem h2, h, e]
theorem ne_of_at {α : Type} {ss ts : List α} {k : Nat} (h1 : k < ss.length) (h2 : k < ts.length) (e : ¬ ss[k] = ts[k]) : ¬ ss = ts := by
  intro h
  subst h
  exact e rfl
theorem same_of_takes {α : Type} {ss ts : List α} {k : Nat} (h : ss.take k = ts.take k) (hl : ss.length = ts.length) (hk : ¬ k < ss.length) : ss = ts := by
  rwa [List.take_of_length_le (by omega), List.take_of_length_le (by omega)] at h

set_option maxHeartbeats 400000 in
set_option maxRecDepth 100000 in
theorem eqIntS_any (va vb : Value) (ss ts : List Int) (la ha lb hb : Nat) (w : World) (hl : ss.length ≤ 9223372036854775807)
    (hra : Row w la ha va (intsV ss)) (hrb : Row w lb hb vb (intsV ts)) :
    Calls Tryz.prog 41 #[va, vb] w fun e w' => e = .returned (.bool (decide (ss = ts))) ∧ ∃ q, w.drewN q = w' := by
  obtain ⟨A, c, rfl, hA⟩ := hra
  obtain ⟨B, d, rfl, hB⟩ := hrb
  rw [intsV_length, intsV_length]
  have HA := Lib.hid hA
  have HB := Lib.hid hB
  clear hA hB
  by_cases hlen : ss.length = ts.length
  · have HL := Lib.hid hlen
    have hbe : ((ss.length : Int) != (ts.length : Int)) = false := by simp [hlen]
    clear hlen
    go_enter Tryz.func41, Tryz.ntmps41
    go_wp2
    go_loopw [5] (fun i wr => ∃ k q : Nat, k ≤ ss.length ∧ i = .int .i64 k ∧ wr = w.drewN q ∧ Hid (ss.take k = ts.take k)) (fun i _ => ss.length - (intOf i).toNat)
    case atStart => exact ⟨0, 0, Nat.zero_le _, rfl, rfl, Lib.hid rfl⟩
    case round =>
      obtain ⟨k, q, hk, rfl, rfl, HT⟩ := hrel
      by_cases hlt : k < ss.length
      · have hlt2 : k < ts.length := by have := HL.out; omega
        obtain ⟨a, rfl, _, _, hca⟩ := HA.out k _ (intsV_at ss k hlt)
        obtain ⟨b, rfl, _, _, hcb⟩ := HB.out k _ (intsV_at ts k hlt2)
        by_cases he : ss[k] = ts[k]
        · rw [← he] at hcb
          have HE := Lib.hid he
          clear he
          go_wp2
          go_quiet (fail)
          go_wp2
          go_roundw
          case rel => exact ⟨k + 1, _, by omega, by go_num, rfl, Lib.hid (take_same_succ HT.out hlt hlt2 HE.out)⟩
          case measure => simp [intOf]; omega
        · have hne : (ss[k] != ts[k]) = true := by rw [bne_iff_ne]; exact he
          have hne2 : (ss[k] == ts[k]) = false := by rw [beq_eq_false_iff_ne]; exact he
          go_wp2
          go_quiet (fail)
          go_wp2
          go_ret
          exact ⟨ret_bool (decide_eq_false (ne_of_at hlt hlt2 he)).symm, _, (World.drewN_drewN _ _ _).symm⟩
      · go_wp2
        go_ret
        exact ⟨ret_bool (decide_eq_true (same_of_takes HT.out HL.out hlt)).symm, q, rfl⟩
  · have hbe : ((ss.length : Int) != (ts.length : Int)) = true := by simp; omega
    go_enter Tryz.func41, Tryz.ntmps41
    go_wp2
    go_ret
    exact ⟨ret_bool (decide_eq_false (fun e => hlen (by rw [e]))).symm, 0, rfl⟩

/-- the numbers from m on -/
def marksI (m : Int) (n : Nat) : List Value := (List.range n).map fun i : Nat => Value.int .i64 (m + (i : Int))
theorem marksI_succ (m : Int) (n : Nat) : marksI m (n + 1) = marksI m n ++ [Value.int .i64 (m + (n : Int))] := by
  simp [marksI, List.range_succ]
theorem marksI_length (m : Int) (n : Nat) : (marksI m n).length = n := by simp [marksI]
theorem marksI_get (m : Int) (n k : Nat) (h : k < n) : (marksI m n)[k]? = some (Value.int .i64 (m + (k : Int))) := by simp [marksI, h]
theorem setI_mid (m : Int) (k : Nat) (xs : List Value) (h : k < xs.length) : (marksI m k ++ xs.drop k).set k (Value.int .i64 (m + (k : Int))) = marksI m (k + 1) ++ xs.drop (k + 1) := by
  rw [List.set_append_right _ _ (by rw [marksI_length]; omega), marksI_length, Nat.sub_self, List.drop_eq_getElem_cons h, List.set_cons_zero, marksI_succ, List.append_assoc]
  rfl

set_option maxHeartbeats 400000 in
set_option maxRecDepth 100000 in
/-- marking writes the numbers from m on -/
theorem markIntS_any (v : Value) (n : Nat) (xs : List Value) (base : Nat) (m : Int) (w : World) (hm : m + n ≤ 9223372036854775807) (hm0 : 0 ≤ m)
    (ho : w.ownsRow base 3 1 v n xs) :
    Calls Tryz.prog 43 #[v, .int .i64 m] w fun e w' => e = .returned (.int .i64 (m + n)) ∧ w'.ownsRow base 3 1 v n (marksI m n) ∧ w.grownBy w' v.ownBlock := by
  rcases ho.2 with ⟨rfl, rfl⟩ | ⟨g, cap, cur, rfl, hb, hh, hnc, hcm, hcs, ht⟩
  · go_enter Tryz.func43, Tryz.ntmps43
    go_wp2
    refine wp_loop_rounds 1 ?_
    rw [rounds_succ]
    go_wp2
    go_ret
    exact ⟨ret_int (by omega), ⟨rfl, .inl ⟨rfl, rfl⟩⟩, World.grownBy.refl _ _⟩
  · have hxl := Lib.hid ho.1
    have HO := Lib.hid ho
    clear ho hh hcs ht
    go_enter Tryz.func43, Tryz.ntmps43
    go_wp2
    go_loopw [1, 5] (fun a i wr => ∃ k : Nat, k ≤ n ∧ i = .int .i64 k ∧ a = .int .i64 (m + k) ∧ wr.ownsRow base 3 1 (.slice (some ⟨g, 0, none⟩) n cap) n (marksI m k ++ xs.drop k) ∧ w.grownBy wr (some g)) (fun _ i _ => n - (intOf i).toNat)
    case atStart => exact ⟨0, Nat.zero_le _, rfl, by simp, HO.out, World.grownBy.refl _ _⟩
    case round =>
      obtain ⟨k, hk, rfl, rfl, ho, hg⟩ := hrel
      by_cases hlt : k < n
      · have hcell := ho.cellAt k (by omega)
        rw [List.getElem?_eq_getElem (by simp [marksI_length]; have := hxl.out; omega)] at hcell
        have hfr := ho.frozenAt k
        obtain ⟨ho2, hg2⟩ := ho.stored k (Value.int .i64 (m + (k : Int)))
        rw [setI_mid m k xs (by have := hxl.out; omega)] at ho2
        have hg3 := grown_trans hg hg2
        clear ho hg hg2
        go_wp2
        go_roundw
        case rel => exact ⟨k + 1, by omega, by go_num, by go_num, ho2, hg3⟩
        case measure => simp [intOf]; omega
      · obtain rfl : k = n := by omega
        rw [List.drop_of_length_le (by have := hxl.out; omega), List.append_nil] at ho
        go_wp2
        go_ret
        exact ⟨rfl, ho, hg⟩

set_option maxHeartbeats 400000 in
set_option maxRecDepth 100000 in
/-- a slice that bears the numbers from m on is held -/
theorem heldIntS_any (v : Value) (n lo hi : Nat) (m : Int) (w : World) (hm : m + n ≤ 9223372036854775807) (hm0 : 0 ≤ m)
    (hr : Row w lo hi v (marksI m n)) :
    Calls Tryz.prog 45 #[v, .int .i64 m] w fun e w' => e = .returned (.int .i64 (m + n)) ∧ w = w' := by
  obtain ⟨A, c, rfl, hA⟩ := hr
  rw [marksI_length]
  have HA := Lib.hid hA
  clear hA
  go_enter Tryz.func45, Tryz.ntmps45
  go_wp2
  go_loop [1, 5] (fun a i => ∃ k : Nat, k ≤ n ∧ i = .int .i64 k ∧ a = .int .i64 (m + k)) (fun _ i => n - (intOf i).toNat)
  case atStart => exact ⟨0, Nat.zero_le _, rfl, by simp⟩
  case round =>
    obtain ⟨k, hk, rfl, rfl⟩ := hrel
    by_cases hlt : k < n
    · obtain ⟨a, rfl, _, hab, hca⟩ := HA.out k _ (marksI_get m n k hlt)
      go_wp2
      go_round
      case rel => exact ⟨k + 1, by omega, by go_num, by go_num⟩
      case measure => simp [intOf]; omega
    · obtain rfl : k = n := by omega
      go_wp2
      go_ret
      exact ⟨rfl, rfl⟩

theorem intInfo : (Tryz.prog.info? 3).map (fun i => (i.zero, i.size, i.bytes)) = some (some (.int .i64 0), 1, 8) := by kernel_rfl
theorem make_ints (n : Nat) (hn : n ≤ 1099511627776) (W : World) :
    (Instr.makeSlice 22 (.int .i64 (n : Int)) (.int .i64 (n : Int))).run Tryz.prog W = .ok (.slice (some ⟨W.heap.size, 0, none⟩) n n) (W.alloc (.cells (madeCells #[.int .i64 0] n) 3)) := by
  obtain ⟨i0, hi, hz0, hz1, hz2⟩ := info_parts intInfo
  have h := run_make (P := Tryz.prog) W 22 3 i0 (.int .i64 0) Tryz.underlying22 hi hz0 .i64 .i64 (n : Int) (n : Int) (by omega) (by omega) (by rw [hz2]; omega) (by omega)
  rw [hz1, Int.toNat_natCast, Nat.mul_one] at h
  exact h
theorem setI_copy (xs ys : List Value) (k : Nat) (u : Value) (hx : xs.length = ys.length) (h : k < ys.length) (hu : ys[k]? = some u) : (ys.take k ++ xs.drop k).set k u = ys.take (k + 1) ++ xs.drop (k + 1) := by
  have hl : (ys.take k).length = k := by rw [List.length_take]; omega
  have hyk : ys[k] = u := by rw [List.getElem?_eq_getElem h] at hu; injection hu
  rw [List.set_append_right _ _ (by omega), hl, Nat.sub_self, List.drop_eq_getElem_cons (by omega), List.set_cons_zero, List.take_succ_eq_append_getElem h, hyk, List.append_assoc]
  rfl

/-- a new row of ints that the call owns -/
def NewInts (xs : List Int) (w : World) (e : Ending) (w' : World) : Prop :=
  ∃ v, e = .returned v ∧ w'.ownsRow w.heap.size 3 1 v xs.length (intsV xs) ∧ Below w.heap.size w w'

set_option maxHeartbeats 400000 in
set_option maxRecDepth 100000 in
theorem toIntS_any (v : Value) (ss : List Int) (lo hi : Nat) (w : World) (hhi : hi ≤ w.heap.size) (hn : ss.length ≤ 1048576) (hr : Row w lo hi v (intsV ss)) :
    Calls Tryz.prog 78 #[v] w (NewInts ss w) := by
  obtain ⟨A, c, rfl, hA⟩ := hr
  have HA := Lib.hid hA
  have hmk := make_ints ss.length (by omega)
  rw [intsV_length]
  clear hA
  go_enter Tryz.func78, Tryz.ntmps78
  go_wp2
  go_loopw [4] (fun i wr => ∃ k : Nat, k ≤ ss.length ∧ i = .int .i64 k ∧ wr.ownsRow w.heap.size 3 1 (.slice (some ⟨w.heap.size, 0, none⟩) ss.length ss.length) ss.length ((intsV ss).take k ++ (List.replicate ss.length (Value.int .i64 0)).drop k) ∧ Below w.heap.size w wr) (fun i _ => ss.length - (intOf i).toNat)
  case atStart =>
    refine ⟨0, Nat.zero_le _, rfl, ?_, (Below.refl _ _).alloc (Nat.le_refl _) _⟩
    have h := World.ownsRow_lit (e := 3) (size := 1) (base := w.heap.size) w (madeCells #[.int .i64 0] ss.length) ss.length (Nat.le_refl _) (by unfold maxLen; omega) (by rw [size_madeCells, Nat.mul_one])
    rw [toList_madeCells_one] at h
    exact h
  case round =>
    obtain ⟨k, hk, rfl, ho, hb⟩ := hrel
    by_cases hlt : k < ss.length
    · obtain ⟨a, rfl, _, hab, hca⟩ := HA.out k _ (intsV_at ss k hlt)
      have hca' : wr.cell? (a.add k) = some (.int .i64 ss[k]) := (hb.cell (by rw [block_add]; omega)).trans hca
      clear hca
      have hcell := ho.cellAt k (by omega)
      rw [List.getElem?_eq_getElem (by simp [intsV_length]; omega)] at hcell
      have hfr := ho.frozenAt k
      obtain ⟨ho2, hg2⟩ := ho.stored k (.int .i64 ss[k])
      rw [setI_copy _ _ k _ (by simp [intsV_length]) (by rw [intsV_length]; exact hlt) (intsV_at ss k hlt)] at ho2
      have hb2 := hb.grown hg2 hb.size (fun g hg => by cases hg; exact Nat.le_refl _)
      clear ho hg2
      go_wp2
      go_roundw
      case rel => exact ⟨k + 1, by omega, by go_num, ho2, hb2⟩
      case measure => simp [intOf]; omega
    · obtain rfl : k = ss.length := by omega
      rw [List.take_of_length_le (by rw [intsV_length]; exact Nat.le_refl _), List.drop_of_length_le (by simp), List.append_nil] at ho
      go_wp2
      go_ret
      exact ⟨_, rfl, ho, hb⟩
end Go.Proofs.YtofehcpapdlcnaaGreatDoor

namespace Go.Proofs.YtofehcpapdlcnaaGreatDoor
open Go.RowKit

/-- a fact of a world that leans on the blocks S alone -/
structure At (S : List Nat) (φ : World → Prop) (w : World) : Prop where
  here : φ w
  lt : ∀ g ∈ S, g < w.heap.size
  stays : ∀ w' : World, (∀ g ∈ S, w'.heap[g]? = w.heap[g]?) → φ w'

section
variable {S T : List Nat} {φ : World → Prop} {w w' w1 w2 : World} {B : Nat}
theorem At.move (h : At S φ w) (hk : ∀ g ∈ S, w'.heap[g]? = w.heap[g]?) (hz : w.heap.size ≤ w'.heap.size) : At S φ w' :=
  ⟨h.stays w' hk, fun g hg => Nat.lt_of_lt_of_le (h.lt g hg) hz, fun w'' hk' => h.stays w'' fun g hg => (hk' g hg).trans (hk g hg)⟩
theorem At.below (h : At S φ w) (hb : Below w.heap.size w w') : At S φ w' := h.move (fun g hg => hb.block g (h.lt g hg)) hb.size
theorem At.drewN (h : At S φ w) (q : Nat) : At S φ (w.drewN q) := h.move (fun _ _ => rfl) (Nat.le_refl _)
theorem At.imp {ψ : World → Prop} (h : At S φ w) (hi : ∀ w', φ w' → ψ w') : At S ψ w := ⟨hi _ h.here, h.lt, fun w' hk => hi _ (h.stays w' hk)⟩

/-- only blocks of T, and new ones, are other than they were -/
structure Chg (T : List Nat) (w w' : World) : Prop where
  os : w'.os = w.os
  tape : w'.tape = w.tape
  output : w'.output = w.output
  size : w.heap.size ≤ w'.heap.size
  block : ∀ i, i < w.heap.size → i ∉ T → w'.heap[i]? = w.heap[i]?
theorem Chg.of_grown {v : Value} (h : w.grownBy w' v.ownBlock) : Chg v.ownBlock.toList w w' :=
  ⟨h.os, h.tape, h.output, h.size, fun i hi hn => h.block i hi (fun e => hn (by rw [← e]; simp))⟩
theorem Chg.refl (T : List Nat) (w : World) : Chg T w w := ⟨rfl, rfl, rfl, Nat.le_refl _, fun _ _ _ => rfl⟩
theorem Chg.trans (h : Chg T w w1) (k : Chg T w1 w2) : Chg T w w2 :=
  ⟨k.os.trans h.os, k.tape.trans h.tape, k.output.trans h.output, Nat.le_trans h.size k.size, fun i hi hn => (k.block i (Nat.lt_of_lt_of_le hi h.size) hn).trans (h.block i hi hn)⟩
theorem Chg.of_below (h : Below w.heap.size w w') : Chg T w w' := ⟨h.os, h.tape, h.output, h.size, fun i hi _ => h.block i hi⟩
theorem Chg.more {U : List Nat} (h : Chg T w w') (hs : ∀ g ∈ T, g ∈ U) : Chg U w w' := ⟨h.os, h.tape, h.output, h.size, fun i hi hn => h.block i hi (fun hm => hn (hs i hm))⟩
theorem At.chg (h : At S φ w) (c : Chg T w w') (hd : ∀ g ∈ S, g ∉ T) : At S φ w' := h.move (fun g hg => c.block g (h.lt g hg) (hd g hg)) c.size
theorem below_chg (hb : Below B w w1) (c : Chg T w1 w2) (hB : B ≤ w1.heap.size) (hT : ∀ g ∈ T, B ≤ g) : Below B w w2 :=
  ⟨c.os.trans hb.os, c.tape.trans hb.tape, c.output.trans hb.output, Nat.le_trans hb.size c.size,
    fun i hi => (c.block i (Nat.lt_of_lt_of_le hi hB) (fun hm => by have := hT i hm; omega)).trans (hb.block i hi)⟩

theorem Chg.setCell (h : Chg T w w1) {p : Addr} (hp : p.block ∈ T) (u : Value) : Chg T w (w1.setCell p u) :=
  ⟨h.os, h.tape, h.output, by simpa [World.setCell] using h.size, fun i hi hn => (Below.heap_setCell _ _ _ _ (fun e => hn (by rw [e]; exact hp))).trans (h.block i hi hn)⟩

/-- where blocks lie -/
def Within (S : List Nat) (lo hi : Nat) : Prop := ∀ g ∈ S, lo ≤ g ∧ g < hi
theorem Within.apart {a b c d : Nat} (h : Within S a b) (k : Within T c d) (hd : b ≤ c ∨ d ≤ a) : ∀ g ∈ S, g ∉ T := by
  intro g hg hm
  have h1 := h g hg
  have h2 := k g hm
  omega
theorem Within.from {a b B : Nat} (h : Within S a b) (hB : B ≤ a) : ∀ g ∈ S, B ≤ g := fun g hg => Nat.le_trans hB (h g hg).1
theorem apart_symm (h : ∀ g ∈ S, g ∉ T) : ∀ g ∈ T, g ∉ S := fun g hg hm => h g hm hg
end

/-! ### slices of ints -/
def OwnI (v : Value) (xs : List Int) (w : World) : Prop := w.ownsRow 0 3 1 v xs.length (intsV xs)
def MarkI (v : Value) (xs : List Int) (m : Int) (w : World) : Prop := w.ownsRow 0 3 1 v xs.length (marksI m xs.length)
def szI (xs : List Int) : Int := xs.length
theorem own_zero {w : World} {base n : Nat} {e : TypeId} {v : Value} {xs : List Value} (h : w.ownsRow base e 1 v n xs) : w.ownsRow 0 e 1 v n xs := by
  obtain ⟨hl, h | ⟨g, cap, cur, rfl, hg, r⟩⟩ := h
  · exact ⟨hl, .inl h⟩
  · exact ⟨hl, .inr ⟨g, cap, cur, rfl, Nat.zero_le _, r⟩⟩
theorem own_at {w : World} {base n : Nat} {e : TypeId} {v : Value} {xs : List Value} (h : w.ownsRow base e 1 v n xs) : At v.ownBlock.toList (fun w => w.ownsRow 0 e 1 v n xs) w :=
  ⟨own_zero h, fun g hg => (own_lt h (by simpa using hg)).2, fun w' hk => own_stays (own_zero h) fun g hg => hk g (by rw [hg]; simp)⟩
theorem own_within {w : World} {base n : Nat} {e : TypeId} {v : Value} {xs : List Value} (h : w.ownsRow base e 1 v n xs) : Within v.ownBlock.toList base w.heap.size := fun g hg => own_lt h (by simpa using hg)
theorem OwnI.row {v : Value} {xs : List Int} {w : World} (h : OwnI v xs w) : Row w 0 w.heap.size v (intsV xs) := Row.of_own h

/-- a new value: its blocks, all new -/
def NewV (φ : Value → World → Prop) (w : World) (e : Ending) (w' : World) : Prop := ∃ v S, e = .returned v ∧ At S (φ v) w' ∧ Within S w.heap.size w'.heap.size ∧ Below w.heap.size w w'
theorem NewInts.newV {xs : List Int} {w w' : World} {e : Ending} (h : NewInts xs w e w') : NewV (fun v => OwnI v xs) w e w' := by
  obtain ⟨v, rfl, o, b⟩ := h
  exact ⟨v, _, rfl, own_at o, own_within o, b⟩

theorem markIntS_at (v : Value) (xs : List Int) (S : List Nat) (m : Int) (w : World) (hm : m + szI xs ≤ 9223372036854775807) (hm0 : 0 ≤ m) (h : At S (OwnI v xs) w) :
    Calls Tryz.prog 43 #[v, .int .i64 m] w fun e w' => e = .returned (.int .i64 (m + szI xs)) ∧ At S (MarkI v xs m) w' ∧ Chg S w w' := by
  have hS : ∀ g, v.ownBlock = some g → g ∈ S := by
    intro g hg
    rcases Classical.em (g ∈ S) with hin | hout
    · exact hin
    · exfalso
      have hst := h.stays { w with heap := w.heap.set! g (.cells #[] 4 (0, 0)) } (fun i hi => by
        have : i ≠ g := fun e => hout (e ▸ hi)
        simp [Ne.symm this])
      have hlt := (own_lt h.here hg).2
      obtain ⟨_, ⟨rfl, _⟩ | ⟨g', cap, cur, rfl, _, hh, _⟩⟩ := hst
      · cases hg
      · cases hg
        have hlt' : g' < w.heap.size := hlt
        have hh' : (w.heap.setIfInBounds g' (.cells #[] 4 (0, 0)))[g']? = some (.cells cur 3 (0, 0)) := hh
        rw [Array.getElem?_setIfInBounds_self_of_lt hlt'] at hh'
        simp at hh'
  refine (markIntS_any v xs.length (intsV xs) 0 m w hm hm0 h.here).mono ?_
  rintro e w' ⟨rfl, ho, hg⟩
  have hc : Chg S w w' := (Chg.of_grown hg).more (fun g hg => hS g (by simpa using hg))
  exact ⟨rfl, ⟨ho, fun g hg => Nat.lt_of_lt_of_le (h.lt g hg) hc.size, fun w'' hk => own_stays ho fun g hg => hk g (hS g hg)⟩, hc⟩
theorem heldIntS_at (v : Value) (xs : List Int) (m : Int) (w : World) (hm : m + szI xs ≤ 9223372036854775807) (hm0 : 0 ≤ m) (h : MarkI v xs m w) :
    Calls Tryz.prog 45 #[v, .int .i64 m] w fun e w' => e = .returned (.int .i64 (m + szI xs)) ∧ Below w.heap.size w w' := by
  refine (heldIntS_any v xs.length 0 w.heap.size m w hm hm0 (Row.of_own h)).mono ?_
  rintro e w' ⟨rfl, rfl⟩
  exact ⟨rfl, Below.refl _ _⟩

/-! ### what calls answer -/
def Postn (R0 : Int) (w : World) (e : Ending) (w' : World) : Prop :=
  e = .returned (.int .i64 R0) ∧ Below w.heap.size w w'
def Postb (R0 : Bool) (w : World) (e : Ending) (w' : World) : Prop :=
  e = .returned (.bool R0) ∧ Below w.heap.size w w'
end Go.Proofs.YtofehcpapdlcnaaGreatDoor

namespace Go.Proofs.YtofehcpapdlcnaaGreatDoor
open Go.RowKit

/-- block g holds the cells cs of type T -/
def BoxAt (g : Nat) (cs : Array Value) (T : TypeId) (w : World) : Prop := w.heap[g]? = some (.cells cs T (0, 0))
theorem box_at {g : Nat} {cs : Array Value} {T : TypeId} {w : World} (h : BoxAt g cs T w) : At [g] (BoxAt g cs T) w :=
  ⟨h, fun i hi => by simp at hi; subst hi; exact (Array.getElem?_eq_some_iff.1 h).1, fun w' hk => (hk g (by simp)).trans h⟩
theorem box_new (w : World) (cs : Array Value) (T : TypeId) : At [w.heap.size] (BoxAt w.heap.size cs T) (w.alloc (.cells cs T)) := box_at (heap_alloc_new w _)
theorem BoxAt.cell {g : Nat} {cs : Array Value} {T : TypeId} {w : World} (h : BoxAt g cs T w) (j : Nat) (u : Value) (hj : cs[j]? = some u) : w.cell? ⟨g, j, none⟩ = some u := by
  rw [Lib.cell_of_heap h]; exact hj
theorem below_al {W0 W : World} (h : Below W0.heap.size W0 W) (o : Obj) : Below W0.heap.size W0 (W.alloc o) := h.alloc h.size o
end Go.Proofs.YtofehcpapdlcnaaGreatDoor

namespace Go.Proofs.YtofehcpapdlcnaaGreatDoor
open Go.RowKit

/-- the number that limbs stand for -/
def nval : List Int → Int
  | [] => 0
  | d :: r => d + 1000000000 * nval r
/-- every limb is in range -/
def DigN (xs : List Int) : Prop := ∀ d ∈ xs, 0 ≤ d ∧ d ≤ 999999999
/-- without zeros at its end -/
def trimL : List Int → List Int
  | [] => []
  | d :: r => if trimL r = [] ∧ d = 0 then [] else d :: trimL r
/-- the limbs of a number -/
def limbs (n : Nat) : List Int := if h : n = 0 then [] else ((n % 1000000000 : Nat) : Int) :: limbs (n / 1000000000)
termination_by n
decreasing_by omega
/-- what NatOk asks -/
def digB (d : Int) : Bool := decide (0 ≤ d ∧ d ≤ 999999999)
def natOkB (xs : List Int) : Bool := xs.all digB && (decide (xs.length ≤ 50) && decide (xs.getLastD 1 ≠ 0))
theorem all_dig (xs : List Int) : xs.all digB = true ↔ DigN xs := by
  rw [List.all_eq_true]
  constructor
  · intro h d hd
    exact of_decide_eq_true (h d hd)
  · intro h d hd
    exact decide_eq_true (h d hd)

theorem DigN.tail {d : Int} {r : List Int} (h : DigN (d :: r)) : DigN r := fun x hx => h x (by simp [hx])
theorem DigN.head {d : Int} {r : List Int} (h : DigN (d :: r)) : 0 ≤ d ∧ d ≤ 999999999 := h d (by simp)
theorem DigN.cons {d : Int} {r : List Int} (h0 : 0 ≤ d) (h1 : d ≤ 999999999) (h : DigN r) : DigN (d :: r) := by
  intro x hx
  rcases List.mem_cons.1 hx with rfl | hx
  · exact ⟨h0, h1⟩
  · exact h x hx
theorem DigN.drop {xs : List Int} (h : DigN xs) (k : Nat) : DigN (xs.drop k) := fun x hx => h x (List.mem_of_mem_drop hx)
theorem DigN.take {xs : List Int} (h : DigN xs) (k : Nat) : DigN (xs.take k) := fun x hx => h x (List.mem_of_mem_take hx)
theorem DigN.at_ {xs : List Int} (h : DigN xs) (k : Nat) (hk : k < xs.length) : 0 ≤ xs[k] ∧ xs[k] ≤ 999999999 := h _ (List.getElem_mem hk)
theorem nval_nonneg (xs : List Int) (h : DigN xs) : 0 ≤ nval xs := by
  induction xs with
  | nil => exact Int.le_refl _
  | cons d r ih => have := ih h.tail; have := h.head; unfold nval; omega
theorem nval_zero (xs : List Int) (h : DigN xs) : nval xs = 0 ↔ trimL xs = [] := by
  induction xs with
  | nil => simp [nval, trimL]
  | cons d r ih =>
    have h1 := ih h.tail
    have h2 := h.head
    have h3 := nval_nonneg r h.tail
    unfold nval trimL
    constructor
    · intro e
      rw [if_pos ⟨h1.1 (by omega), by omega⟩]
    · intro e
      split at e
      · rename_i hc
        have := h1.2 hc.1
        omega
      · cases e
/-- limbs in range, without zeros at the end, are those of their number -/
theorem trim_limbs (xs : List Int) (h : DigN xs) : trimL xs = limbs (nval xs).toNat := by
  induction xs with
  | nil => rw [limbs]; simp [trimL, nval]
  | cons d r ih =>
    have h1 := ih h.tail
    have h2 := h.head
    have h3 := nval_nonneg r h.tail
    have hz := nval_zero r h.tail
    unfold trimL
    by_cases hc : trimL r = [] ∧ d = 0
    · rw [if_pos hc]
      have : nval r = 0 := hz.2 hc.1
      rw [limbs, dif_pos (by unfold nval; omega)]
    · rw [if_neg hc]
      have hne : ¬ (nval (d :: r)).toNat = 0 := by
        unfold nval
        intro e
        exact hc ⟨hz.1 (by omega), by omega⟩
      rw [limbs, dif_neg hne, h1, show nval (d :: r) = d + 1000000000 * nval r from rfl]
      rw [show (d + 1000000000 * nval r).toNat / 1000000000 = (nval r).toNat from by omega, show (((d + 1000000000 * nval r).toNat % 1000000000 : Nat) : Int) = d from by omega]
theorem trim_last (xs : List Int) (h : xs.getLastD 1 ≠ 0) : trimL xs = xs := by
  induction xs with
  | nil => rfl
  | cons d r ih =>
    unfold trimL
    cases r with
    | nil => have : d ≠ 0 := by simpa using h
             rw [if_neg (fun e => this e.2)]
             rfl
    | cons e r' =>
      have h1 := ih (by simpa using h)
      rw [h1, if_neg (fun e => by cases e.1)]
theorem natOk_parts {xs : List Int} (h : natOkB xs = true) : DigN xs ∧ xs.length ≤ 50 ∧ xs.getLastD 1 ≠ 0 := by
  unfold natOkB at h
  rw [Bool.and_eq_true, Bool.and_eq_true, decide_eq_true_eq, decide_eq_true_eq, all_dig] at h
  exact h
theorem natOk_limbs {xs : List Int} (h : natOkB xs = true) : xs = limbs (nval xs).toNat := by
  obtain ⟨h1, _, h3⟩ := natOk_parts h
  rw [← trim_limbs xs h1, trim_last xs h3]
theorem nval_drop (xs : List Int) (k : Nat) (h : k < xs.length) : nval (xs.drop k) = xs[k] + 1000000000 * nval (xs.drop (k + 1)) := by
  rw [List.drop_eq_getElem_cons h]
  rfl
/-- a beginning behind which all is zero -/
theorem trim_prefix (xs : List Int) (k : Nat) (hk : k ≤ xs.length) (hz : ∀ j (h : j < xs.length), k ≤ j → xs[j] = 0) (hl : ∀ h : k - 1 < xs.length, 0 < k → xs[k - 1] ≠ 0) : trimL xs = xs.take k := by
  induction xs generalizing k with
  | nil => simp [trimL]
  | cons d r ih =>
    unfold trimL
    cases k with
    | zero =>
      have h0 : d = 0 := hz 0 (by simp) (Nat.le_refl _)
      have hr : trimL r = r.take 0 := ih 0 (Nat.zero_le _) (fun j h _ => hz (j + 1) (by simpa using h) (Nat.zero_le _)) (fun _ h => absurd h (by omega))
      rw [hr, if_pos ⟨by simp, h0⟩]
      rfl
    | succ k =>
      have hr : trimL r = r.take k := ih k (by simpa using hk) (fun j h hj => hz (j + 1) (by simpa using h) (by omega)) (fun h h0 => by
        obtain ⟨m, rfl⟩ : ∃ m, k = m + 1 := ⟨k - 1, by omega⟩
        have hk2 : m + 1 ≤ r.length := by simpa using hk
        exact hl (by show m + 1 < (d :: r).length; rw [List.length_cons]; omega) (by omega))
      rw [hr, List.take_succ_cons, if_neg]
      intro e
      rcases Nat.eq_zero_or_pos k with h0 | h0
      · subst h0
        have := hl (by simp) (by omega)
        exact this (by simpa using e.2)
      · have : (r.take k).length = 0 := by rw [e.1]; rfl
        rw [List.length_take] at this
        simp at hk
        omega

/-! ### order -/
/-- less, equal, greater -/
def cmpI (x y : Int) : Int := if x < y then -1 else if y < x then 1 else 0
theorem nval_short (a b : List Int) (ha : DigN a) (hb : DigN b) (hl : a.length < b.length) (hlast : b.getLastD 1 ≠ 0) : nval a < nval b := by
  induction a generalizing b with
  | nil =>
    have h0 := nval_nonneg b hb
    have hz := nval_zero b hb
    have ht := trim_last b hlast
    have : ¬ nval b = 0 := fun e => by
      have := hz.1 e
      rw [ht] at this
      rw [this] at hl
      simp at hl
    show (0 : Int) < _
    omega
  | cons x a ih =>
    cases b with
    | nil => simp at hl
    | cons y b =>
      have hb1 : b.getLastD 1 ≠ 0 := by
        cases b with
        | nil => simp at hl
        | cons z b => simpa using hlast
      have := ih b ha.tail hb.tail (by simpa using hl) hb1
      have := ha.head
      have := hb.head
      unfold nval
      omega
theorem nval_lt_down (a b : List Int) (ha : DigN a) (hb : DigN b) (hl : a.length = b.length) (k : Nat) (hk : nval (a.drop k) < nval (b.drop k)) : nval a < nval b := by
  induction k with
  | zero => simpa using hk
  | succ k ih =>
    apply ih
    by_cases h : k < a.length
    · rw [nval_drop a k h, nval_drop b k (by omega)]
      have := ha.at_ k h
      have := hb.at_ k (by omega)
      omega
    · rw [List.drop_of_length_le (by omega), List.drop_of_length_le (by omega)] at hk
      exact absurd hk (Int.lt_irrefl _)

/-! ### sums -/
def addL : List Int → List Int → Int → List Int
  | [], [], c => if 0 < c then [c] else []
  | x :: a, [], c => (c + x) % 1000000000 :: addL a [] ((c + x) / 1000000000)
  | [], y :: b, c => (c + y) % 1000000000 :: addL [] b ((c + y) / 1000000000)
  | x :: a, y :: b, c => (c + x + y) % 1000000000 :: addL a b ((c + x + y) / 1000000000)
theorem addL_val (a b : List Int) (c : Int) (ha : DigN a) (hb : DigN b) (h0 : 0 ≤ c) (h1 : c ≤ 1) : nval (addL a b c) = nval a + nval b + c ∧ DigN (addL a b c) ∧ (addL a b c).length ≤ a.length + b.length + 1 := by
  induction a, b, c using addL.induct with
  | case1 c hc => simp only [addL, if_pos hc]; exact ⟨(by simp [nval]), DigN.cons (by omega) (by omega) (fun x hx => by cases hx), by simp⟩
  | case2 c hc => simp only [addL, if_neg hc]; exact ⟨(by simp [nval]; omega), (fun x hx => by cases hx), by simp⟩
  | case3 c x a ih =>
    have hx := ha.head
    obtain ⟨i1, i2, i3⟩ := ih ha.tail hb (by omega) (by omega)
    refine ⟨?_, ?_, ?_⟩
    · simp only [addL, nval] at i1 ⊢; omega
    · simp only [addL]; exact DigN.cons (by omega) (by omega) i2
    · simp only [addL, List.length_cons, List.length_nil] at i3 ⊢; omega
  | case4 c y b ih =>
    have hy := hb.head
    obtain ⟨i1, i2, i3⟩ := ih ha hb.tail (by omega) (by omega)
    refine ⟨?_, ?_, ?_⟩
    · simp only [addL, nval] at i1 ⊢; omega
    · simp only [addL]; exact DigN.cons (by omega) (by omega) i2
    · simp only [addL, List.length_cons, List.length_nil] at i3 ⊢; omega
  | case5 c x a y b ih =>
    have hx := ha.head
    have hy := hb.head
    obtain ⟨i1, i2, i3⟩ := ih ha.tail hb.tail (by omega) (by omega)
    refine ⟨?_, ?_, ?_⟩
    · simp only [addL, nval] at i1 ⊢; omega
    · simp only [addL]; exact DigN.cons (by omega) (by omega) i2
    · simp only [addL, List.length_cons] at i3 ⊢; omega

/-! ### differences -/
def subL : List Int → List Int → Int → List Int
  | [], _, _ => []
  | x :: a, b, c => if x - c - b.headD 0 < 0 then (x - c - b.headD 0 + 1000000000) :: subL a b.tail 1 else (x - c - b.headD 0) :: subL a b.tail 0
theorem subL_val (a b : List Int) (c : Int) (ha : DigN a) (hb : DigN b) (hl : b.length ≤ a.length) (h0 : 0 ≤ c) (h1 : c ≤ 1) (hle : nval b + c ≤ nval a) : nval (subL a b c) = nval a - nval b - c ∧ DigN (subL a b c) ∧ (subL a b c).length = a.length := by
  induction a generalizing b c with
  | nil =>
    have : b = [] := List.eq_nil_of_length_eq_zero (by simpa using hl)
    subst this
    have h3 : (0 : Int) + c ≤ 0 := hle
    refine ⟨?_, (fun x hx => by cases hx), rfl⟩
    show (0 : Int) = 0 - 0 - c
    omega
  | cons x a ih =>
    have hx := ha.head
    have hh : 0 ≤ b.headD 0 ∧ b.headD 0 ≤ 999999999 := by
      cases b with
      | nil => simp
      | cons y b => exact hb.head
    have hv : nval b = b.headD 0 + 1000000000 * nval b.tail := by
      cases b with
      | nil => simp [nval]
      | cons y b => simp [nval]
    have hbt : DigN b.tail := by
      cases b with
      | nil => exact hb
      | cons y b => exact hb.tail
    have hlt : b.tail.length ≤ a.length := by rw [List.length_tail]; simp at hl; omega
    simp only [nval] at hle ⊢
    unfold subL
    by_cases hn : x - c - b.headD 0 < 0
    · obtain ⟨i1, i2, i3⟩ := ih b.tail 1 ha.tail hbt hlt (by omega) (by omega) (by omega)
      rw [if_pos hn]
      exact ⟨by simp only [nval]; omega, DigN.cons (by omega) (by omega) i2, by simp [i3]⟩
    · obtain ⟨i1, i2, i3⟩ := ih b.tail 0 ha.tail hbt hlt (by omega) (by omega) (by omega)
      rw [if_neg hn]
      exact ⟨by simp only [nval]; omega, DigN.cons (by omega) (by omega) i2, by simp [i3]⟩

/-- at most 50 limbs, else none -/
def capL (xs : List Int) : List Int := if 50 < xs.length then [] else xs
/-- what the functions of the chapter answer for a number -/
def natRes (n : Int) : List Int := capL (limbs n.toNat)
end Go.Proofs.YtofehcpapdlcnaaGreatDoor

namespace Go.Proofs.YtofehcpapdlcnaaGreatDoor
open Go.RowKit

/-- the power of the base -/
def bp : Nat → Int
  | 0 => 1
  | k + 1 => 1000000000 * bp k
theorem bp_pos (k : Nat) : 0 < bp k := by
  induction k with
  | zero => decide
  | succ k ih => show 0 < 1000000000 * bp k; omega
theorem bp_add (j k : Nat) : bp (j + k) = bp j * bp k := by
  induction j with
  | zero => rw [Nat.zero_add]; show _ = 1 * _; omega
  | succ j ih =>
    rw [show j + 1 + k = (j + k) + 1 by omega]
    show 1000000000 * bp (j + k) = 1000000000 * bp j * bp k
    rw [ih, Int.mul_assoc]
theorem bp_mono {j k : Nat} (h : j ≤ k) : bp j ≤ bp k := by
  obtain ⟨d, rfl⟩ := Nat.le.dest h
  rw [bp_add]
  have h1 := bp_pos j
  have h2 := bp_pos d
  have h3 := Int.mul_le_mul_of_nonneg_left (show 1 ≤ bp d by omega) (show 0 ≤ bp j by omega)
  omega
theorem nval_append (xs ys : List Int) : nval (xs ++ ys) = nval xs + bp xs.length * nval ys := by
  induction xs with
  | nil => show nval ys = 0 + 1 * nval ys; omega
  | cons d r ih =>
    show d + 1000000000 * nval (r ++ ys) = d + 1000000000 * nval r + 1000000000 * bp r.length * nval ys
    rw [ih, Int.mul_add, Int.mul_assoc, Int.add_assoc]
theorem nval_lt (xs : List Int) (h : DigN xs) : nval xs < bp xs.length := by
  induction xs with
  | nil => show (0 : Int) < 1; decide
  | cons d r ih =>
    have h1 := ih h.tail
    have h2 := h.head
    show d + 1000000000 * nval r < 1000000000 * bp r.length
    omega
theorem DigN.append {xs ys : List Int} (h : DigN xs) (k : DigN ys) : DigN (xs ++ ys) := fun d hd => (List.mem_append.1 hd).elim (h d) (k d)
theorem dig_one {d : Int} (h0 : 0 ≤ d) (h1 : d ≤ 999999999) : DigN [d] := fun x hx => by simp at hx; omega
theorem dig_zeros (n : Nat) : DigN (List.replicate n 0) := fun d hd => by rw [(List.mem_replicate.1 hd).2]; omega
theorem nval_zeros (n : Nat) : nval (List.replicate n 0) = 0 := by
  induction n with
  | zero => rfl
  | succ n ih => rw [List.replicate_succ]; show 0 + 1000000000 * nval (List.replicate n 0) = 0; omega
theorem nval_set (xs : List Int) (k : Nat) (d : Int) (h : k < xs.length) : nval (xs.set k d) = nval xs + (d - xs[k]) * bp k := by
  induction xs generalizing k with
  | nil => simp at h
  | cons x r ih =>
    cases k with
    | zero => show d + 1000000000 * nval r = x + 1000000000 * nval r + (d - x) * 1; omega
    | succ k =>
      have hk : k < r.length := by simpa using h
      have h1 := ih k hk
      show x + 1000000000 * nval (r.set k d) = x + 1000000000 * nval r + (d - r[k]) * (1000000000 * bp k)
      rw [h1, Int.mul_add, Int.add_assoc]
      congr 2
      rw [← Int.mul_assoc, ← Int.mul_assoc, Int.mul_comm 1000000000]
theorem DigN.set {xs : List Int} (h : DigN xs) (k : Nat) {d : Int} (h0 : 0 ≤ d) (h1 : d ≤ 999999999) : DigN (xs.set k d) := fun x hx => by
  rcases List.mem_or_eq_of_mem_set hx with hx | rfl
  · exact h x hx
  · exact ⟨h0, h1⟩

/-- the last limb is not 0: the number is at least the power below its length -/
theorem nval_ge (xs : List Int) (h : DigN xs) (hl : xs.getLastD 1 ≠ 0) (hn : 0 < xs.length) : bp (xs.length - 1) ≤ nval xs := by
  have hne : xs ≠ [] := fun e => by rw [e] at hn; simp at hn
  have e := (List.dropLast_concat_getLast hne).symm
  have hg : xs.getLastD 1 = xs.getLast hne := by
    rw [List.getLastD_eq_getLast?, List.getLast?_eq_some_getLast hne]
    rfl
  rw [hg] at hl
  have hd := h _ (List.getLast_mem hne)
  rw [e, nval_append]
  have h1 := nval_nonneg xs.dropLast (fun d hd => h d (List.dropLast_subset _ hd))
  have h2 : nval [xs.getLast hne] = xs.getLast hne := by show xs.getLast hne + 1000000000 * 0 = _; omega
  rw [h2, List.length_append, List.length_dropLast]
  simp only [List.length_singleton]
  rw [show xs.length - 1 + 1 - 1 = xs.length - 1 by omega]
  have h3 := bp_pos (xs.length - 1)
  have h4 := Int.mul_le_mul_of_nonneg_left (show 1 ≤ xs.getLast hne by omega) (show 0 ≤ bp (xs.length - 1) by omega)
  omega
/-- the other way: then the limbs are those of their number -/
theorem limbs_of_ge (xs : List Int) (h : DigN xs) (hg : 0 < xs.length → bp (xs.length - 1) ≤ nval xs) : xs = limbs (nval xs).toNat := by
  rw [← trim_limbs xs h]
  symm
  apply trim_last
  intro h0
  by_cases hne : xs = []
  · rw [hne] at h0; exact absurd h0 (by decide)
  · have hn : 0 < xs.length := List.length_pos_iff.2 hne
    have e := (List.dropLast_concat_getLast hne).symm
    have hg2 : xs.getLastD 1 = xs.getLast hne := by
      rw [List.getLastD_eq_getLast?, List.getLast?_eq_some_getLast hne]
      rfl
    have h1 := hg hn
    rw [e, nval_append, ← hg2, h0] at h1
    have h2 := nval_lt xs.dropLast (fun d hd => h d (List.dropLast_subset _ hd))
    have h3 : nval [(0 : Int)] = 0 := rfl
    rw [h3, List.length_append, List.length_dropLast] at h1
    rw [List.length_dropLast] at h2
    simp only [List.length_singleton] at h1
    rw [show xs.length - 1 + 1 - 1 = xs.length - 1 by omega] at h1
    omega
theorem ok_ge {xs : List Int} (h : natOkB xs = true) (hn : 0 < xs.length) : bp (xs.length - 1) ≤ nval xs := nval_ge xs (natOk_parts h).1 (natOk_parts h).2.2 hn

/-- filled up with zeros to a length -/
def padL (xs : List Int) (n : Nat) : List Int := xs ++ List.replicate (n - xs.length) 0
theorem padL_length (xs : List Int) (n : Nat) : (padL xs n).length = max xs.length n := by unfold padL; rw [List.length_append, List.length_replicate]; omega
theorem padL_val (xs : List Int) (n : Nat) : nval (padL xs n) = nval xs := by unfold padL; rw [nval_append, nval_zeros]; omega
theorem padL_dig {xs : List Int} (h : DigN xs) (n : Nat) : DigN (padL xs n) := h.append (dig_zeros _)
theorem padL_at (xs : List Int) (k : Nat) (h : k < (padL xs (k + 1)).length) : (padL xs (k + 1))[k] = xs.getD k 0 := by
  unfold padL at h ⊢
  by_cases hk : k < xs.length
  · rw [List.getElem_append_left hk, List.getD_eq_getElem?_getD, List.getElem?_eq_getElem hk]; rfl
  · rw [List.getElem_append_right (by omega), List.getElem_replicate, List.getD_eq_getElem?_getD, List.getElem?_eq_none (by omega)]; rfl

/-- adding a value at a place: the new limbs; the carry -/
def addAtL (xs : List Int) (p : Nat) (v : Int) : List Int := (padL xs (p + 1)).set p ((v + xs.getD p 0) % 1000000000)
def addAtC (xs : List Int) (p : Nat) (v : Int) : Int := (v + xs.getD p 0) / 1000000000
theorem getD_dig {xs : List Int} (h : DigN xs) (p : Nat) : 0 ≤ xs.getD p 0 ∧ xs.getD p 0 ≤ 999999999 := by
  rw [List.getD_eq_getElem?_getD]
  by_cases hk : p < xs.length
  · rw [List.getElem?_eq_getElem hk]; exact h.at_ p hk
  · rw [List.getElem?_eq_none (by omega)]; show 0 ≤ (0 : Int) ∧ (0 : Int) ≤ 999999999; omega
theorem addAt_length (xs : List Int) (p : Nat) (v : Int) : (addAtL xs p v).length = max xs.length (p + 1) := by unfold addAtL; rw [List.length_set, padL_length]
theorem addAt_dig {xs : List Int} (h : DigN xs) (p : Nat) (v : Int) : DigN (addAtL xs p v) := (padL_dig h _).set p (by omega) (by omega)
theorem addAt_val (xs : List Int) (p : Nat) (v : Int) : nval (addAtL xs p v) + addAtC xs p v * bp (p + 1) = nval xs + v * bp p := by
  have hl : p < (padL xs (p + 1)).length := by rw [padL_length]; omega
  unfold addAtL addAtC
  rw [nval_set _ p _ hl, padL_val, padL_at]
  generalize xs.getD p 0 = d
  show nval xs + ((v + d) % 1000000000 - d) * bp p + (v + d) / 1000000000 * (1000000000 * bp p) = nval xs + v * bp p
  rw [← Int.mul_assoc, Int.add_assoc, ← Int.add_mul]
  rw [show (v + d) % 1000000000 - d + (v + d) / 1000000000 * 1000000000 = v by omega]
/-- a new last limb -/
theorem addAt_new (xs : List Int) (p : Nat) (v : Int) (hp : p = xs.length) (h0 : 0 < v) (h1 : v ≤ 999999999) : addAtC xs p v = 0 ∧ addAtL xs p v = xs ++ [v] := by
  subst hp
  have e : xs.getD xs.length 0 = 0 := by rw [List.getD_eq_getElem?_getD, List.getElem?_eq_none (Nat.le_refl _)]; rfl
  unfold addAtL addAtC padL
  rw [e]
  refine ⟨by omega, ?_⟩
  rw [show xs.length + 1 - xs.length = 1 by omega, List.set_append_right _ _ (Nat.le_refl _), Nat.sub_self]
  show xs ++ [(v + 0) % 1000000000] = xs ++ [v]
  rw [show (v + 0) % 1000000000 = v by omega]

/-- subtracting a value at a place; the borrow -/
def takeAtL (xs : List Int) (p : Nat) (v : Int) : List Int := xs.set p ((xs.getD p 0 - v) % 1000000000)
def takeAtC (xs : List Int) (p : Nat) (v : Int) : Int := -((xs.getD p 0 - v) / 1000000000)
theorem takeAt_length (xs : List Int) (p : Nat) (v : Int) : (takeAtL xs p v).length = xs.length := by unfold takeAtL; rw [List.length_set]
theorem takeAt_dig {xs : List Int} (h : DigN xs) (p : Nat) (v : Int) : DigN (takeAtL xs p v) := h.set p (by omega) (by omega)
theorem takeAt_bound {xs : List Int} (h : DigN xs) (p : Nat) (v : Int) (h0 : 0 ≤ v) (h1 : v ≤ 999999999000000000) : 0 ≤ takeAtC xs p v ∧ takeAtC xs p v ≤ 999999999 := by
  have hd := getD_dig h p
  unfold takeAtC
  omega
theorem takeAt_val (xs : List Int) (p : Nat) (v : Int) (hp : p < xs.length) : nval (takeAtL xs p v) - takeAtC xs p v * bp (p + 1) = nval xs - v * bp p := by
  have hg : xs.getD p 0 = xs[p] := by rw [List.getD_eq_getElem?_getD, List.getElem?_eq_getElem hp]; rfl
  unfold takeAtL takeAtC
  rw [nval_set _ p _ hp, hg]
  generalize xs[p] = d
  show nval xs + ((d - v) % 1000000000 - d) * bp p - -((d - v) / 1000000000) * (1000000000 * bp p) = nval xs - v * bp p
  rw [← Int.mul_assoc, Int.add_sub_assoc, ← Int.sub_mul]
  rw [show (d - v) % 1000000000 - d - -((d - v) / 1000000000) * 1000000000 = -v by omega, Int.neg_mul]
  omega
end Go.Proofs.YtofehcpapdlcnaaGreatDoor

namespace Go.Proofs.YtofehcpapdlcnaaGreatDoor
open Go.RowKit

/-- one limb more of a division -/
theorem div_step (x N D : Int) (hD : 0 < D) (hx0 : 0 ≤ x) (hx1 : x ≤ 999999999) :
    (x + 1000000000 * N) / D = (N % D * 1000000000 + x) / D + 1000000000 * (N / D) ∧ (x + 1000000000 * N) % D = (N % D * 1000000000 + x) % D ∧
      0 ≤ (N % D * 1000000000 + x) / D ∧ (N % D * 1000000000 + x) / D ≤ 999999999 ∧ 0 ≤ N % D ∧ N % D < D := by
  have h0 := Int.emod_nonneg N (show D ≠ 0 by omega)
  have h1 := Int.emod_lt_of_pos N hD
  have e : x + 1000000000 * N = (N % D * 1000000000 + x) + D * (1000000000 * (N / D)) := by
    have h2 := Int.emod_add_mul_ediv N D
    have h3 : 1000000000 * N = 1000000000 * (N % D) + D * (1000000000 * (N / D)) := by
      conv => lhs; rw [← h2, Int.mul_add, Int.mul_left_comm]
    omega
  refine ⟨?_, ?_, ?_, ?_, h0, h1⟩
  · rw [e, Int.add_mul_ediv_left _ _ (by omega)]
  · rw [e, Int.add_mul_emod_self_left]
  · exact Int.ediv_nonneg (by omega) (by omega)
  · have : (N % D * 1000000000 + x) / D < 1000000000 := Int.ediv_lt_of_lt_mul hD (by
      have h4 : N % D * 1000000000 + x < (N % D + 1) * 1000000000 := by omega
      have h5 : (N % D + 1) * 1000000000 ≤ D * 1000000000 := Int.mul_le_mul_of_nonneg_right (by omega) (by omega)
      omega)
    omega

/-- a division that has come down to limb k -/
def DivR (a : List Int) (D : Int) (k : Nat) (R : Int) (qs : List Int) : Prop :=
  R = nval (a.drop k) % D ∧ nval qs = nval (a.drop k) / D ∧ DigN qs ∧ qs.length + k = a.length
theorem DivR.start (a : List Int) (D : Int) : DivR a D a.length 0 [] := by
  refine ⟨?_, ?_, (fun d hd => by cases hd), by simp⟩
  · rw [List.drop_of_length_le (Nat.le_refl _)]; show (0 : Int) = 0 % D; simp
  · rw [List.drop_of_length_le (Nat.le_refl _)]; show (0 : Int) = 0 / D; simp
theorem DivR.bound {a : List Int} {D : Int} {k : Nat} {R : Int} {qs : List Int} (h : DivR a D k R qs) (hD : 0 < D) : 0 ≤ R ∧ R < D := by
  rw [h.1]
  exact ⟨Int.emod_nonneg _ (by omega), Int.emod_lt_of_pos _ hD⟩
theorem DivR.next {a : List Int} {D : Int} {i : Nat} {R : Int} {qs : List Int} (h : DivR a D (i + 1) R qs) (hD : 0 < D) (hd : DigN a) (hi : i < a.length) :
    DivR a D i ((R * 1000000000 + a[i]) % D) ((R * 1000000000 + a[i]) / D :: qs) := by
  obtain ⟨h1, h2, h3, h4⟩ := h
  have hx := hd.at_ i hi
  obtain ⟨e1, e2, e3, e4, _, _⟩ := div_step a[i] (nval (a.drop (i + 1))) D hD hx.1 hx.2
  subst h1
  refine ⟨by rw [nval_drop a i hi, e2], ?_, DigN.cons e3 e4 h3, by simp; omega⟩
  show _ + 1000000000 * nval qs = _
  rw [nval_drop a i hi, e1, h2]
theorem DivR.digit {a : List Int} {D : Int} {i : Nat} {R : Int} {qs : List Int} (h : DivR a D (i + 1) R qs) (hD : 0 < D) (hd : DigN a) (hi : i < a.length) :
    0 ≤ (R * 1000000000 + a[i]) / D ∧ (R * 1000000000 + a[i]) / D ≤ 999999999 := by
  have hx := hd.at_ i hi
  obtain ⟨_, _, e3, e4, _, _⟩ := div_step a[i] (nval (a.drop (i + 1))) D hD hx.1 hx.2
  rw [h.1]
  exact ⟨e3, e4⟩
theorem DivR.done {a : List Int} {D R : Int} {qs : List Int} (h : DivR a D 0 R qs) : trimL qs = limbs (nval a / D).toNat ∧ R = nval a % D := by
  obtain ⟨h1, h2, h3, h4⟩ := h
  rw [List.drop_zero] at h1 h2
  exact ⟨by rw [trim_limbs qs h3, h2], h1⟩
theorem zeros_set (i : Nat) (q : Int) (qs : List Int) : (List.replicate (i + 1) 0 ++ qs).set i q = List.replicate i 0 ++ (q :: qs) := by
  rw [List.replicate_succ', List.append_assoc, List.set_append_right _ _ (by simp), List.length_replicate, Nat.sub_self]
  rfl
theorem limbs_val (n : Nat) : nval (limbs n) = n := by
  induction n using Nat.strongRecOn with
  | _ n ih =>
    by_cases h0 : n = 0
    · subst h0; rw [limbs, dif_pos rfl]; rfl
    · rw [limbs, dif_neg h0]
      have := ih (n / 1000000000) (by omega)
      show ((n % 1000000000 : Nat) : Int) + 1000000000 * nval (limbs (n / 1000000000)) = n
      rw [this]
      omega
theorem limbs_toNat (N : Int) (h : 0 ≤ N) : nval (limbs N.toNat) = N := by rw [limbs_val]; omega
theorem limbs_digN (n : Nat) : DigN (limbs n) := by
  induction n using Nat.strongRecOn with
  | _ n ih =>
    by_cases h0 : n = 0
    · subst h0; rw [limbs, dif_pos rfl]; exact fun d hd => by cases hd
    · rw [limbs, dif_neg h0]
      exact DigN.cons (by omega) (by omega) (ih _ (by omega))
theorem limbs_lastN (n : Nat) : (limbs n).getLastD 1 ≠ 0 := by
  induction n using Nat.strongRecOn with
  | _ n ih =>
    by_cases h0 : n = 0
    · subst h0; rw [limbs, dif_pos rfl]; decide
    · by_cases hs : n / 1000000000 = 0
      · rw [limbs, dif_neg h0, hs, show limbs 0 = [] from by rw [limbs, dif_pos rfl]]
        show ((n % 1000000000 : Nat) : Int) ≠ 0
        omega
      · have hi := ih (n / 1000000000) (by omega)
        have e : limbs (n / 1000000000) = ((n / 1000000000 % 1000000000 : Nat) : Int) :: limbs (n / 1000000000 / 1000000000) := by rw [limbs, dif_neg hs]
        rw [limbs, dif_neg h0]
        rw [e] at hi ⊢
        simpa using hi
theorem limbs_length_le (n : Nat) (k : Nat) (h : (n : Int) < bp k) : (limbs n).length ≤ k := by
  rcases Nat.lt_or_ge k (limbs n).length with hl | hl
  · have h1 := nval_ge (limbs n) (limbs_digN n) (limbs_lastN n) (by omega)
    have h2 := bp_mono (show k ≤ (limbs n).length - 1 by omega)
    rw [limbs_val] at h1
    omega
  · exact hl
/-- the greatest digit -/
theorem digit_le (q r b : Int) (hb : 0 < b) : q * b ≤ r ↔ q ≤ r / b := (Int.le_ediv_iff_mul_le hb).symm
end Go.Proofs.YtofehcpapdlcnaaGreatDoor

namespace Go.Proofs.YtofehcpapdlcnaaGreatDoor
open Go.RowKit

/-- a signed number as data: its sign, its limbs -/
abbrev SI : Type := Bool × List Int
def zeroS : SI := (false, [])
/-- what IntOk answers -/
def okS (x : SI) : Bool := natOkB x.2 && (!x.1 || decide (0 < x.2.length))
/-- the number -/
def valS (x : SI) : Int := if x.1 = true then -(nval x.2) else nval x.2
/-- the signed number of an integer; zero where it wants more limbs than there may be -/
def ofZ (z : Int) : SI := if (limbs z.natAbs).length ≤ 50 then (decide (z < 0), limbs z.natAbs) else zeroS
theorem okS_parts {x : SI} (h : okS x = true) : natOkB x.2 = true ∧ (x.1 = true → 0 < x.2.length) := by
  unfold okS at h
  rw [Bool.and_eq_true] at h
  refine ⟨h.1, fun hn => ?_⟩
  rw [hn] at h
  simpa using h.2
theorem zeroS_ok : okS zeroS = true := rfl
theorem zeroS_val : valS zeroS = 0 := rfl
theorem okS_pos {x : SI} (h : okS x = true) (hn : 0 < x.2.length) : 0 < nval x.2 := by
  have h1 := ok_ge (okS_parts h).1 hn
  have h2 := bp_pos (x.2.length - 1)
  omega
theorem nval_ok {xs : List Int} (h : natOkB xs = true) : 0 ≤ nval xs := nval_nonneg xs (natOk_parts h).1
theorem okS_sign {x : SI} (h : okS x = true) : x.1 = decide (valS x < 0) := by
  have hp := okS_parts h
  have h0 := nval_ok hp.1
  unfold valS
  cases hx : x.1 with
  | false => rw [if_neg (by decide)]; exact (decide_eq_false (by omega)).symm
  | true =>
    have := okS_pos h (hp.2 hx)
    rw [if_pos rfl]
    exact (decide_eq_true (by omega)).symm
theorem valS_abs (x : SI) (h : natOkB x.2 = true) : (valS x).natAbs = (nval x.2).toNat := by
  have h0 := nval_ok h
  unfold valS
  split <;> omega
theorem limbs_zero_iff (n : Nat) : (limbs n).length = 0 ↔ n = 0 := by
  constructor
  · intro h
    have := limbs_val n
    rw [List.eq_nil_of_length_eq_zero h] at this
    have h2 : nval [] = 0 := rfl
    omega
  · rintro rfl; rw [limbs, dif_pos rfl]; rfl
theorem limbs_okL (n : Nat) (h : (limbs n).length ≤ 50) : natOkB (limbs n) = true := by
  unfold natOkB
  rw [Bool.and_eq_true, Bool.and_eq_true, all_dig]
  exact ⟨limbs_digN n, decide_eq_true h, decide_eq_true (limbs_lastN n)⟩
theorem ofZ_ok (z : Int) : okS (ofZ z) = true := by
  unfold ofZ
  split
  · rename_i h
    unfold okS
    rw [limbs_okL _ h, Bool.true_and]
    by_cases hz : z < 0
    · have : 0 < (limbs z.natAbs).length := by
        rcases Nat.eq_zero_or_pos (limbs z.natAbs).length with h0 | h0
        · rw [limbs_zero_iff] at h0; omega
        · exact h0
      simp [this]
    · simp [hz]
  · exact zeroS_ok
theorem ofZ_val {z : Int} (h : (limbs z.natAbs).length ≤ 50) : valS (ofZ z) = z := by
  unfold ofZ
  rw [if_pos h]
  unfold valS
  by_cases hz : z < 0
  · rw [if_pos (by simpa using hz), limbs_val]; omega
  · rw [if_neg (by simpa using hz), limbs_val]; omega
theorem ofZ_zero : ofZ 0 = zeroS := by unfold ofZ; rw [show (0 : Int).natAbs = 0 from rfl, show limbs 0 = [] by rw [limbs, dif_pos rfl], if_pos (by decide)]; rfl
theorem ofZ_len (z : Int) : (ofZ z).2.length ≤ 50 := (natOk_parts (okS_parts (ofZ_ok z)).1).2.1
/-- what the functions answer -/
def negS (x : SI) : SI := if okS x = true then ofZ (-(valS x)) else zeroS
def addS (x y : SI) : SI := if okS x = true ∧ okS y = true then ofZ (valS x + valS y) else zeroS
def subS (x y : SI) : SI := if okS x = true ∧ okS y = true then ofZ (valS x - valS y) else zeroS
def mulS (x y : SI) : SI := if okS x = true ∧ okS y = true then ofZ (valS x * valS y) else zeroS
def cmpS (x y : SI) : Int := if okS x = true ∧ okS y = true then cmpI (valS x) (valS y) else 0
theorem negS_val {x : SI} (h : okS x = true) : valS (negS x) = -(valS x) := by
  unfold negS
  rw [if_pos h]
  have hp := okS_parts h
  have e := valS_abs x hp.1
  refine ofZ_val ?_
  rw [Int.natAbs_neg, e, ← natOk_limbs hp.1]
  exact (natOk_parts hp.1).2.1
theorem negS_ok (x : SI) : okS (negS x) = true := by unfold negS; split; exact ofZ_ok _; exact zeroS_ok
/-- a sign and limbs laid together, as the document's value: the sign falls away where nothing is left -/
def mkS (n : Bool) (xs : List Int) : SI := (n && decide (0 < (capL xs).length), capL xs)
theorem mkS_limbs (n : Bool) (m : Nat) : mkS n (limbs m) = ofZ (if n = true then -(m : Int) else m) := by
  have e : (if n = true then -(m : Int) else (m : Int)).natAbs = m := by split <;> omega
  unfold mkS ofZ
  rw [e]
  unfold capL
  by_cases h : 50 < (limbs m).length
  · rw [if_pos h, if_neg (by omega)]
    cases n <;> rfl
  · rw [if_neg h, if_pos (by omega)]
    have hz := limbs_zero_iff m
    cases n with
    | false => simp
    | true =>
      simp only [Bool.true_and, if_true]
      congr 1
      by_cases h0 : m = 0
      · have := hz.2 h0
        rw [decide_eq_false (by omega), decide_eq_false (by omega)]
      · have : 0 < (limbs m).length := by
          rcases Nat.eq_zero_or_pos (limbs m).length with h1 | h1
          · exact absurd (hz.1 h1) h0
          · exact h1
        rw [decide_eq_true this, decide_eq_true (by omega)]
end Go.Proofs.YtofehcpapdlcnaaGreatDoor

namespace Go.Proofs.YtofehcpapdlcnaaGreatDoor
open Go.RowKit

/-- a value that stands for it, its limbs of the call's own -/
def OwnS (v : Value) (x : SI) (w : World) : Prop := ∃ u, v = .agg #[.bool x.1, u] ∧ OwnI u x.2 w
def MarkS (v : Value) (x : SI) (m : Int) (w : World) : Prop := ∃ u, v = .agg #[.bool x.1, u] ∧ MarkI u x.2 m w
/-- a value that reads as it -/
def RdS (w : World) (v : Value) (x : SI) : Prop := ∃ u, v = .agg #[.bool x.1, u] ∧ Row w 0 w.heap.size u (intsV x.2)
def szS (x : SI) : Int := szI x.2
theorem ownI_of {w : World} {base : Nat} {u : Value} {xs : List Int} (h : w.ownsRow base 3 1 u xs.length (intsV xs)) : OwnI u xs w := own_zero h
theorem OwnS.mk {u : Value} {x : SI} {w : World} (h : OwnI u x.2 w) : OwnS (.agg #[.bool x.1, u]) x w := ⟨u, rfl, h⟩
theorem OwnS.rd {v : Value} {x : SI} {w : World} (h : OwnS v x w) : RdS w v x := by
  obtain ⟨u, rfl, o⟩ := h
  exact ⟨u, rfl, o.row⟩
theorem row_form {w : World} {lo hi : Nat} {v : Value} {xs : List Value} (h : Row w lo hi v xs) : ∃ A c, v = .slice A xs.length c := by
  obtain ⟨A, c, rfl, _⟩ := h
  exact ⟨A, c, rfl⟩

/-- a new signed number -/
def NewS (x : SI) (w : World) (e : Ending) (w' : World) : Prop := ∃ u, e = .returned (.agg #[.bool x.1, u]) ∧ w'.ownsRow w.heap.size 3 1 u x.2.length (intsV x.2) ∧ Below w.heap.size w w'
theorem own_low {w : World} {base base' n : Nat} {e : TypeId} {v : Value} {xs : List Value} (h : w.ownsRow base e 1 v n xs) (hb : base' ≤ base) : w.ownsRow base' e 1 v n xs := by
  obtain ⟨hl, h | ⟨g, cap, cur, rfl, hg, r⟩⟩ := h
  · exact ⟨hl, .inl h⟩
  · exact ⟨hl, .inr ⟨g, cap, cur, rfl, by omega, r⟩⟩

/-- what is left of a budget -/
def leftI (left n : Int) : Int := if left - n < 0 then -1 else left - n
set_option maxHeartbeats 400000 in
set_option maxRecDepth 100000 in
theorem szIntS_any (v : Value) (xs : List Int) (lo hi : Nat) (left : Int) (w : World) (hl : xs.length ≤ 9223372036854775807) (h0 : 0 ≤ left) (h1 : left ≤ 1048576) (hr : Row w lo hi v (intsV xs)) :
    Calls Tryz.prog 66 #[v, .int .i64 left] w fun e w' => e = .returned (.int .i64 (leftI left (szI xs))) ∧ w = w' := by
  obtain ⟨A, c, rfl⟩ := row_form hr
  rw [intsV_length]
  have HZ := Lib.hid (show szI xs = xs.length from rfl)
  by_cases hc : left - xs.length < 0
  · have HV : Hid (leftI left (szI xs) = -1) := Lib.hid (by unfold leftI; rw [HZ.out, if_pos hc])
    have hc2 : left < (xs.length : Int) := by omega
    go_enter Tryz.func66, Tryz.ntmps66
    go_wp2
    go_ret
    exact ⟨ret_int HV.out.symm, rfl⟩
  · have HV : Hid (leftI left (szI xs) = left - xs.length) := Lib.hid (by unfold leftI; rw [HZ.out, if_neg hc])
    have hc2 : ¬ left < (xs.length : Int) := by omega
    go_enter Tryz.func66, Tryz.ntmps66
    go_wp2
    go_ret
    exact ⟨ret_int HV.out.symm, rfl⟩

set_option maxHeartbeats 400000 in
set_option maxRecDepth 100000 in
theorem eqSigned_at (u v : Value) (x y : SI) (w : World) (hl : x.2.length ≤ 9223372036854775807) (hu : RdS w u x) (hv : RdS w v y) :
    Calls Tryz.prog 40 #[u, v] w fun e w' => e = .returned (.bool (decide (x = y))) ∧ Below w.heap.size w w' := by
  obtain ⟨xn, xs⟩ := x
  obtain ⟨yn, ys⟩ := y
  obtain ⟨p, rfl, hp⟩ := hu
  obtain ⟨q, rfl, hq⟩ := hv
  obtain ⟨A, c, rfl⟩ := row_form hp
  obtain ⟨B, d, rfl⟩ := row_form hq
  rw [intsV_length] at hp hq ⊢
  rw [intsV_length]
  simp only at hl hp hq ⊢
  by_cases hn : xn = yn
  · subst hn
    have HV : Hid (decide ((xn, xs) = (xn, ys)) = decide (xs = ys)) := Lib.hid (by simp)
    have hbn : (xn != xn) = false := by simp
    go_enter Tryz.func40, Tryz.ntmps40
    go_wp2_with fail
    refine (eqIntS_any _ _ xs ys 0 w.heap.size 0 w.heap.size _ hl (hp.below (((Below.refl _ _).alloc (Nat.le_refl _) _).alloc (by simp) _) (Nat.le_refl _)) (hq.below (((Below.refl _ _).alloc (Nat.le_refl _) _).alloc (by simp) _) (Nat.le_refl _))).mono ?_
    rintro e w1 ⟨rfl, n, rfl⟩
    by_cases he : xs = ys
    · rw [decide_eq_true he]
      have HE := Lib.hid he
      clear he
      go_wp2
      go_ret
      exact ⟨ret_bool (by rw [HV.out, decide_eq_true HE.out]), below_drewN (((Below.refl _ _).alloc (Nat.le_refl _) _).alloc (by simp) _) n⟩
    · rw [decide_eq_false he]
      have HE := Lib.hid he
      clear he
      go_wp2
      go_ret
      exact ⟨ret_bool (by rw [HV.out, decide_eq_false HE.out]), below_drewN (((Below.refl _ _).alloc (Nat.le_refl _) _).alloc (by simp) _) n⟩
  · have hbn : (xn != yn) = true := by rw [bne_iff_ne]; exact hn
    have hbe : (xn == yn) = false := by rw [beq_eq_false_iff_ne]; exact hn
    have HV : Hid (decide ((xn, xs) = (yn, ys)) = false) := Lib.hid (decide_eq_false (fun e => hn (by injection e)))
    clear hn
    go_enter Tryz.func40, Tryz.ntmps40
    go_wp2
    go_ret
    exact ⟨ret_bool HV.out.symm, ((Below.refl _ _).alloc (Nat.le_refl _) _).alloc (by simp) _⟩

theorem alloc3 (w : World) (a b c : Obj) : (((w.alloc a).alloc b).alloc c).heap[w.heap.size]? = some a ∧ (((w.alloc a).alloc b).alloc c).heap[w.heap.size + 1]? = some b ∧ (((w.alloc a).alloc b).alloc c).heap[w.heap.size + 1 + 1]? = some c ∧ (((w.alloc a).alloc b).alloc c).heap.size = w.heap.size + 3 := by
  have s1 : (w.alloc a).heap.size = w.heap.size + 1 := by simp
  have s2 : ((w.alloc a).alloc b).heap.size = w.heap.size + 1 + 1 := by simp
  have s3 : (((w.alloc a).alloc b).alloc c).heap.size = w.heap.size + 1 + 1 + 1 := by simp
  have n1 := heap_alloc_new w a
  have n2 := heap_alloc_new (w.alloc a) b
  have n3 := heap_alloc_new ((w.alloc a).alloc b) c
  rw [s1] at n2
  rw [s2] at n3
  refine ⟨?_, ?_, n3, by rw [s3]⟩
  · rw [Below.heap_alloc _ _ _ (by omega), Below.heap_alloc _ _ _ (by omega)]; exact n1
  · rw [Below.heap_alloc _ _ _ (by omega)]; exact n2
theorem below3 (w : World) (a b c : Obj) : Below w.heap.size w (((w.alloc a).alloc b).alloc c) := (((Below.refl _ _).alloc (Nat.le_refl _) _).alloc (by simp) _).alloc (by simp; omega) _
set_option maxHeartbeats 400000 in
set_option maxRecDepth 100000 in
theorem toSigned_at (v : Value) (x : SI) (w : World) (hl : x.2.length ≤ 1048576) (h : RdS w v x) :
    Calls Tryz.prog 35 #[v] w (NewS x w) := by
  obtain ⟨n, xs⟩ := x
  obtain ⟨p, rfl, hp⟩ := h
  obtain ⟨A, c, rfl⟩ := row_form hp
  rw [intsV_length] at hp ⊢
  simp only at hl hp ⊢
  go_enter Tryz.func35, Tryz.ntmps35
  go_wp2_with fail
  have h3 := alloc3 w (.cells #[.bool n, .slice A xs.length c] 24) (.cells #[.bool false, .slice none 0 0] 31) (.cells #[.bool n, .slice none 0 0] 31)
  have hb3 := below3 w (.cells #[.bool n, .slice A xs.length c] 24) (.cells #[.bool false, .slice none 0 0] 31) (.cells #[.bool n, .slice none 0 0] 31)
  refine (toIntS_any _ xs 0 w.heap.size _ (by rw [h3.2.2.2]; omega) hl (hp.below hb3 (Nat.le_refl _))).mono ?_
  rintro e w1 ⟨u, rfl, o1, b1⟩
  have hbb : Below w.heap.size w w1 := Below.next hb3 b1
  have k1 := (b1.block (w.heap.size + 1) (by rw [h3.2.2.2]; omega)).trans h3.2.1
  have k2 := (b1.block (w.heap.size + 1 + 1) (by rw [h3.2.2.2]; omega)).trans h3.2.2.1
  have hsz : w.heap.size + 3 ≤ w1.heap.size := by have := b1.size; rw [h3.2.2.2] at this; exact this
  obtain ⟨Au, cu, rfl⟩ := own_len o1
  have c10 : w1.cell? ⟨w.heap.size + 1, 0, none⟩ = some (.bool false) := by rw [Lib.cell_of_heap k1]; rfl
  have c11 : w1.cell? ⟨w.heap.size + 1, 1, none⟩ = some (.slice none 0 0) := by rw [Lib.cell_of_heap k1]; rfl
  have c20 : w1.cell? ⟨w.heap.size + 1 + 1, 0, none⟩ = some (.bool n) := by rw [Lib.cell_of_heap k2]; rfl
  have c21 : w1.cell? ⟨w.heap.size + 1 + 1, 1, none⟩ = some (.slice none 0 0) := by rw [Lib.cell_of_heap k2]; rfl
  have f10 : w1.frozen? ⟨w.heap.size + 1, 0, none⟩ = false := Lib.frozen_of_heap k1 0
  have f11 : w1.frozen? ⟨w.heap.size + 1, 1, none⟩ = false := Lib.frozen_of_heap k1 1
  have f21 : w1.frozen? ⟨w.heap.size + 1 + 1, 1, none⟩ = false := Lib.frozen_of_heap k2 1
  have HO := Lib.hid o1
  have HB := Lib.hid hbb
  have H3 := Lib.hid h3
  clear k1 k2 o1 hbb b1 hb3 h3 hp
  go_wp2
  have hc : Chg [w.heap.size + 1, w.heap.size + 1 + 1] w1 (((w1.setCell ⟨w.heap.size + 1 + 1, 1, none⟩ (.slice Au xs.length cu)).setCell ⟨w.heap.size + 1, 0, none⟩ (.bool n)).setCell ⟨w.heap.size + 1, 1, none⟩ (.slice Au xs.length cu)) :=
    (((Chg.refl _ _).setCell (by simp) _).setCell (by simp) _).setCell (by simp) _
  have hlo : ∀ g ∈ (Value.slice Au xs.length cu).ownBlock.toList, w.heap.size + 3 ≤ g ∧ g < w1.heap.size := fun g hg => by
    have h := own_within HO.out g hg
    rw [H3.out.2.2.2] at h
    exact h
  exact bodyPost_ret (v := .agg #[.bool n, .slice Au xs.length cu]) (by simp [results, Tryz.results35, go_sem, c10, c11]) rfl
    ⟨.slice Au xs.length cu, rfl, own_stays (own_low HO.out (by rw [H3.out.2.2.2]; omega)) fun g hg => hc.block g (hlo g (by rw [hg]; simp)).2 (fun hm => by have := hlo g (by rw [hg]; simp); simp at hm; omega),
      below_chg HB.out hc (by omega) (fun g hg => by simp at hg; omega)⟩

set_option maxHeartbeats 400000 in
set_option maxRecDepth 100000 in
theorem markSigned_at (v : Value) (x : SI) (S : List Nat) (m : Int) (w : World) (hm : m + szS x ≤ 9223372036854775807) (hm0 : 0 ≤ m) (h : At S (OwnS v x) w) :
    Calls Tryz.prog 42 #[v, .int .i64 m] w fun e w' => e = .returned (.int .i64 (m + szS x)) ∧ At S (MarkS v x m) w' ∧ Chg S w w' := by
  obtain ⟨n, xs⟩ := x
  obtain ⟨u, rfl, o⟩ := h.here
  obtain ⟨A, c, rfl⟩ := own_len o
  simp only at hm ⊢
  have hI : At S (OwnI (.slice A xs.length c) xs) w := ⟨o, h.lt, fun w' hk => by
    obtain ⟨u', e, o'⟩ := h.stays w' hk
    injection e with e
    have e2 : u' = .slice A xs.length c := by simpa using e.symm
    rw [e2] at o'
    exact o'⟩
  have hbx : Below w.heap.size w (w.alloc (.cells #[.bool n, .slice A xs.length c] 31)) := (Below.refl _ _).alloc (Nat.le_refl _) _
  clear h o
  have HZ := Lib.hid (show szS (n, xs) = szI xs from rfl)
  rw [HZ.out] at hm
  go_enter Tryz.func42, Tryz.ntmps42
  go_wp2_with fail
  refine (markIntS_at _ xs S m _ hm hm0 (hI.below hbx)).mono ?_
  rintro e w1 ⟨rfl, o1, c1⟩
  have HC := Lib.hid c1
  have HO := Lib.hid o1
  clear c1 o1 hI
  go_wp2
  go_ret
  exact ⟨ret_int (by rw [HZ.out]), HO.out.imp (fun _ h => ⟨_, rfl, h⟩), (Chg.of_below hbx).trans HC.out⟩

set_option maxHeartbeats 400000 in
set_option maxRecDepth 100000 in
theorem heldSigned_at (v : Value) (x : SI) (m : Int) (w : World) (hm : m + szS x ≤ 9223372036854775807) (hm0 : 0 ≤ m) (h : MarkS v x m w) :
    Calls Tryz.prog 44 #[v, .int .i64 m] w fun e w' => e = .returned (.int .i64 (m + szS x)) ∧ Below w.heap.size w w' := by
  obtain ⟨n, xs⟩ := x
  obtain ⟨u, rfl, o⟩ := h
  obtain ⟨A, c, rfl⟩ := own_len o
  have HZ := Lib.hid (show szS (n, xs) = szI xs from rfl)
  rw [HZ.out] at hm
  have hs0 : 0 ≤ szI xs := by unfold szI; omega
  have hbx : Below w.heap.size w (w.alloc (.cells #[.bool n, .slice A xs.length c] 31)) := (Below.refl _ _).alloc (Nat.le_refl _) _
  go_enter Tryz.func44, Tryz.ntmps44
  go_wp2_with fail
  refine (heldIntS_at _ xs m _ hm hm0 (own_below o hbx)).mono ?_
  rintro e w1 ⟨rfl, b1⟩
  have hneg : decide (m + szI xs < 0) = false := decide_eq_false (by omega)
  go_wp2
  go_ret
  exact ⟨ret_int (by rw [HZ.out]), Below.next hbx b1⟩

set_option maxHeartbeats 400000 in
set_option maxRecDepth 100000 in
theorem szSigned_at (v : Value) (x : SI) (left : Int) (w : World) (hl : x.2.length ≤ 9223372036854775807) (h0 : 0 ≤ left) (h1 : left ≤ 1048576) (h : RdS w v x) :
    Calls Tryz.prog 28 #[v, .int .i64 left] w fun e w' => e = .returned (.int .i64 (leftI left (szS x))) ∧ Below w.heap.size w w' := by
  obtain ⟨n, xs⟩ := x
  obtain ⟨u, rfl, hp⟩ := h
  obtain ⟨A, c, rfl⟩ := row_form hp
  rw [intsV_length] at hp ⊢
  simp only at hl hp ⊢
  have HZ := Lib.hid (show szS (n, xs) = szI xs from rfl)
  have hbx : Below w.heap.size w (w.alloc (.cells #[.bool n, .slice A xs.length c] 24)) := (Below.refl _ _).alloc (Nat.le_refl _) _
  go_enter Tryz.func28, Tryz.ntmps28
  go_wp2_with fail
  refine (szIntS_any _ xs 0 w.heap.size left _ hl h0 h1 (hp.below hbx (Nat.le_refl _))).mono ?_
  rintro e w1 ⟨rfl, rfl⟩
  have hv : leftI left (szI xs) < 0 ∧ leftI left (szI xs) = -1 ∨ ¬ leftI left (szI xs) < 0 := by unfold leftI; split <;> omega
  have HL := Lib.hid (show leftI left (szS (n, xs)) = leftI left (szI xs) by rw [HZ.out])
  generalize leftI left (szI xs) = z at *
  rcases hv with ⟨h2, h3⟩ | h2
  · have hneg : decide (z < 0) = true := decide_eq_true h2
    have H3 := Lib.hid h3
    clear h2 h3
    go_wp2
    go_ret
    exact ⟨ret_int (by rw [HL.out, H3.out]), hbx⟩
  · have hneg : decide (z < 0) = false := decide_eq_false h2
    clear h2
    go_wp2
    go_ret
    exact ⟨ret_int (by rw [HL.out]), hbx⟩

/-! ### locals of type impl.Signed: a box, and the limbs that it leads to -/
theorem leftI_of {l n : Int} (h : n ≤ l) : leftI l n = l - n := by unfold leftI; rw [if_neg (by omega)]
theorem below_set2 {W0 W : World} {g : Nat} {a b : Value} (h : Below W0.heap.size W0 W) (hg : W0.heap.size ≤ g) : Below W0.heap.size W0 ((W.setCell ⟨g, 0, none⟩ a).setCell ⟨g, 1, none⟩ b) := (h.setCell (p := ⟨g, 0, none⟩) hg _).setCell (p := ⟨g, 1, none⟩) hg _
theorem own_at' {w : World} {base : Nat} {u : Value} {xs : List Int} (h : w.ownsRow base 3 1 u xs.length (intsV xs)) : At u.ownBlock.toList (OwnI u xs) w := own_at h
/-- a local in its box, with the memory that it leads to -/
def LocS (g : Nat) (u : Value) (x : SI) (W : World) : Prop := BoxAt g #[.bool x.1, u] 31 W ∧ OwnI u x.2 W
def locB (g : Nat) (u : Value) : List Nat := g :: u.ownBlock.toList
theorem LocS.at_ {g : Nat} {u : Value} {x : SI} {W : World} (h : LocS g u x W) : At (locB g u) (LocS g u x) W :=
  ⟨h, fun i hi => by
    rcases List.mem_cons.1 hi with rfl | hi
    · exact (Array.getElem?_eq_some_iff.1 h.1).1
    · exact (own_lt h.2 (by simpa using hi)).2,
    fun w' hk => ⟨(hk g (by simp [locB])).trans h.1, own_stays h.2 fun i hi => hk i (by simp [locB, hi])⟩⟩
/-- a parameter's box: what it holds reads as x, whatever is new -/
theorem rdS_below {w W : World} {A : Option Addr} {c : Nat} {x : SI} (h : Row w 0 w.heap.size (.slice A x.2.length c) (intsV x.2)) (hb : Below w.heap.size w W) : RdS W (.agg #[.bool x.1, .slice A x.2.length c]) x :=
  ⟨_, rfl, (h.below hb (Nat.le_refl _)).wide (Nat.le_refl _) hb.size⟩
end Go.Proofs.YtofehcpapdlcnaaGreatDoor

namespace Go.Proofs.YtofehcpapdlcnaaGreatDoor
open Go.RowKit

/-- a new local of a struct type: its box, and the memory that it leads to -/
def NewLocV (T : TypeId) (φ : Value → World → Prop) (W0 : World) (s : Value) (W : World) : Prop :=
  ∃ (g : Nat) (cs : Array Value) (S : List Nat), s = .pointer (some ⟨g, 0, none⟩) ∧ At [g] (BoxAt g cs T) W ∧ At S (φ (.agg cs)) W ∧ g ∉ S ∧ Within (g :: S) W0.heap.size W.heap.size ∧ Below W0.heap.size W0 W
theorem within_up {S : List Nat} {a b c d : Nat} (h : Within S a b) (ha : c ≤ a) (hb : b ≤ d) : Within S c d := fun g hg => by have := h g hg; omega
theorem newLocV_last {T : TypeId} {φ : Value → World → Prop} {W0 W W1 : World} {cs : Array Value} {S : List Nat} (o : At S (φ (.agg cs)) W) (l : Within S W1.heap.size W.heap.size) (hB : W0.heap.size ≤ W1.heap.size) (hW : Below W0.heap.size W0 W) :
    NewLocV T φ W0 (.pointer (some ⟨W.heap.size, 0, none⟩)) (W.alloc (.cells cs T)) :=
  ⟨W.heap.size, cs, S, rfl, box_new W cs T, o.below (below_al (Below.refl _ _) _), fun h => by have := l _ h; omega, fun i hi => by
    rcases List.mem_cons.1 hi with rfl | hi
    · exact ⟨hW.size, by simp⟩
    · have := l i hi
      simp
      omega, below_al hW _⟩
theorem newLocV_of {T : TypeId} {φ : Value → World → Prop} {W0 W W' : World} {g : Nat} {cs : Array Value} {S : List Nat} {B : Nat} (hb : BoxAt g cs T W') (o : At S (φ (.agg cs)) W) (l : Within S B W.heap.size) (hg : W0.heap.size ≤ g) (hgB : g < B) (hc : Chg [g] W W') (hW : Below W0.heap.size W0 W) :
    NewLocV T φ W0 (.pointer (some ⟨g, 0, none⟩)) W' := by
  have hn : g ∉ S := fun h => by have := l _ h; omega
  have h1 := (Array.getElem?_eq_some_iff.1 hb).1
  have hz := hc.size
  refine ⟨g, cs, S, rfl, box_at hb, o.chg hc (fun i hi hm => by simp at hm; subst hm; exact hn hi), hn, fun i hi => ?_, below_chg hW hc hW.size (fun i hi => by simp at hi; omega)⟩
  rcases List.mem_cons.1 hi with rfl | hi
  · exact ⟨hg, h1⟩
  · have := l i hi
    omega
theorem newLocV_early2 {T : TypeId} {φ : Value → World → Prop} {W0 W W1 : World} {g : Nat} {z0 z1 c0 c1 : Value} {S : List Nat} (hb : BoxAt g #[z0, z1] T W) (o : At S (φ (.agg #[c0, c1])) W) (l : Within S W1.heap.size W.heap.size) (hg : W0.heap.size ≤ g) (hgB : g < W1.heap.size) (hW : Below W0.heap.size W0 W) :
    NewLocV T φ W0 (.pointer (some ⟨g, 0, none⟩)) ((W.setCell ⟨g, 0, none⟩ c0).setCell ⟨g, 1, none⟩ c1) :=
  have hb' : W.heap[g]? = some (.cells #[z0, z1] T (0, 0)) := hb
  newLocV_of (by simp [BoxAt, World.setCell, Array.getElem?_modify, hb']) o l hg hgB (((Chg.refl _ _).setCell (by simp) _).setCell (by simp) _) hW
theorem newLocV_early3 {T : TypeId} {φ : Value → World → Prop} {W0 W W1 : World} {g : Nat} {z0 z1 z2 c0 c1 c2 : Value} {S : List Nat} (hb : BoxAt g #[z0, z1, z2] T W) (o : At S (φ (.agg #[c0, c1, c2])) W) (l : Within S W1.heap.size W.heap.size) (hg : W0.heap.size ≤ g) (hgB : g < W1.heap.size) (hW : Below W0.heap.size W0 W) :
    NewLocV T φ W0 (.pointer (some ⟨g, 0, none⟩)) (((W.setCell ⟨g, 0, none⟩ c0).setCell ⟨g, 1, none⟩ c1).setCell ⟨g, 2, none⟩ c2) :=
  have hb' : W.heap[g]? = some (.cells #[z0, z1, z2] T (0, 0)) := hb
  newLocV_of (by simp [BoxAt, World.setCell, Array.getElem?_modify, hb']) o l hg hgB ((((Chg.refl _ _).setCell (by simp) _).setCell (by simp) _).setCell (by simp) _) hW
theorem At.below_lt {g : Nat} {φ : World → Prop} {w w' : World} (h : At [g] φ w) (hb : Below w.heap.size w w') : At [g] φ w' ∧ g < w.heap.size := ⟨h.below hb, h.lt g (by simp)⟩
theorem below_set3 {W0 W : World} {g : Nat} {a b c : Value} (h : Below W0.heap.size W0 W) (hg : W0.heap.size ≤ g) : Below W0.heap.size W0 (((W.setCell ⟨g, 0, none⟩ a).setCell ⟨g, 1, none⟩ b).setCell ⟨g, 2, none⟩ c) := ((h.setCell (p := ⟨g, 0, none⟩) hg _).setCell (p := ⟨g, 1, none⟩) hg _).setCell (p := ⟨g, 2, none⟩) hg _
theorem At.more {S U : List Nat} {φ : World → Prop} {w : World} (h : At S φ w) (hs : ∀ g ∈ S, g ∈ U) (hl : ∀ g ∈ U, g < w.heap.size) : At U φ w := ⟨h.here, hl, fun w' hk => h.stays w' fun g hg => hk g (hs g hg)⟩
/-- a fact that says what limbs a slice holds leans on their block -/
theorem at_ints_mem {S : List Nat} {φ : World → Prop} {w : World} {u : Value} {xs : List Int} (h : At S φ w) (hi : ∀ w', φ w' → OwnI u xs w') : ∀ g, u.ownBlock = some g → g ∈ S := by
  intro g hg
  rcases Classical.em (g ∈ S) with hin | hout
  · exact hin
  · exfalso
    have hst := hi _ (h.stays { w with heap := w.heap.set! g (.cells #[] 4 (0, 0)) } (fun i hi => by
      have : i ≠ g := fun e => hout (e ▸ hi)
      simp [Ne.symm this]))
    have hlt := (own_lt (hi _ h.here) hg).2
    obtain ⟨_, ⟨rfl, _⟩ | ⟨g', cap, cur, rfl, _, hh, _⟩⟩ := hst
    · cases hg
    · cases hg
      have hlt' : g' < w.heap.size := hlt
      have hh' : (w.heap.setIfInBounds g' (.cells #[] 4 (0, 0)))[g']? = some (.cells cur 3 (0, 0)) := hh
      rw [Array.getElem?_setIfInBounds_self_of_lt hlt'] at hh'
      simp at hh'
theorem toList_own {u : Value} {S : List Nat} (h : ∀ g, u.ownBlock = some g → g ∈ S) : ∀ g ∈ u.ownBlock.toList, g ∈ S := fun g hg => h g (by simpa using hg)

/-! ### kind S: impl.Signed -/
theorem ownS_form {v : Value} {x : SI} {w : World} (h : OwnS v x w) : ∃ A c, v = .agg #[.bool x.1, .slice A x.2.length c] := by
  obtain ⟨u, rfl, o⟩ := h
  obtain ⟨A, c, rfl⟩ := own_len o
  exact ⟨A, c, rfl⟩
theorem RdS.below {w W : World} {v : Value} {x : SI} (h : RdS w v x) (hb : Below w.heap.size w W) : RdS W v x := by
  obtain ⟨u, rfl, o⟩ := h
  exact ⟨u, rfl, (o.below hb (Nat.le_refl _)).wide (Nat.le_refl _) hb.size⟩
theorem NewS.newV {x : SI} {w w' : World} {e : Ending} (h : NewS x w e w') : NewV (fun v => OwnS v x) w e w' := by
  obtain ⟨u, rfl, o, b⟩ := h
  exact ⟨_, u.ownBlock.toList, rfl, (own_at' o).imp fun _ h => OwnS.mk h, own_within o, b⟩
end Go.Proofs.YtofehcpapdlcnaaGreatDoor

namespace Go.Proofs.YtofehcpapdlcnaaGreatDoor
open Go.RowKit

/-! ### look-ups by code -/
def zeroC : CR := (⟨#[]⟩, ⟨#[]⟩, 0, 0)
def rowOf (l : List CR) (s : ByteArray) : CR := match l.find? (fun r => decide (r.1 = s)) with
  | some r => r
  | none => zeroC
theorem rowOf_mem {l : List CR} (hn : (l.map fun r => r.1).Nodup) {r : CR} (h : r ∈ l) : rowOf l r.1 = r := by
  unfold rowOf
  rw [find_of_mem (f := fun r : CR => r.1) hn h]
theorem rowOf_none {l : List CR} {n : ByteArray} (h : ∀ r ∈ l, ¬ r.1 = n) : rowOf l n = zeroC := by
  unfold rowOf
  rw [List.find?_eq_none.2 fun r hr => by simpa using h r hr]
theorem rowOf_eq (n : ByteArray) : rowOf implT n = rowOf specT n := by
  unfold rowOf
  rw [find_perm (f := fun r : CR => r.1) implT_codes specT_codes implT_sub specT_sub n]
def knownC (s : ByteArray) : Bool := (codesT specT).any fun c => decide (c = s)
theorem specT_ne : ∀ r ∈ specT, ¬ r.1 = ⟨#[]⟩ := by
  have h : (specT.all fun r => decide (¬ r.1 = ⟨#[]⟩)) = true := by decide +kernel
  exact fun r hr => of_decide_eq_true (List.all_eq_true.1 h r hr)
theorem known_row {s : ByteArray} (h : knownC s = true) : ∃ r ∈ specT, r.1 = s ∧ rowOf specT s = r := by
  have h1 : s ∈ codesT specT := by
    obtain ⟨c, hc, e⟩ := List.any_eq_true.1 h
    rw [← of_decide_eq_true e]
    exact hc
  obtain ⟨r, hr, rfl⟩ := List.mem_map.1 h1
  exact ⟨r, hr, rfl, rowOf_mem specT_codes hr⟩
theorem not_known {s : ByteArray} (h : knownC s = false) : rowOf specT s = zeroC := by
  refine rowOf_none fun r hr e => ?_
  have h1 : knownC s = true := List.any_eq_true.2 ⟨r.1, List.mem_map_of_mem hr, decide_eq_true e⟩
  rw [h] at h1
  cases h1
/-- a row is found where its code is not empty -/
theorem known_ne (s : ByteArray) : decide (¬ (rowOf specT s).1 = ⟨#[]⟩) = knownC s := by
  cases h : knownC s with
  | true =>
    obtain ⟨r, hr, _, e⟩ := known_row h
    rw [e]
    exact decide_eq_true (specT_ne r hr)
  | false => rw [not_known h]; rfl
/-! ### amounts -/
abbrev MI : Type := ByteArray × SI
def zeroM : MI := (⟨#[]⟩, zeroS)
def szM (m : MI) : Int := m.1.size + szS m.2
/-- how many cells a mark of it takes -/
def mkM (m : MI) : Int := szS m.2
def okM (m : MI) : Bool := knownC m.1 && okS m.2 && decide (m.2.2.length ≤ 4)
def makeM (c : ByteArray) (x : SI) : MI × Bool := if okM (c, x) = true then ((c, x), true) else (zeroM, false)
end Go.Proofs.YtofehcpapdlcnaaGreatDoor

namespace Go.Proofs.YtofehcpapdlcnaaGreatDoor
open Go.RowKit

/-- a value that stands for it, its limbs of the call's own -/
def OwnM (v : Value) (q : MI) (w : World) : Prop := ∃ u, v = .agg #[.string q.1, .bool q.2.1, u] ∧ OwnI u q.2.2 w
def MarkM (v : Value) (q : MI) (m : Int) (w : World) : Prop := ∃ u, v = .agg #[.string q.1, .bool q.2.1, u] ∧ MarkI u q.2.2 m w
/-- a value that reads as it -/
def RdM (w : World) (v : Value) (q : MI) : Prop := ∃ u, v = .agg #[.string q.1, .bool q.2.1, u] ∧ Row w 0 w.heap.size u (intsV q.2.2)
theorem OwnM.rd {v : Value} {q : MI} {w : World} (h : OwnM v q w) : RdM w v q := by
  obtain ⟨u, rfl, o⟩ := h
  exact ⟨u, rfl, o.row⟩
theorem OwnM.mk {u : Value} {q : MI} {w : World} (h : OwnI u q.2.2 w) : OwnM (.agg #[.string q.1, .bool q.2.1, u]) q w := ⟨u, rfl, h⟩
theorem OwnM.below {w W : World} {v : Value} {q : MI} (h : OwnM v q w) (hb : Below w.heap.size w W) : OwnM v q W := by
  obtain ⟨u, rfl, o⟩ := h
  exact ⟨u, rfl, own_below o hb⟩
theorem RdM.below {w W : World} {v : Value} {q : MI} (h : RdM w v q) (hb : Below w.heap.size w W) : RdM W v q := by
  obtain ⟨u, rfl, o⟩ := h
  exact ⟨u, rfl, (o.below hb (Nat.le_refl _)).wide (Nat.le_refl _) hb.size⟩
def capM (q : MI) : Prop := q.1.size ≤ 9223372036854775807 ∧ q.2.2.length ≤ 9223372036854775807
theorem szM_nonneg (q : MI) : 0 ≤ szM q := by unfold szM szS szI; omega
theorem szM_len {q : MI} (h : szM q ≤ 1048576) : q.1.size ≤ 1048576 ∧ q.2.2.length ≤ 1048576 := by unfold szM szS szI at h; omega
theorem capM_of {q : MI} (h : szM q ≤ 1048576) : capM q := by have := szM_len h; unfold capM; omega
theorem mkM_range (q : MI) : 0 ≤ mkM q ∧ mkM q ≤ szM q := by unfold mkM szM szS szI; omega
theorem ownM_form {v : Value} {q : MI} {w : World} (h : OwnM v q w) : ∃ A c, v = .agg #[.string q.1, .bool q.2.1, .slice A q.2.2.length c] := by
  obtain ⟨u, rfl, o⟩ := h
  obtain ⟨A, c, rfl⟩ := own_len o
  exact ⟨A, c, rfl⟩
theorem rdM_form {v : Value} {q : MI} {w : World} (h : RdM w v q) : ∃ A c, v = .agg #[.string q.1, .bool q.2.1, .slice A q.2.2.length c] := by
  obtain ⟨u, rfl, o⟩ := h
  obtain ⟨A, c, rfl⟩ := row_form o
  rw [intsV_length]
  exact ⟨A, c, rfl⟩
theorem ownM_open {u c s : Value} {q : MI} {w : World} (h : OwnM (.agg #[c, s, u]) q w) : OwnI u q.2.2 w := by
  obtain ⟨u', e, hu⟩ := h
  injection e with e
  simp at e
  obtain ⟨_, _, e2⟩ := e
  subst e2
  exact hu
theorem ownS_openM {u c : Value} {x : SI} {w : World} (h : OwnS (.agg #[c, u]) x w) : OwnI u x.2 w := by
  obtain ⟨u', e, hu⟩ := h
  injection e with e
  simp at e
  obtain ⟨_, e2⟩ := e
  subst e2
  exact hu
/-- a value whose blocks stay while others are written -/
theorem newV_chgM {φ : Value → World → Prop} {S T : List Nat} {v : Value} {w W : World} (o : At S (φ v) W) (hd : ∀ i ∈ S, i ∉ T) (hT : ∀ i ∈ T, w.heap.size ≤ i) (l : ∀ i ∈ S, w.heap.size ≤ i) (hW : Below w.heap.size w W) :
    ∀ W', Chg T W W' → NewV φ w (.returned v) W' :=
  fun _ hc => ⟨v, S, rfl, o.chg hc hd, fun i hi => ⟨l i hi, Nat.lt_of_lt_of_le (o.lt i hi) hc.size⟩, below_chg hW hc hW.size hT⟩
theorem chg_set3M {r : Nat} {c0 c1 c2 : Value} {W : World} : Chg [r] W (((W.setCell ⟨r, 0, none⟩ c0).setCell ⟨r, 1, none⟩ c1).setCell ⟨r, 2, none⟩ c2) := (((Chg.refl _ _).setCell (by simp) _).setCell (by simp) _).setCell (by simp) _
theorem ownM_zero (w : World) : OwnM (.agg #[.string ⟨#[]⟩, .bool false, .slice none 0 0]) zeroM w := ⟨_, rfl, World.ownsRow_nil _ _ _ _⟩
theorem atM_zero (w : World) : At [] (OwnM (.agg #[.string ⟨#[]⟩, .bool false, .slice none 0 0]) zeroM) w := ⟨ownM_zero _, fun _ hg => absurd hg List.not_mem_nil, fun w' _ => ownM_zero w'⟩
set_option maxHeartbeats 400000 in
set_option maxRecDepth 100000 in
theorem eqM_cal (u v : Value) (x y : MI) (w : World) (hz : capM x) (hu : RdM w u x) (hv : RdM w v y) : Calls Tryz.prog 13 #[u, v] w (Postb (decide (x = y)) w) := by
  obtain ⟨p, rfl, hp⟩ := hu
  obtain ⟨q, rfl, hq⟩ := hv
  obtain ⟨Ap, cp, rfl⟩ := row_form hp
  obtain ⟨Aq, cq, rfl⟩ := row_form hq
  simp only [intsV_length] at hp hq ⊢
  have hb : Below w.heap.size w ((w.alloc (.cells #[.string x.1, .bool x.2.1, .slice Ap x.2.2.length cp] 33)).alloc (.cells #[.string y.1, .bool y.2.1, .slice Aq y.2.2.length cq] 33)) := below_al (below_al (Below.refl _ _) _) _
  have kx := (box_new w #[.string x.1, .bool x.2.1, .slice Ap x.2.2.length cp] 33).below (below_al (Below.refl _ _) (.cells #[.string y.1, .bool y.2.1, .slice Aq y.2.2.length cq] 33))
  have ky := box_new (w.alloc (.cells #[.string x.1, .bool x.2.1, .slice Ap x.2.2.length cp] 33)) #[.string y.1, .bool y.2.1, .slice Aq y.2.2.length cq] 33
  rw [show (w.alloc (.cells #[.string x.1, .bool x.2.1, .slice Ap x.2.2.length cp] 33)).heap.size = w.heap.size + 1 by simp] at ky
  have cx0 := kx.here.cell 0 _ rfl
  have cx1 := kx.here.cell 1 _ rfl
  have cx2 := kx.here.cell 2 _ rfl
  have cy0 := ky.here.cell 0 _ rfl
  have cy1 := ky.here.cell 1 _ rfl
  have cy2 := ky.here.cell 2 _ rfl
  clear kx ky
  by_cases h1 : x.1 = y.1
  · have H1 := Lib.hid h1
    have HE := Lib.hid (eqSigned_at (.agg #[.bool x.2.1, .slice Ap x.2.2.length cp]) (.agg #[.bool y.2.1, .slice Aq y.2.2.length cq]) x.2 y.2 _ hz.2 (rdS_below hp hb) (rdS_below hq hb))
    have HB := Lib.hid hb
    rw [← h1] at cy0 HE HB
    clear h1 hp hq hb hz
    go_enter Tryz.func13, Tryz.ntmps13
    rw [← H1.out]
    go_wp2_with fail
    refine HE.out.mono ?_
    rintro e w1 ⟨rfl, b1⟩
    have bb1 := Lib.hid (Below.next HB.out b1)
    clear cx0 cx1 cx2 cy0 cy1 cy2 b1
    have HV := Lib.hid (show decide (x = y) = decide (x.2 = y.2) from decide_eq_decide.2 ⟨fun e => by rw [e], fun e => Prod.ext H1.out e⟩)
    by_cases h2 : x.2 = y.2
    · rw [decide_eq_true h2] at HV ⊢
      clear h2
      go_wp2
      go_ret
      exact ⟨ret_bool HV.out.symm, bb1.out⟩
    · rw [decide_eq_false h2] at HV ⊢
      clear h2
      go_wp2
      go_ret
      exact ⟨ret_bool HV.out.symm, bb1.out⟩
  · have hne := bytes_neC h1
    have hne2 : (x.1.toList != y.1.toList) = true := by rw [bne, hne]; rfl
    have HV := Lib.hid (show decide (x = y) = false from decide_eq_false (fun e => h1 (by rw [e])))
    clear h1
    go_enter Tryz.func13, Tryz.ntmps13
    go_wp2
    go_ret
    exact ⟨ret_bool HV.out.symm, hb⟩
set_option maxHeartbeats 400000 in
set_option maxRecDepth 100000 in
theorem szM_cal (v : Value) (x : MI) (left : Int) (w : World) (hl : capM x) (h0 : 0 ≤ left) (h1 : left ≤ 1048576) (h : RdM w v x) : Calls Tryz.prog 7 #[v, .int .i64 left] w (Postn (leftI left (szM x)) w) := by
  obtain ⟨p, rfl, hp⟩ := h
  obtain ⟨Ap, cp, rfl⟩ := row_form hp
  simp only [intsV_length] at hp ⊢
  have hb := below_al (Below.refl w.heap.size w) (.cells #[.string x.1, .bool x.2.1, .slice Ap x.2.2.length cp] 26)
  have kx := box_new w #[.string x.1, .bool x.2.1, .slice Ap x.2.2.length cp] 26
  have kx_c0 := kx.here.cell 0 _ rfl
  have kx_c1 := kx.here.cell 1 _ rfl
  have kx_c2 := kx.here.cell 2 _ rfl
  obtain ⟨hl1, hl2⟩ := hl
  by_cases hs : left - x.1.size < 0
  · have HV := Lib.hid (show leftI left (szM x) = -1 by unfold leftI szM szS szI; rw [if_pos (by omega)])
    have hw : IntKind.i64.wrap (left - (x.1.size : Int)) = left - x.1.size := IntWalk.i64_in _ (by omega)
    have hneg : decide (left - (x.1.size : Int) < 0) = true := decide_eq_true hs
    clear hs kx
    go_enter Tryz.func7, Tryz.ntmps7
    go_wp2
    go_ret
    exact ⟨ret_int HV.out.symm, hb⟩
  · obtain ⟨z0, hz0⟩ : ∃ z0 : Int, left - x.1.size = z0 := ⟨_, rfl⟩
    have hw : IntKind.i64.wrap (left - (x.1.size : Int)) = z0 := by rw [IntWalk.i64_in _ (by omega)]; exact hz0
    have hneg0 : decide (z0 < 0) = false := decide_eq_false (by omega)
    have HZ := Lib.hid (show 0 ≤ z0 ∧ z0 ≤ 1048576 by omega)
    have HLL := Lib.hid (show leftI left (szM x) = leftI z0 (szS x.2) by unfold leftI szM; rw [show left - ((x.1.size : Int) + szS x.2) = z0 - szS x.2 by omega])
    clear hs hz0
    go_enter Tryz.func7, Tryz.ntmps7
    go_wp2_with fail
    clear kx_c0 kx_c1 kx_c2 kx
    refine (szSigned_at _ x.2 z0 _ hl2 HZ.out.1 HZ.out.2 (rdS_below hp hb)).mono ?_
    rintro e w1 ⟨rfl, b1⟩
    have bb1 := Lib.hid (Below.next hb b1)
    have hq : leftI z0 (szS x.2) < 0 ∧ leftI z0 (szS x.2) = -1 ∨ ¬ leftI z0 (szS x.2) < 0 := by unfold leftI; split <;> omega
    generalize leftI z0 (szS x.2) = z at *
    clear hp hb b1 HZ
    rcases hq with ⟨h2, h3⟩ | h2
    · have hneg : decide (z < 0) = true := decide_eq_true h2
      have H3 := Lib.hid h3
      clear h2 h3
      go_wp2
      go_ret
      exact ⟨ret_int (H3.out.symm.trans HLL.out.symm), bb1.out⟩
    · have hneg : decide (z < 0) = false := decide_eq_false h2
      clear h2
      go_wp2
      go_ret
      exact ⟨ret_int HLL.out.symm, bb1.out⟩
set_option maxHeartbeats 1000000 in
set_option maxRecDepth 100000 in
theorem toM_new (v : Value) (x : MI) (w : World) (hz : szM x ≤ 1048576) (h : RdM w v x) : Calls Tryz.prog 10 #[v] w (NewV (fun u => OwnM u x) w) := by
  have hl := (szM_len hz).2
  obtain ⟨p, rfl, hp⟩ := h
  obtain ⟨Ap, cp, rfl⟩ := row_form hp
  simp only [intsV_length] at hp ⊢
  have h3 := alloc3 w (.cells #[.string x.1, .bool x.2.1, .slice Ap x.2.2.length cp] 26) (.cells #[.string ⟨#[]⟩, .bool false, .slice none 0 0] 33) (.cells #[.string x.1, .bool false, .slice none 0 0] 33)
  have hb3 := below3 w (.cells #[.string x.1, .bool x.2.1, .slice Ap x.2.2.length cp] 26) (.cells #[.string ⟨#[]⟩, .bool false, .slice none 0 0] 33) (.cells #[.string x.1, .bool false, .slice none 0 0] 33)
  obtain ⟨W0, hW0⟩ : ∃ W0, W0 = (((w.alloc (.cells #[.string x.1, .bool x.2.1, .slice Ap x.2.2.length cp] 26)).alloc (.cells #[.string ⟨#[]⟩, .bool false, .slice none 0 0] 33)).alloc (.cells #[.string x.1, .bool false, .slice none 0 0] 33)) := ⟨_, rfl⟩
  rw [← hW0] at h3 hb3
  have kb : At [w.heap.size] (BoxAt w.heap.size #[.string x.1, .bool x.2.1, .slice Ap x.2.2.length cp] 26) W0 := box_at h3.1
  have kr : At [w.heap.size + 1] (BoxAt (w.heap.size + 1) #[.string ⟨#[]⟩, .bool false, .slice none 0 0] 33) W0 := box_at h3.2.1
  have ko : At [w.heap.size + 1 + 1] (BoxAt (w.heap.size + 1 + 1) #[.string x.1, .bool false, .slice none 0 0] 33) W0 := box_at h3.2.2.1
  have hz0 : W0.heap.size = w.heap.size + 3 := h3.2.2.2
  have HW := Lib.hid hW0
  clear h3 hW0
  have cb0 := kb.here.cell 0 _ rfl
  have cb1 := kb.here.cell 1 _ rfl
  have cb2 := kb.here.cell 2 _ rfl
  go_enter Tryz.func10, Tryz.ntmps10
  go_wp2_with fail
  rw [← HW.out]
  refine (toSigned_at _ x.2 _ hl (rdS_below hp hb3)).mono ?_
  rintro e w1 ⟨u, rfl, o1, b1⟩
  obtain ⟨Au, cu, rfl⟩ := own_len o1
  have bb1 := Below.next hb3 b1
  replace kb := kb.below b1
  replace kr := kr.below b1
  replace ko := ko.below b1
  have HR := Lib.hid (newV_chgM (φ := fun u => OwnM u x) (v := .agg #[.string x.1, .bool x.2.1, .slice Au x.2.2.length cu]) (T := [w.heap.size + 1, w.heap.size + 1 + 1]) ((own_at' o1).imp fun _ h => (OwnM.mk h : OwnM _ x _)) (fun i hi hm => by have := own_within o1 i hi; simp at hm; omega) (fun i hi => by simp at hi; omega) (fun i hi => by have := own_within o1 i hi; omega) bb1)
  have co0 := ko.here.cell 0 _ rfl
  have co1 := ko.here.cell 1 _ rfl
  have co2 := ko.here.cell 2 _ rfl
  have fo0 := Lib.frozen_of_heap ko.here 0
  have fo1 := Lib.frozen_of_heap ko.here 1
  have fo2 := Lib.frozen_of_heap ko.here 2
  have cr0 := kr.here.cell 0 _ rfl
  have cr1 := kr.here.cell 1 _ rfl
  have cr2 := kr.here.cell 2 _ rfl
  have fr0 := Lib.frozen_of_heap kr.here 0
  have fr1 := Lib.frozen_of_heap kr.here 1
  have fr2 := Lib.frozen_of_heap kr.here 2
  clear kb kr ko o1 b1 bb1 hp cb0 cb1 cb2
  go_wp2
  refine bodyPost_ret (v := .agg #[.string x.1, .bool x.2.1, .slice Au x.2.2.length cu]) (by simp [results, Tryz.results10, go_sem, cr0, cr1, cr2]) rfl ?_
  refine HR.out _ ?_
  repeat (first | exact Chg.refl _ _ | refine Chg.setCell ?_ (by simp) _)
set_option maxHeartbeats 400000 in
set_option maxRecDepth 100000 in
theorem markM_cal (v : Value) (x : MI) (S : List Nat) (m : Int) (w : World) (hm : m + mkM x ≤ 9223372036854775807) (hm0 : 0 ≤ m) (h : At S (OwnM v x) w) :
    Calls Tryz.prog 16 #[v, .int .i64 m] w fun e w' => e = .returned (.int .i64 (m + mkM x)) ∧ At S (MarkM v x m) w' ∧ Chg S w w' := by
  obtain ⟨A, c, rfl⟩ := ownM_form h.here
  have hbx := below_al (Below.refl w.heap.size w) (.cells #[.string x.1, .bool x.2.1, .slice A x.2.2.length c] 33)
  have kx := box_new w #[.string x.1, .bool x.2.1, .slice A x.2.2.length c] 33
  have ax := (h.below hbx).imp (fun _ h => (OwnS.mk (ownM_open h) : OwnS (.agg #[.bool x.2.1, .slice A x.2.2.length c]) x.2 _))
  have kx_c0 := kx.here.cell 0 _ rfl
  have kx_c1 := kx.here.cell 1 _ rfl
  have kx_c2 := kx.here.cell 2 _ rfl
  have HZ := Lib.hid (show mkM x = szS x.2 from rfl)
  have HBX := Lib.hid hbx
  clear h kx
  go_enter Tryz.func16, Tryz.ntmps16
  go_wp2_with fail
  clear kx_c0 kx_c1 kx_c2
  refine (markSigned_at _ x.2 S m _ hm hm0 ax).mono ?_
  rintro e w1 ⟨rfl, mu, c1⟩
  have hall := Lib.hid (mu.imp (fun _ h => (show MarkM (.agg #[.string x.1, .bool x.2.1, .slice A x.2.2.length c]) x m _ from by
    obtain ⟨u', e1, hu'⟩ := h
    injection e1 with e1
    have e2 : u' = .slice A x.2.2.length c := by simpa using e1.symm
    rw [e2] at hu'
    exact ⟨_, rfl, hu'⟩)))
  have hchg := Lib.hid ((Chg.of_below HBX.out).trans c1 : Chg S w w1)
  clear mu c1
  go_wp2
  go_ret
  exact ⟨ret_int (by rw [HZ.out]), hall.out, hchg.out⟩
set_option maxHeartbeats 400000 in
set_option maxRecDepth 100000 in
theorem heldM_cal (v : Value) (x : MI) (m : Int) (w : World) (hm : m + mkM x ≤ 9223372036854775807) (hm0 : 0 ≤ m) (h : MarkM v x m w) : Calls Tryz.prog 19 #[v, .int .i64 m] w (Postn (m + mkM x) w) := by
  obtain ⟨u, rfl, ou⟩ := h
  obtain ⟨A, c, rfl⟩ := own_len ou
  have hs0 : 0 ≤ szS x.2 := by unfold szS szI; omega
  have HZ := Lib.hid (show mkM x = szS x.2 from rfl)
  rw [HZ.out] at hm
  have hbx := below_al (Below.refl w.heap.size w) (.cells #[.string x.1, .bool x.2.1, .slice A x.2.2.length c] 33)
  have kx := box_new w #[.string x.1, .bool x.2.1, .slice A x.2.2.length c] 33
  have ou1 : MarkS (.agg #[.bool x.2.1, .slice A x.2.2.length c]) x.2 m _ := ⟨_, rfl, own_below ou hbx⟩
  have kx_c0 := kx.here.cell 0 _ rfl
  have kx_c1 := kx.here.cell 1 _ rfl
  have kx_c2 := kx.here.cell 2 _ rfl
  clear ou kx
  go_enter Tryz.func19, Tryz.ntmps19
  go_wp2_with fail
  clear kx_c0 kx_c1 kx_c2
  refine (heldSigned_at _ x.2 m _ (by omega) hm0 ou1).mono ?_
  rintro e w1 ⟨rfl, b1⟩
  have bb1 := Below.next hbx b1
  have hn1 : decide (m + szS x.2 < 0) = false := decide_eq_false (by omega)
  clear ou1
  go_wp2
  go_ret
  exact ⟨ret_int (by rw [HZ.out]), bb1⟩
end Go.Proofs.YtofehcpapdlcnaaGreatDoor

namespace Go.Proofs.YtofehcpapdlcnaaGreatDoor
open Go.RowKit

/-- a fraction as data -/
abbrev QI : Type := SI × List Int
def zeroQ : QI := (zeroS, [])
/-- what RatOk answers -/
def okQ (q : QI) : Bool := okS q.1 && natOkB q.2 && decide (0 < q.2.length ∧ q.2.length ≤ 18 ∧ q.1.2.length ≤ 18 ∧ Nat.gcd (nval q.1.2).toNat (nval q.2).toNat = 1)
/-- a fraction in lowest terms, with its sign; false where it has too many limbs, or is by 0 -/
def lowQ (n : Bool) (a b : Nat) : QI × Bool :=
  if b ≠ 0 ∧ (limbs (a / Nat.gcd a b)).length ≤ 18 ∧ (limbs (b / Nat.gcd a b)).length ≤ 18 then ((mkS n (limbs (a / Nat.gcd a b)), limbs (b / Nat.gcd a b)), true) else (zeroQ, false)
def numQ (q : QI) : Int := valS q.1
def denQ (q : QI) : Nat := (nval q.2).toNat
theorem okQ_parts {q : QI} (h : okQ q = true) : okS q.1 = true ∧ natOkB q.2 = true ∧ 0 < q.2.length ∧ q.2.length ≤ 18 ∧ q.1.2.length ≤ 18 ∧ Nat.gcd (nval q.1.2).toNat (nval q.2).toNat = 1 := by
  unfold okQ at h
  rw [Bool.and_eq_true, Bool.and_eq_true, decide_eq_true_eq] at h
  exact ⟨h.1.1, h.1.2, h.2.1, h.2.2.1, h.2.2.2.1, h.2.2.2.2⟩
/-- what the functions answer -/
def makeQ (x y : SI) : QI × Bool := if okS x = true ∧ okS y = true then lowQ (x.1 != y.1) (nval x.2).toNat (nval y.2).toNat else (zeroQ, false)
def addQ (r s : QI) : QI × Bool := if okQ r = true ∧ okQ s = true then lowQ (decide (numQ r * denQ s + numQ s * denQ r < 0)) (numQ r * denQ s + numQ s * denQ r).natAbs (denQ r * denQ s) else (zeroQ, false)
def negQ (r : QI) : QI × Bool := if okQ r = true then ((negS r.1, r.2), true) else (zeroQ, false)
def mulQ (r s : QI) : QI × Bool := if okQ r = true ∧ okQ s = true then lowQ (r.1.1 != s.1.1) ((nval r.1.2).toNat * (nval s.1.2).toNat) (denQ r * denQ s) else (zeroQ, false)
def subQ (r s : QI) : QI × Bool := if (negQ s).2 = true then addQ r (negQ s).1 else (zeroQ, false)
theorem denQ_pos {q : QI} (h : okQ q = true) : 0 < denQ q := by
  have hp := okQ_parts h
  have h1 := ok_ge hp.2.1 hp.2.2.1
  have h2 := bp_pos (q.2.length - 1)
  unfold denQ
  omega
theorem limbs_18 {n : Bool} {m : Nat} (h : (limbs m).length ≤ 18) : mkS n (limbs m) = (n && decide (0 < (limbs m).length), limbs m) := by
  unfold mkS capL
  rw [if_neg (by omega)]
/-- what comes out in lowest terms is right -/
theorem lowQ_ok (n : Bool) (a b : Nat) (h : (lowQ n a b).2 = true) : okQ (lowQ n a b).1 = true := by
  unfold lowQ at h ⊢
  split
  · rename_i hc
    obtain ⟨hb, h1, h2⟩ := hc
    have hg : 0 < Nat.gcd a b := Nat.gcd_pos_of_pos_right _ (by omega)
    have hbq : b / Nat.gcd a b ≠ 0 := by
      have := Nat.div_pos (Nat.le_of_dvd (by omega) (Nat.gcd_dvd_right a b)) hg
      omega
    have hlb : 0 < (limbs (b / Nat.gcd a b)).length := by
      rcases Nat.eq_zero_or_pos (limbs (b / Nat.gcd a b)).length with h0 | h0
      · exact absurd ((limbs_zero_iff _).1 h0) hbq
      · exact h0
    have hs : okS (mkS n (limbs (a / Nat.gcd a b))) = true := by rw [mkS_limbs]; exact ofZ_ok _
    have e2 : (mkS n (limbs (a / Nat.gcd a b))).2 = limbs (a / Nat.gcd a b) := by rw [limbs_18 h1]
    unfold okQ
    simp only
    rw [hs, limbs_okL _ (by omega), e2, limbs_val, limbs_val, Int.toNat_natCast, Int.toNat_natCast]
    simp only [Bool.true_and, decide_eq_true_eq]
    exact ⟨hlb, h2, h1, Nat.gcd_div_gcd_div_gcd_of_pos_right (by omega)⟩
  · rename_i hc
    rw [if_neg hc] at h
    cases h
end Go.Proofs.YtofehcpapdlcnaaGreatDoor

namespace Go.Proofs.YtofehcpapdlcnaaGreatDoor
open Go.RowKit

/-- a value that stands for it, its limbs of the call's own, those of the two parts apart -/
def OwnQ (v : Value) (q : QI) (w : World) : Prop := ∃ u d, v = .agg #[.bool q.1.1, u, d] ∧ OwnI u q.1.2 w ∧ OwnI d q.2 w ∧ (∀ g, u.ownBlock = some g → d.ownBlock ≠ some g)
def MarkQ (v : Value) (q : QI) (m : Int) (w : World) : Prop := ∃ u d, v = .agg #[.bool q.1.1, u, d] ∧ MarkI u q.1.2 m w ∧ MarkI d q.2 (m + szS q.1) w
/-- a value that reads as it -/
def RdQ (w : World) (v : Value) (q : QI) : Prop := ∃ u d, v = .agg #[.bool q.1.1, u, d] ∧ Row w 0 w.heap.size u (intsV q.1.2) ∧ Row w 0 w.heap.size d (intsV q.2)
def szQ (q : QI) : Int := szS q.1 + szI q.2
theorem OwnQ.rd {v : Value} {q : QI} {w : World} (h : OwnQ v q w) : RdQ w v q := by
  obtain ⟨u, d, rfl, o, p, _⟩ := h
  exact ⟨u, d, rfl, o.row, p.row⟩
theorem RdQ.below {w W : World} {v : Value} {q : QI} (h : RdQ w v q) (hb : Below w.heap.size w W) : RdQ W v q := by
  obtain ⟨u, d, rfl, o, p⟩ := h
  exact ⟨u, d, rfl, (o.below hb (Nat.le_refl _)).wide (Nat.le_refl _) hb.size, (p.below hb (Nat.le_refl _)).wide (Nat.le_refl _) hb.size⟩
/-- a new fraction -/
def NewQ (q : QI) (w : World) (e : Ending) (w' : World) : Prop :=
  ∃ u d, e = .returned (.agg #[.bool q.1.1, u, d]) ∧ w'.ownsRow w.heap.size 3 1 u q.1.2.length (intsV q.1.2) ∧ w'.ownsRow w.heap.size 3 1 d q.2.length (intsV q.2) ∧ (∀ g, u.ownBlock = some g → d.ownBlock ≠ some g) ∧ Below w.heap.size w w'

set_option maxHeartbeats 400000 in
set_option maxRecDepth 100000 in
theorem eqRat_at (u v : Value) (x y : QI) (w : World) (hl : x.1.2.length ≤ 9223372036854775807) (hl2 : x.2.length ≤ 9223372036854775807) (hu : RdQ w u x) (hv : RdQ w v y) :
    Calls Tryz.prog 14 #[u, v] w fun e w' => e = .returned (.bool (decide (x = y))) ∧ Below w.heap.size w w' := by
  obtain ⟨p, d, rfl, hp, hd⟩ := hu
  obtain ⟨q, f, rfl, hq, hf⟩ := hv
  obtain ⟨Ap, cp, rfl⟩ := row_form hp
  obtain ⟨Ad, cd, rfl⟩ := row_form hd
  obtain ⟨Aq, cq, rfl⟩ := row_form hq
  obtain ⟨Af, cf, rfl⟩ := row_form hf
  simp only [intsV_length] at hp hd hq hf ⊢
  have hb : Below w.heap.size w ((w.alloc (.cells #[.bool x.1.1, .slice Ap x.1.2.length cp, .slice Ad x.2.length cd] 35)).alloc (.cells #[.bool y.1.1, .slice Aq y.1.2.length cq, .slice Af y.2.length cf] 35)) := below_al (below_al (Below.refl _ _) _) _
  have kx := (box_new w #[.bool x.1.1, .slice Ap x.1.2.length cp, .slice Ad x.2.length cd] 35).below (below_al (Below.refl _ _) (.cells #[.bool y.1.1, .slice Aq y.1.2.length cq, .slice Af y.2.length cf] 35))
  have ky := box_new (w.alloc (.cells #[.bool x.1.1, .slice Ap x.1.2.length cp, .slice Ad x.2.length cd] 35)) #[.bool y.1.1, .slice Aq y.1.2.length cq, .slice Af y.2.length cf] 35
  rw [show (w.alloc (.cells #[.bool x.1.1, .slice Ap x.1.2.length cp, .slice Ad x.2.length cd] 35)).heap.size = w.heap.size + 1 by simp] at ky
  go_enter Tryz.func14, Tryz.ntmps14
  go_wp2_with fail
  refine (eqSigned_at _ _ x.1 y.1 _ hl (rdS_below hp hb) (rdS_below hq hb)).mono ?_
  rintro e w1 ⟨rfl, b1⟩
  have bb1 := Below.next hb b1
  replace kx := kx.below b1
  replace ky := ky.below b1
  have cx2 := kx.here.cell 2 _ rfl
  have cy2 := ky.here.cell 2 _ rfl
  have hd1 := hd.below bb1 (Nat.le_refl _)
  have hf1 := hf.below bb1 (Nat.le_refl _)
  clear hp hq kx ky hd hf
  by_cases h1 : x.1 = y.1
  · rw [decide_eq_true h1]
    have H1 := Lib.hid h1
    clear h1
    go_wp2_with fail
    refine (eqIntS_any _ _ x.2 y.2 0 w.heap.size 0 w.heap.size _ hl2 hd1 hf1).mono ?_
    rintro e w2 ⟨rfl, n, rfl⟩
    by_cases h2 : x.2 = y.2
    · rw [decide_eq_true h2]
      have HV := Lib.hid (show decide (x = y) = true from decide_eq_true (Prod.ext H1.out h2))
      clear h2
      go_wp2
      go_ret
      exact ⟨ret_bool HV.out.symm, below_drewN bb1 n⟩
    · rw [decide_eq_false h2]
      have HV := Lib.hid (show decide (x = y) = false from decide_eq_false (fun e => h2 (by rw [e])))
      clear h2
      go_wp2
      go_ret
      exact ⟨ret_bool HV.out.symm, below_drewN bb1 n⟩
  · rw [decide_eq_false h1]
    have HV := Lib.hid (show decide (x = y) = false from decide_eq_false (fun e => h1 (by rw [e])))
    clear h1
    go_wp2
    go_ret
    exact ⟨ret_bool HV.out.symm, bb1⟩


/-- the blocks of the limbs of both parts -/
def partsB (u d : Value) : List Nat := u.ownBlock.toList ++ d.ownBlock.toList
theorem At.both {S T : List Nat} {φ ψ : World → Prop} {w : World} (h : At S φ w) (k : At T ψ w) : At (S ++ T) (fun w => φ w ∧ ψ w) w :=
  ⟨⟨h.here, k.here⟩, fun g hg => by rcases List.mem_append.1 hg with hg | hg; exact h.lt g hg; exact k.lt g hg,
    fun w' hk => ⟨h.stays w' fun g hg => hk g (List.mem_append_left _ hg), k.stays w' fun g hg => hk g (List.mem_append_right _ hg)⟩⟩
set_option maxHeartbeats 400000 in
set_option maxRecDepth 100000 in
theorem markRat_at (u d : Value) (x : QI) (m : Int) (w : World) (hm : m + szQ x ≤ 9223372036854775807) (hm0 : 0 ≤ m) (ou : OwnI u x.1.2 w) (od : OwnI d x.2 w) (hap : ∀ g, u.ownBlock = some g → d.ownBlock ≠ some g) :
    Calls Tryz.prog 18 #[.agg #[.bool x.1.1, u, d], .int .i64 m] w fun e w' => e = .returned (.int .i64 (m + szQ x)) ∧ At (partsB u d) (MarkQ (.agg #[.bool x.1.1, u, d]) x m) w' ∧ Chg (partsB u d) w w' := by
  obtain ⟨A, c, rfl⟩ := own_len ou
  obtain ⟨B, f, rfl⟩ := own_len od
  have hs0 : 0 ≤ szS x.1 := by unfold szS szI; omega
  have hs1 : 0 ≤ szI x.2 := by unfold szI; omega
  have HZ := Lib.hid (show szQ x = szS x.1 + szI x.2 from rfl)
  rw [HZ.out] at hm
  have hbx := below_al (Below.refl w.heap.size w) (.cells #[.bool x.1.1, .slice A x.1.2.length c, .slice B x.2.length f] 35)
  have kx := box_new w #[.bool x.1.1, .slice A x.1.2.length c, .slice B x.2.length f] 35
  have au := (own_at' ou).below hbx
  have ad := (own_at' od).below hbx
  have hltu := (own_at' ou).lt
  have hltd := (own_at' od).lt
  have dis : ∀ g ∈ (Value.slice B x.2.length f).ownBlock.toList, g ∉ (Value.slice A x.1.2.length c).ownBlock.toList := fun g hg hm => hap g (by simpa using hm) (by simpa using hg)
  have DIS := Lib.hid dis
  have HLU := Lib.hid hltu
  have HLD := Lib.hid hltd
  clear ou od hap dis hltu hltd
  go_enter Tryz.func18, Tryz.ntmps18
  go_wp2_with fail
  refine (markSigned_at _ x.1 _ m _ (by omega) hm0 (au.imp fun _ h => OwnS.mk (x := x.1) h)).mono ?_
  rintro e w1 ⟨rfl, mu, c1⟩
  replace ad := ad.chg c1 DIS.out
  replace kx := kx.chg c1 (fun i hi hm => by have := HLU.out i hm; simp at hi; omega)
  have cx2 := kx.here.cell 2 _ rfl
  have HC1 := Lib.hid c1
  have HMU := Lib.hid mu
  clear kx c1 au mu
  go_wp2_with fail
  refine (markIntS_at _ x.2 _ (m + szS x.1) _ (by omega) (by omega) ad).mono ?_
  rintro e w2 ⟨rfl, md, c2⟩
  have mu2 := HMU.out.chg c2 (fun i hi hm => DIS.out i hm hi)
  have hall := Lib.hid (show At (partsB (.slice A x.1.2.length c) (.slice B x.2.length f)) (MarkQ (.agg #[.bool x.1.1, .slice A x.1.2.length c, .slice B x.2.length f]) x m) w2 from
    (At.both mu2 md).imp fun W hh => by
      obtain ⟨⟨u', e1, hu'⟩, hd'⟩ := hh
      injection e1 with e1
      have e2 : u' = .slice A x.1.2.length c := by simpa using e1.symm
      rw [e2] at hu'
      exact ⟨_, _, rfl, hu', hd'⟩)
  have hchg := Lib.hid (show Chg (partsB (.slice A x.1.2.length c) (.slice B x.2.length f)) w w2 from
    (Chg.of_below hbx).trans ((HC1.out.more fun g hg => List.mem_append_left _ hg).trans (c2.more fun g hg => List.mem_append_right _ hg)))
  clear md c2 mu2 ad HMU
  go_wp2
  go_ret
  exact ⟨ret_int (by rw [HZ.out]; omega), hall.out, hchg.out⟩

set_option maxHeartbeats 400000 in
set_option maxRecDepth 100000 in
theorem heldRat_at (v : Value) (x : QI) (m : Int) (w : World) (hm : m + szQ x ≤ 9223372036854775807) (hm0 : 0 ≤ m) (h : MarkQ v x m w) :
    Calls Tryz.prog 20 #[v, .int .i64 m] w fun e w' => e = .returned (.int .i64 (m + szQ x)) ∧ Below w.heap.size w w' := by
  obtain ⟨u, d, rfl, ou, od⟩ := h
  obtain ⟨A, c, rfl⟩ := own_len ou
  obtain ⟨B, f, rfl⟩ := own_len od
  have hs0 : 0 ≤ szS x.1 := by unfold szS szI; omega
  have hs1 : 0 ≤ szI x.2 := by unfold szI; omega
  have HZ := Lib.hid (show szQ x = szS x.1 + szI x.2 from rfl)
  rw [HZ.out] at hm
  have hbx := below_al (Below.refl w.heap.size w) (.cells #[.bool x.1.1, .slice A x.1.2.length c, .slice B x.2.length f] 35)
  have kx := box_new w #[.bool x.1.1, .slice A x.1.2.length c, .slice B x.2.length f] 35
  have ou1 : MarkS (.agg #[.bool x.1.1, .slice A x.1.2.length c]) x.1 m _ := ⟨_, rfl, own_below ou hbx⟩
  have od1 := own_below od hbx
  clear ou od
  go_enter Tryz.func20, Tryz.ntmps20
  go_wp2_with fail
  refine (heldSigned_at _ x.1 m _ (by omega) hm0 ou1).mono ?_
  rintro e w1 ⟨rfl, b1⟩
  have bb1 := Below.next hbx b1
  replace kx := kx.below b1
  replace od1 := own_below od1 b1
  have cx2 := kx.here.cell 2 _ rfl
  have hn1 : decide (m + szS x.1 < 0) = false := decide_eq_false (by omega)
  clear ou1 kx
  go_wp2_with fail
  refine (heldIntS_at _ x.2 (m + szS x.1) _ (by omega) (by omega) od1).mono ?_
  rintro e w2 ⟨rfl, b2⟩
  have bb2 := Below.next bb1 b2
  have hn2 : decide (m + szS x.1 + szI x.2 < 0) = false := decide_eq_false (by omega)
  clear hn1
  go_wp2
  go_ret
  exact ⟨ret_int (by rw [HZ.out]; omega), bb2⟩
end Go.Proofs.YtofehcpapdlcnaaGreatDoor

namespace Go.Proofs.YtofehcpapdlcnaaGreatDoor
open Go.RowKit

/-! ### kind R: impl.Rat -/
def capQ (x : QI) : Prop := x.1.2.length ≤ 9223372036854775807 ∧ x.2.length ≤ 9223372036854775807
theorem szQ_nonneg (x : QI) : 0 ≤ szQ x := by unfold szQ szS szI; omega
theorem szQ_len {x : QI} (h : szQ x ≤ 1048576) : x.1.2.length ≤ 1048576 ∧ x.2.length ≤ 1048576 := by unfold szQ szS szI at h; omega
theorem capQ_of {x : QI} (h : szQ x ≤ 1048576) : capQ x := by have := szQ_len h; unfold capQ; omega
theorem ownQ_form {v : Value} {x : QI} {w : World} (h : OwnQ v x w) : ∃ A c B d, v = .agg #[.bool x.1.1, .slice A x.1.2.length c, .slice B x.2.length d] := by
  obtain ⟨u, d, rfl, o, p, _⟩ := h
  obtain ⟨A, c, rfl⟩ := own_len o
  obtain ⟨B, d, rfl⟩ := own_len p
  exact ⟨A, c, B, d, rfl⟩
theorem partsQ_at {u d : Value} {x : QI} {B C : Nat} {w : World} (ou : w.ownsRow B 3 1 u x.1.2.length (intsV x.1.2)) (od : w.ownsRow C 3 1 d x.2.length (intsV x.2)) (hap : ∀ g, u.ownBlock = some g → d.ownBlock ≠ some g) :
    At (partsB u d) (OwnQ (.agg #[.bool x.1.1, u, d]) x) w := (At.both (own_at' ou) (own_at' od)).imp fun _ h => ⟨u, d, rfl, h.1, h.2, hap⟩
theorem NewQ.newV {x : QI} {w w' : World} {e : Ending} (h : NewQ x w e w') : NewV (fun v => OwnQ v x) w e w' := by
  obtain ⟨u, d, rfl, o, p, hap, b⟩ := h
  exact ⟨_, partsB u d, rfl, partsQ_at o p hap, fun g hg => by
    rcases List.mem_append.1 hg with hg | hg
    · exact own_within o g hg
    · exact own_within p g hg, b⟩
theorem eqQ_cal (u v : Value) (x y : QI) (w : World) (hz : capQ x) (hu : RdQ w u x) (hv : RdQ w v y) : Calls Tryz.prog 14 #[u, v] w (Postb (decide (x = y)) w) :=
  eqRat_at u v x y w hz.1 hz.2 hu hv
theorem ownQ_open {u d : Value} {c : Value} {x : QI} {w : World} (h : OwnQ (.agg #[c, u, d]) x w) : c = .bool x.1.1 ∧ OwnI u x.1.2 w ∧ OwnI d x.2 w ∧ (∀ g, u.ownBlock = some g → d.ownBlock ≠ some g) := by
  obtain ⟨u', d', e, hu, hd, hap⟩ := h
  injection e with e
  simp at e
  obtain ⟨e1, e2, e3⟩ := e
  subst e1 e2 e3
  exact ⟨rfl, hu, hd, hap⟩
theorem markQ_cal (v : Value) (x : QI) (S : List Nat) (m : Int) (w : World) (hm : m + szQ x ≤ 9223372036854775807) (hm0 : 0 ≤ m) (h : At S (OwnQ v x) w) :
    Calls Tryz.prog 18 #[v, .int .i64 m] w fun e w' => e = .returned (.int .i64 (m + szQ x)) ∧ At S (MarkQ v x m) w' ∧ Chg S w w' := by
  obtain ⟨u, d, rfl, ou, od, hap⟩ := h.here
  have hs : ∀ g ∈ partsB u d, g ∈ S := fun g hg => by
    rcases List.mem_append.1 hg with hg | hg
    · exact toList_own (at_ints_mem h fun w' k => (ownQ_open k).2.1) g hg
    · exact toList_own (at_ints_mem h fun w' k => (ownQ_open k).2.2.1) g hg
  refine (markRat_at u d x m w hm hm0 ou od hap).mono fun e w' k => ?_
  obtain ⟨e1, k1, k2⟩ := k
  have hc := k2.more hs
  exact ⟨e1, k1.more hs (fun g hg => Nat.lt_of_lt_of_le (h.lt g hg) hc.size), hc⟩
theorem heldQ_cal (v : Value) (x : QI) (m : Int) (w : World) (hm : m + szQ x ≤ 9223372036854775807) (hm0 : 0 ≤ m) (h : MarkQ v x m w) : Calls Tryz.prog 20 #[v, .int .i64 m] w (Postn (m + szQ x) w) :=
  heldRat_at v x m w hm hm0 h

/-! ### what calls answer: a new fraction or signed number, and scalars with it -/
def PostQb (R0 : QI) (R1 : Bool) (w : World) (e : Ending) (w' : World) : Prop :=
  ∃ (v : Value) (S : List Nat), e = .returned (.tuple #[v, .bool R1]) ∧ At S (OwnQ v R0) w' ∧ Within S w.heap.size w'.heap.size ∧ Below w.heap.size w w'
end Go.Proofs.YtofehcpapdlcnaaGreatDoor
