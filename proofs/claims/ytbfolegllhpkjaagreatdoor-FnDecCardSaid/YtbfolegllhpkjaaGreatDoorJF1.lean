/-
  The words for memory that my walks use: a slice that reads as a list of one-cell values, and how the reading is carried on.
  The draws of the laws: a cursor over the bytes of a code. What a draw comes to is left open but for its range.
  Plain facts on natural numbers as lists of limbs below 1000000000, the least first.
  What laws.toIntS, eqIntS, markIntS and heldIntS return, for slices of ints that read as lists.
  What the functions of chapter 3 of package spec return, for slices that read as lists of limbs.
  What NatAdd, NatSub, NatOf and NatInt of package spec return.
  Products of limbs, and what l02Mul and NatMul of package spec return.
  What NatOf and NatInt of package spec return.
  Values of the call's own with the blocks that they lean on, and how they are carried through calls: the words in which the exact laws are walked.
  Plain facts on limbs and powers of 1000000000: setting a limb, filling up with zeros, when limbs are those of their number.
  Plain facts on division limb by limb.
  What l03Small and l03Digit of package spec return.
  What l03Div and NatDiv of package spec return.
  The numbers that the law FnNat draws: valid nats of at most five limbs. And what laws.same returns.
  Boxes: a block that holds known cells.
  Plain facts on signed numbers: a sign and limbs.
  Values of type impl.Signed: what laws.toSigned, eqSigned, markSigned, heldSigned and szSigned return.
  What NatDiv, NatGcd, NatTen, NatScale, NatCut and NatEven of package spec return.
-/
import Derived.Test.YtbfolegllhpkjaaGreatDoorRows
import Derived.WalkKit
import Derived.WalkSpells
import Derived.WalkLawsBesides
import Derived.Deep.QuietTactic
import Derived.BigQuiet
import Derived.Lib.Hide
import Derived.StillTailTactics
import Derived.Laws.AppendOwnNone
import Derived.Lib.Builder
import Derived.Deep.LoopGhost
namespace Go.Proofs.YtbfolegllhpkjaaGreatDoor
open Go.RowKit

theorem ret_bool {a b : Bool} (h : a = b) : Ending.returned (.bool a) = .returned (.bool b) := by rw [h]
theorem ret_int {k : IntKind} {a b : Int} (h : a = b) : Ending.returned (.int k a) = .returned (.int k b) := by rw [h]
theorem ret_str {a b : ByteArray} (h : a = b) : Ending.returned (.string a) = .returned (.string b) := by rw [h]
theorem ret_two {a b c d : Value} (h : a = c) (k : b = d) : Ending.returned (.tuple #[a, b]) = .returned (.tuple #[c, d]) := by rw [h, k]

/-- the slice value v reads as xs, an element a cell; its cells, if any, lie in a block from lo on and below hi -/
def Row (w : World) (lo hi : Nat) (v : Value) (xs : List Value) : Prop :=
  ∃ A c, v = .slice A xs.length c ∧ ∀ j u, xs[j]? = some u → ∃ a : Addr, A = some a ∧ lo ≤ a.block ∧ a.block < hi ∧ w.cell? (a.add j) = some u

section
variable {w w' : World} {lo hi : Nat} {v : Value} {xs : List Value}

theorem block_add (a : Addr) (n : Nat) : (a.add n).block = a.block := by
  unfold Addr.add
  split <;> rfl

theorem cell_lt {w : World} {p : Addr} {u : Value} (h : w.cell? p = some u) : p.block < w.heap.size := by
  rcases Nat.lt_or_ge p.block w.heap.size with hl | hl
  · exact hl
  · simp [World.cell?, Array.getElem?_eq_none hl] at h
/-- the reading stays where the cells below hi stay -/
theorem Row.stays (h : Row w lo hi v xs) (hk : ∀ p : Addr, p.block < hi → w'.cell? p = w.cell? p) : Row w' lo hi v xs := by
  obtain ⟨A, c, rfl, h⟩ := h
  refine ⟨A, c, rfl, fun j u hj => ?_⟩
  obtain ⟨a, e, h1, h2, h3⟩ := h j u hj
  exact ⟨a, e, h1, h2, (hk _ (by rw [block_add]; exact h2)).trans h3⟩
theorem Row.below {B : Nat} (h : Row w lo hi v xs) (hb : Below B w w') (hB : hi ≤ B) : Row w' lo hi v xs :=
  h.stays fun _ hp => hb.cell (by omega)
theorem Row.drewN (h : Row w lo hi v xs) (n : Nat) : Row (w.drewN n) lo hi v xs := h.stays fun _ _ => rfl
theorem Row.wide {lo' hi' : Nat} (h : Row w lo hi v xs) (h1 : lo' ≤ lo) (h2 : hi ≤ hi') : Row w lo' hi' v xs := by
  obtain ⟨A, c, rfl, h⟩ := h
  refine ⟨A, c, rfl, fun j u hj => ?_⟩
  obtain ⟨a, e, k1, k2, k3⟩ := h j u hj
  exact ⟨a, e, by omega, by omega, k3⟩
theorem Row.nil_ (A : Option Addr) (c : Nat) : Row w lo hi (.slice A 0 c) [] := ⟨A, c, rfl, fun j u hj => absurd hj (by simp)⟩

/-- a row that the call owns reads as its cells -/
theorem Row.of_own {base : Nat} {e : TypeId} {n : Nat} (h : w.ownsRow base e 1 v n xs) : Row w base w.heap.size v xs := by
  obtain ⟨hl, h | ⟨g, cap, cur, rfl, hb, hh, _, _, hcs, ht⟩⟩ := h
  · obtain ⟨rfl, rfl⟩ := h
    obtain rfl : xs = [] := List.eq_nil_of_length_eq_zero (by omega)
    exact Row.nil_ _ _
  · have hln : xs.length = n := by omega
    refine ⟨some ⟨g, 0, none⟩, cap, by rw [hln], fun j u hu => ⟨_, rfl, hb, ?_, ?_⟩⟩
    · exact (Array.getElem?_eq_some_iff.1 hh).1
    · have e1 : (Addr.add ⟨g, 0, none⟩ j) = ⟨g, j, none⟩ := by
        unfold Addr.add
        split
        · simp_all
        · simp
      rw [e1, cell_of_row w g j cur e (0, 0) hh]
      have hj : j < xs.length := (List.getElem?_eq_some_iff.1 hu).1
      have h2 : cur.toList[j]? = some u := by
        rw [← List.getElem?_take_of_lt (show j < n * 1 by omega), ht]
        exact hu
      simpa using h2
end

/-- a row of the call's own stays where its block stays -/
theorem own_stays {w w' : World} {base size n : Nat} {e : TypeId} {v : Value} {xs : List Value} (h : w.ownsRow base e size v n xs) (hk : ∀ g, v.ownBlock = some g → w'.heap[g]? = w.heap[g]?) : w'.ownsRow base e size v n xs := by
  obtain ⟨hl, h | ⟨g, cap, cur, rfl, hb, hh, r⟩⟩ := h
  · exact ⟨hl, .inl h⟩
  · exact ⟨hl, .inr ⟨g, cap, cur, rfl, hb, (hk g rfl).trans hh, r⟩⟩
theorem own_lt {w : World} {base size n g : Nat} {e : TypeId} {v : Value} {xs : List Value} (h : w.ownsRow base e size v n xs) (hg : v.ownBlock = some g) : base ≤ g ∧ g < w.heap.size := by
  obtain ⟨_, ⟨rfl, _⟩ | ⟨g', cap, cur, rfl, hb, hh, _⟩⟩ := h
  · cases hg
  · cases hg
    exact ⟨hb, (Array.getElem?_eq_some_iff.1 hh).1⟩
theorem own_form {w : World} {base size n : Nat} {e : TypeId} {v : Value} {xs : List Value} (h : w.ownsRow base e size v n xs) (hn : 0 < n) : ∃ g cap, v = .slice (some ⟨g, 0, none⟩) n cap ∧ base ≤ g ∧ g < w.heap.size ∧ n ≤ cap := by
  obtain ⟨_, ⟨_, h0⟩ | ⟨g, cap, cur, e1, hb, hh, hc, _⟩⟩ := h
  · omega
  · exact ⟨g, cap, e1, hb, (Array.getElem?_eq_some_iff.1 hh).1, hc⟩
theorem own_below {w w' : World} {base size n : Nat} {e : TypeId} {v : Value} {xs : List Value} (h : w.ownsRow base e size v n xs) (hb : Below w.heap.size w w') : w'.ownsRow base e size v n xs :=
  own_stays h fun g hg => hb.block g (own_lt h hg).2
theorem own_alloc {w : World} {base size n : Nat} {e : TypeId} {v : Value} {xs : List Value} (h : w.ownsRow base e size v n xs) (o : Obj) : (w.alloc o).ownsRow base e size v n xs :=
  own_below h ((Below.refl _ _).alloc (Nat.le_refl _) o)
theorem grown_below {a b c : World} {row : Option Nat} (h : a.grownBy b row) (k : Below b.heap.size b c) : a.grownBy c row :=
  ⟨k.os.trans h.os, k.tape.trans h.tape, k.output.trans h.output, Nat.le_trans h.size k.size, fun i hi hne => (k.block i (Nat.lt_of_lt_of_le hi h.size)).trans (h.block i hi hne)⟩
theorem grown_trans {a b c : World} {row : Option Nat} (h : a.grownBy b row) (k : b.grownBy c row) : a.grownBy c row :=
  ⟨k.os.trans h.os, k.tape.trans h.tape, k.output.trans h.output, Nat.le_trans h.size k.size, fun i hi hne => (k.block i (Nat.lt_of_lt_of_le hi h.size) hne).trans (h.block i hi hne)⟩
theorem below_drewN {B : Nat} {a w : World} (h : Below B a w) (n : Nat) : Below B a (w.drewN n) := ⟨h.os, h.tape, h.output, h.size, h.block⟩

/-- behind an append of something new onto a row of the call's own, old memory is as it was -/
theorem below_push {w wr w' : World} {B size n : Nat} {e : TypeId} {v : Value} {xs : List Value} {o : Obj} (hb : Below B w wr) (hB : B ≤ w.heap.size) (hown : wr.ownsRow B e size v n xs) (hg : (wr.alloc o).grownBy w' v.ownBlock) : Below B w w' := by
  have hs := hb.size
  exact (hb.alloc (by omega) o).grown hg (by simp; omega) (fun k hk => (own_lt hown hk).1)
theorem one_new (w : World) (x : Value) (t : TypeId) : ∀ (j : Nat) (u : Value), [x][j]? = some u → (w.alloc (.cells #[x] t)).cell? (Addr.add ⟨w.heap.size, 0, none⟩ j) = some u := by
  intro j u h
  cases j with
  | zero =>
    have : (Addr.add ⟨w.heap.size, 0, none⟩ 0) = ⟨w.heap.size, 0, none⟩ := rfl
    rw [this, World.cell?_alloc_at _ _ _ _ rfl]
    simpa using h
  | succ j => simp at h

/-- two new cells read as a slice of two -/
theorem Row.lit2 (w : World) (x y : Value) (t : TypeId) : Row (w.alloc (.cells #[x, y] t)) w.heap.size (w.heap.size + 1) (.slice (some ⟨w.heap.size, 0, none⟩) 2 2) [x, y] := by
  refine ⟨_, _, rfl, fun j u hu => ⟨_, rfl, Nat.le_refl _, Nat.lt_succ_self _, ?_⟩⟩
  match j, hu with
  | 0, hu =>
    show (w.alloc (.cells #[x, y] t)).cell? ⟨w.heap.size, 0, none⟩ = some u
    rw [World.cell?_alloc_at _ _ _ _ rfl]
    simpa using hu
  | 1, hu =>
    show (w.alloc (.cells #[x, y] t)).cell? ⟨w.heap.size, 1, none⟩ = some u
    rw [World.cell?_alloc_at _ _ _ _ rfl]
    simpa using hu
  | j + 2, hu => simp at hu

/-- the two rules that a walk uses behind a call that leaves old memory alone -/
theorem below_rules {W w1 : World} (hb : Below W.heap.size W w1) : (∀ b o, b < W.heap.size → w1.cell? ⟨b, o, none⟩ = W.cell? ⟨b, o, none⟩) ∧ (∀ b o, b < W.heap.size → w1.frozen? ⟨b, o, none⟩ = W.frozen? ⟨b, o, none⟩) :=
  ⟨fun b o h => hb.cell (p := ⟨b, o, none⟩) h, fun b o h => hb.frozen (p := ⟨b, o, none⟩) h⟩
theorem Below.next {a b c : World} (h : Below a.heap.size a b) (k : Below b.heap.size b c) : Below a.heap.size a c := h.trans (k.mono h.size)

theorem own_apart {w w' : World} {base size n : Nat} {e : TypeId} {v : Value} {xs : List Value} {row : Option Nat} (h : w.ownsRow base e size v n xs) (hg : w.grownBy w' row) (hne : ∀ g k, v.ownBlock = some g → row = some k → g ≠ k) : w'.ownsRow base e size v n xs :=
  own_stays h fun g hv => hg.block g (own_lt h hv).2 (fun e => hne g g hv e.symm rfl)
theorem own_drew {w : World} {base size n : Nat} {e : TypeId} {v : Value} {xs : List Value} (h : w.ownsRow base e size v n xs) (q : Nat) : (w.drewN q).ownsRow base e size v n xs := h
theorem decide_refl {α : Type} [DecidableEq α] (x : α) : decide (x = x) = true := decide_eq_true rfl
/-- where a row of the call's own lies -/
def Lies (v : Value) (lo hi : Nat) : Prop := ∀ g, v.ownBlock = some g → lo ≤ g ∧ g < hi
theorem Lies.of {w : World} {base size n : Nat} {e : TypeId} {v : Value} {xs : List Value} (h : w.ownsRow base e size v n xs) : Lies v base w.heap.size := fun _ hg => own_lt h hg
theorem Lies.apart {u v : Value} {a b c d : Nat} (h : Lies u a b) (k : Lies v c d) (hd : b ≤ c ∨ d ≤ a) : ∀ x y, u.ownBlock = some x → v.ownBlock = some y → x ≠ y := by
  intro x y hx hy
  have := h x hx
  have := k y hy
  omega
theorem own_len {w : World} {base n : Nat} {e : TypeId} {v : Value} {xs : List Value} (h : w.ownsRow base e 1 v n xs) : ∃ A c, v = .slice A n c := by
  rcases h.2 with ⟨rfl, rfl⟩ | ⟨g, cap, cur, rfl, _⟩
  · exact ⟨_, _, rfl⟩
  · exact ⟨_, _, rfl⟩
end Go.Proofs.YtbfolegllhpkjaaGreatDoor

namespace Go.Proofs.YtbfolegllhpkjaaGreatDoor
open Go.RowKit

/-- block g is a cursor over the slice v of n bytes -/
def Cur (w : World) (g : Nat) (v : Value) (n : Nat) : Prop :=
  ∃ i h : Int, 0 ≤ i ∧ i ≤ n ∧ -9223372036854775808 ≤ h ∧ h ≤ 9223372036854775807 ∧ w.heap[g]? = some (.cells #[v, .int .i64 i, .int .i64 h] 77 (0, 0))
/-- bytes as cells -/
def bytesV (bs : List Nat) : List Value := bs.map fun b : Nat => Value.int .u8 (b : Int)

theorem cell_in {w : World} {g : Nat} {cs : Array Value} {t : TypeId} (h : w.heap[g]? = some (.cells cs t (0, 0))) (j : Nat) (u : Value) (hj : cs[j]? = some u) : w.cell? ⟨g, j, none⟩ = some u := by
  rw [cell_of_row w g j cs t (0, 0) h]
  exact hj
theorem free_in {w : World} {g : Nat} {cs : Array Value} {t : TypeId} (h : w.heap[g]? = some (.cells cs t (0, 0))) (j : Nat) : w.frozen? ⟨g, j, none⟩ = false := by
  simp [World.frozen?, h]
theorem put_in {w : World} {g : Nat} {cs : Array Value} {t : TypeId} (h : w.heap[g]? = some (.cells cs t (0, 0))) (j : Nat) (u : Value) : (w.setCell ⟨g, j, none⟩ u).heap[g]? = some (.cells (cs.setIfInBounds j u) t (0, 0)) := by
  simp [World.setCell, Array.getElem?_modify, h]
theorem put_grown (w : World) (g j : Nat) (u : Value) : w.grownBy (w.setCell ⟨g, j, none⟩ u) (some g) :=
  ⟨rfl, rfl, rfl, by simp [World.setCell], fun k _ hne => Below.heap_setCell w _ u k (fun e => hne (by rw [e]))⟩
theorem grown_drewN {a w : World} {row : Option Nat} (h : a.grownBy w row) (n : Nat) : a.grownBy (w.drewN n) row := ⟨h.os, h.tape, h.output, h.size, h.block⟩

theorem and255 (x : Int) : 0 ≤ bits .and .i64 x 255 ∧ bits .and .i64 x 255 ≤ 255 := by
  have h : (BitVec.ofInt 64 x &&& BitVec.ofInt 64 255).toNat ≤ 255 := by
    rw [BitVec.toNat_and]
    exact Nat.and_le_right
  have e : bits .and .i64 x 255 = IntKind.i64.wrap ((BitVec.ofInt 64 x &&& BitVec.ofInt 64 255).toNat : Int) := rfl
  rw [e, IntKind.wrap_i64]
  omega

/-- what a draw of one byte comes to -/
def BytePost (g : Nat) (v : Value) (n : Nat) (w : World) (e : Ending) (w' : World) : Prop :=
  ∃ x : Int, 0 ≤ x ∧ x ≤ 255 ∧ e = .returned (.int .i64 x) ∧ Cur w' g v n ∧ w.grownBy w' (some g)

set_option maxHeartbeats 1000000 in
set_option maxRecDepth 100000 in
theorem l01Byte_any (g lo hi : Nat) (v : Value) (bs : List Nat) (w : World) (hb : ∀ b ∈ bs, b < 256) (hn : bs.length ≤ 1048576) (hc : Cur w g v bs.length) (hr : Row w lo hi v (bytesV bs)) (hg : hi ≤ g) :
    Calls Tryz.prog 111 #[.pointer (some ⟨g, 0, none⟩)] w (BytePost g v bs.length w) := by
  obtain ⟨i, h, hi0, hin, hh0, hh1, hbl⟩ := hc
  obtain ⟨A, c, rfl, hA⟩ := hr
  have hlen : (bytesV bs).length = bs.length := by simp [bytesV]
  have HA := Lib.hid hA
  clear hA
  rw [hlen] at hbl ⊢
  have c0 := cell_in hbl 0 _ rfl
  have c1 := cell_in hbl 1 _ rfl
  have c2 := cell_in hbl 2 _ rfl
  have f1 := free_in hbl 1
  have f2 := free_in hbl 2
  have HBL := Lib.hid hbl
  clear hbl
  obtain ⟨h2, Hh2⟩ : ∃ h2 : Int, Hid (wrap64 (wrap64 (h * 6364136223846793005) + 1442695040888963407) = h2 ∧ -9223372036854775808 ≤ h2 ∧ h2 ≤ 9223372036854775807) := ⟨_, Lib.hid ⟨rfl, by unfold wrap64; omega, by unfold wrap64; omega⟩⟩
  have hbl1 := put_in HBL.out 2 (.int .i64 h2)
  have hgr1 := put_grown w g 2 (.int .i64 h2)
  go_enter Tryz.func111, Tryz.ntmps111
  go_wp2
  rw [Hh2.out.1]
  obtain ⟨_, hl0, hl1⟩ := Hh2.out
  clear Hh2 c0 c1 c2 f1 f2
  generalize w.setCell ⟨g, 2, none⟩ (.int .i64 h2) = w1 at *
  have c0 : w1.cell? ⟨g, 0, none⟩ = some (.slice A bs.length c) := cell_in hbl1 0 _ rfl
  have c1 : w1.cell? ⟨g, 1, none⟩ = some (.int .i64 i) := cell_in hbl1 1 _ rfl
  have c2 : w1.cell? ⟨g, 2, none⟩ = some (.int .i64 h2) := cell_in hbl1 2 _ rfl
  have f1 := free_in hbl1 1
  have HBL1 := Lib.hid hbl1
  clear hbl1
  go_quiet (fail)
  go_wp2
  have hx := and255 (bits .xor .i64 (h2 / 8589934592) (h2 / 35184372088832))
  generalize bits .and .i64 (bits .xor .i64 (h2 / 8589934592) (h2 / 35184372088832)) 255 = x at *
  by_cases hlt : i < bs.length
  · obtain ⟨k, rfl⟩ := Int.eq_ofNat_of_zero_le hi0
    have hkl : k < bs.length := by omega
    obtain ⟨a, rfl, _, hab, hca⟩ := HA.out k (.int .u8 (bs[k] : Nat)) (by simp [bytesV, hkl])
    have hbk := hb bs[k] (List.getElem_mem hkl)
    have hca1 : w1.cell? (a.add k) = some (.int .u8 (bs[k] : Nat)) := by
      rw [← hca]
      have hne : some (a.add k).block ≠ some g := by rw [block_add]; intro e; injection e with e; omega
      exact World.cell?_of_block (hgr1.block _ (cell_lt hca) hne)
    clear hca hi0
    have HB := Lib.hid hb
    clear hb
    go_quiet (fail)
    go_wp2
    go_quiet (fail)
    go_wp2
    go_ret
    have hx2 := and255 (x + (bs[k] : Nat))
    exact ⟨_, hx2.1, hx2.2, rfl, ⟨(k : Int) + 1, h2, by omega, by omega, hl0, hl1, put_in HBL1.out 1 _⟩, grown_drewN (grown_trans hgr1 (put_grown w1 g 1 _)) _⟩
  · have hlt' : decide (i < bs.length) = false := decide_eq_false hlt
    have HB := Lib.hid hb
    clear hb
    go_quiet (fail)
    go_wp2
    go_ret
    exact ⟨x, hx.1, hx.2, rfl, ⟨i, h2, hi0, hin, hl0, hl1, HBL1.out⟩, grown_drewN hgr1 _⟩

theorem Row.far {w w' : World} {lo hi g : Nat} {v : Value} {xs : List Value} (h : Row w lo hi v xs) (hg : w.grownBy w' (some g)) (hlt : hi ≤ g) : Row w' lo hi v xs := by
  obtain ⟨A, c, rfl, h⟩ := h
  refine ⟨A, c, rfl, fun j u hj => ?_⟩
  obtain ⟨a, e, h1, h2, h3⟩ := h j u hj
  refine ⟨a, e, h1, h2, ?_⟩
  rw [← h3]
  have hne : some (a.add j).block ≠ some g := by rw [block_add]; intro e; injection e with e; omega
  exact World.cell?_of_block (hg.block _ (cell_lt h3) hne)

/-- what a draw below n comes to -/
def BelowPost (m : Int) (g : Nat) (v : Value) (n : Nat) (w : World) (e : Ending) (w' : World) : Prop :=
  ∃ x : Int, 0 ≤ x ∧ x < m ∧ e = .returned (.int .i64 x) ∧ Cur w' g v n ∧ w.grownBy w' (some g)

set_option maxHeartbeats 1000000 in
set_option maxRecDepth 100000 in
theorem l01Below_any (m : Int) (g lo hi : Nat) (v : Value) (bs : List Nat) (w : World) (hm : 0 < m) (hm2 : m ≤ 2147483648) (hb : ∀ b ∈ bs, b < 256) (hn : bs.length ≤ 1048576) (hc : Cur w g v bs.length) (hr : Row w lo hi v (bytesV bs)) (hg : hi ≤ g) :
    Calls Tryz.prog 83 #[.pointer (some ⟨g, 0, none⟩), .int .i64 m] w (BelowPost m g v bs.length w) := by
  have HB := Lib.hid hb
  clear hb
  have hmz : (m == 0) = false := by rw [beq_eq_false_iff_ne]; omega
  by_cases hs : m ≤ 256
  · go_enter Tryz.func83, Tryz.ntmps83
    go_wp2_with fail
    refine (l01Byte_any g lo hi v bs _ HB.out hn hc hr hg).mono ?_
    rintro e w1 ⟨x, hx0, hx1, rfl, hc1, hg1⟩
    go_wp2
    go_ret
    exact ⟨x % m, Int.emod_nonneg _ (by omega), Int.emod_lt_of_pos _ hm, rfl, hc1, hg1⟩
  · go_enter Tryz.func83, Tryz.ntmps83
    go_wp2_with fail
    refine (l01Byte_any g lo hi v bs _ HB.out hn hc hr hg).mono ?_
    rintro e w1 ⟨x1, hx0, hx1, rfl, hc1, hg1⟩
    have hr1 := hr.far hg1 hg
    go_wp2_with fail
    refine (l01Byte_any g lo hi v bs _ HB.out hn hc1 hr1 hg).mono ?_
    rintro e w2 ⟨x2, hy0, hy1, rfl, hc2, hg2⟩
    have hr2 := hr1.far hg2 hg
    go_wp2_with fail
    refine (l01Byte_any g lo hi v bs _ HB.out hn hc2 hr2 hg).mono ?_
    rintro e w3 ⟨x3, hz0, hz1, rfl, hc3, hg3⟩
    have hr3 := hr2.far hg3 hg
    go_wp2_with fail
    refine (l01Byte_any g lo hi v bs _ HB.out hn hc3 hr3 hg).mono ?_
    rintro e w4 ⟨x4, hq0, hq1, rfl, hc4, hg4⟩
    go_wp2
    go_ret
    exact ⟨(x1 * 16777216 + x2 * 65536 + x3 * 256 + x4) % m, Int.emod_nonneg _ (by omega), Int.emod_lt_of_pos _ hm, rfl, hc4, grown_trans (grown_trans (grown_trans hg1 hg2) hg3) hg4⟩

/-- what a new cursor is -/
def NewPost (v : Value) (n : Nat) (w : World) (e : Ending) (w' : World) : Prop :=
  ∃ g : Nat, w.heap.size ≤ g ∧ e = .returned (.pointer (some ⟨g, 0, none⟩)) ∧ Cur w' g v n ∧ Below w.heap.size w w'
theorem andMask (x : Int) : 0 ≤ bits .and .i64 x 1073741823 ∧ bits .and .i64 x 1073741823 ≤ 1073741823 := by
  have h : (BitVec.ofInt 64 x &&& BitVec.ofInt 64 1073741823).toNat ≤ 1073741823 := by
    rw [BitVec.toNat_and]
    exact Nat.and_le_right
  have e : bits .and .i64 x 1073741823 = IntKind.i64.wrap ((BitVec.ofInt 64 x &&& BitVec.ofInt 64 1073741823).toNat : Int) := rfl
  rw [e, IntKind.wrap_i64]
  omega

set_option maxRecDepth 100000 in
set_option maxHeartbeats 1000000 in
set_option maxRecDepth 100000 in
theorem l01New_any (lo hi : Nat) (v : Value) (bs : List Nat) (w : World) (hb : ∀ b ∈ bs, b < 256) (hn : bs.length ≤ 1048576) (hr : Row w lo hi v (bytesV bs)) :
    Calls Tryz.prog 18 #[v] w (NewPost v bs.length w) := by
  obtain ⟨A, c, rfl, hA⟩ := hr
  have hlen : (bytesV bs).length = bs.length := by simp [bytesV]
  rw [hlen]
  have HA := Lib.hid hA
  have HB := Lib.hid hb
  clear hA hb hlen
  go_enter Tryz.func18, Tryz.ntmps18
  go_wp2
  go_loop [3, 4] (fun a i => ∃ (k : Nat) (h : Int), k ≤ bs.length ∧ i = .int .i64 k ∧ a = .int .i64 h ∧ 0 ≤ h ∧ h ≤ 1073741823) (fun _ i => bs.length - (intOf i).toNat)
  case atStart => exact ⟨0, _, Nat.zero_le _, rfl, rfl, by omega, by omega⟩
  case round =>
    obtain ⟨k, h, hk, rfl, rfl, hh0, hh1⟩ := hrel
    by_cases hlt : k < bs.length ∧ k < 4000
    · obtain ⟨a, rfl, _, hab, hca⟩ := HA.out k (.int .u8 (bs[k]'hlt.1 : Nat)) (by simp [bytesV, hlt.1])
      have hbk := HB.out _ (List.getElem_mem hlt.1)
      obtain ⟨hl1, hl2⟩ := hlt
      go_wp2
      have hm := andMask (h * 41 + (bs[k] : Nat) + 7)
      go_round
      case rel => exact ⟨k + 1, _, by omega, by go_num, rfl, hm.1, hm.2⟩
      case measure => simp [intOf]; omega
    · by_cases hl1 : k < bs.length
      · have hl2 : ¬ k < 4000 := fun e => hlt ⟨hl1, e⟩
        clear hlt
        go_wp2
        go_ret
        exact ⟨w.heap.size, Nat.le_refl _, rfl, ⟨0, h, by omega, by omega, by omega, by omega, heap_alloc_new w _⟩, (Below.refl _ _).alloc (Nat.le_refl _) _⟩
      · clear hlt
        go_wp2
        go_ret
        exact ⟨w.heap.size, Nat.le_refl _, rfl, ⟨0, h, by omega, by omega, by omega, by omega, heap_alloc_new w _⟩, (Below.refl _ _).alloc (Nat.le_refl _) _⟩

/-- a number that a law draws -/
def NumPost (m : Int) (w : World) (e : Ending) (w' : World) : Prop := ∃ x : Int, 0 ≤ x ∧ x < m ∧ e = .returned (.int .i64 x) ∧ Below w.heap.size w w'

end Go.Proofs.YtbfolegllhpkjaaGreatDoor

namespace Go.Proofs.YtbfolegllhpkjaaGreatDoor
open Go.RowKit

/-- the number that limbs stand for -/
def nval : List Int → Int
  | [] => 0
  | d :: r => d + 1000000000 * nval r
/-- every limb is in range -/
def DigN (xs : List Int) : Prop := ∀ d ∈ xs, 0 ≤ d ∧ d ≤ 999999999
/-- without zeros at its end -/
def trimL : List Int → List Int
  | [] => []
  | d :: r => if trimL r = [] ∧ d = 0 then [] else d :: trimL r
/-- the limbs of a number -/
def limbs (n : Nat) : List Int := if h : n = 0 then [] else ((n % 1000000000 : Nat) : Int) :: limbs (n / 1000000000)
termination_by n
decreasing_by omega
/-- what NatOk asks -/
def digB (d : Int) : Bool := decide (0 ≤ d ∧ d ≤ 999999999)
def natOkB (xs : List Int) : Bool := xs.all digB && (decide (xs.length ≤ 50) && decide (xs.getLastD 1 ≠ 0))
theorem all_dig (xs : List Int) : xs.all digB = true ↔ DigN xs := by
  rw [List.all_eq_true]
  constructor
  · intro h d hd
    exact of_decide_eq_true (h d hd)
  · intro h d hd
    exact decide_eq_true (h d hd)

theorem DigN.tail {d : Int} {r : List Int} (h : DigN (d :: r)) : DigN r := fun x hx => h x (by simp [hx])
theorem DigN.head {d : Int} {r : List Int} (h : DigN (d :: r)) : 0 ≤ d ∧ d ≤ 999999999 := h d (by simp)
theorem DigN.cons {d : Int} {r : List Int} (h0 : 0 ≤ d) (h1 : d ≤ 999999999) (h : DigN r) : DigN (d :: r) := by
  intro x hx
  rcases List.mem_cons.1 hx with rfl | hx
  · exact ⟨h0, h1⟩
  · exact h x hx
theorem DigN.drop {xs : List Int} (h : DigN xs) (k : Nat) : DigN (xs.drop k) := fun x hx => h x (List.mem_of_mem_drop hx)
theorem DigN.take {xs : List Int} (h : DigN xs) (k : Nat) : DigN (xs.take k) := fun x hx => h x (List.mem_of_mem_take hx)
theorem DigN.at_ {xs : List Int} (h : DigN xs) (k : Nat) (hk : k < xs.length) : 0 ≤ xs[k] ∧ xs[k] ≤ 999999999 := h _ (List.getElem_mem hk)
theorem nval_nonneg (xs : List Int) (h : DigN xs) : 0 ≤ nval xs := by
  induction xs with
  | nil => exact Int.le_refl _
  | cons d r ih => have := ih h.tail; have := h.head; unfold nval; omega
theorem nval_zero (xs : List Int) (h : DigN xs) : nval xs = 0 ↔ trimL xs = [] := by
  induction xs with
  | nil => simp [nval, trimL]
  | cons d r ih =>
    have h1 := ih h.tail
    have h2 := h.head
    have h3 := nval_nonneg r h.tail
    unfold nval trimL
    constructor
    · intro e
      rw [if_pos ⟨h1.1 (by omega), by omega⟩]
    · intro e
      split at e
      · rename_i hc
        have := h1.2 hc.1
        omega
      · cases e
/-- limbs in range, without zeros at the end, are those of their number -/
theorem trim_limbs (xs : List Int) (h : DigN xs) : trimL xs = limbs (nval xs).toNat := by
  induction xs with
  | nil => rw [limbs]; simp [trimL, nval]
  | cons d r ih =>
    have h1 := ih h.tail
    have h2 := h.head
    have h3 := nval_nonneg r h.tail
    have hz := nval_zero r h.tail
    unfold trimL
    by_cases hc : trimL r = [] ∧ d = 0
    · rw [if_pos hc]
      have : nval r = 0 := hz.2 hc.1
      rw [limbs, dif_pos (by unfold nval; omega)]
    · rw [if_neg hc]
      have hne : ¬ (nval (d :: r)).toNat = 0 := by
        unfold nval
        intro e
        exact hc ⟨hz.1 (by omega), by omega⟩
      rw [limbs, dif_neg hne, h1, show nval (d :: r) = d + 1000000000 * nval r from rfl]
      rw [show (d + 1000000000 * nval r).toNat / 1000000000 = (nval r).toNat from by omega, show (((d + 1000000000 * nval r).toNat % 1000000000 : Nat) : Int) = d from by omega]
theorem trim_last (xs : List Int) (h : xs.getLastD 1 ≠ 0) : trimL xs = xs := by
  induction xs with
  | nil => rfl
  | cons d r ih =>
    unfold trimL
    cases r with
    | nil => have : d ≠ 0 := by simpa using h
             rw [if_neg (fun e => this e.2)]
             rfl
    | cons e r' =>
      have h1 := ih (by simpa using h)
      rw [h1, if_neg (fun e => by cases e.1)]
theorem natOk_parts {xs : List Int} (h : natOkB xs = true) : DigN xs ∧ xs.length ≤ 50 ∧ xs.getLastD 1 ≠ 0 := by
  unfold natOkB at h
  rw [Bool.and_eq_true, Bool.and_eq_true, decide_eq_true_eq, decide_eq_true_eq, all_dig] at h
  exact h
theorem natOk_limbs {xs : List Int} (h : natOkB xs = true) : xs = limbs (nval xs).toNat := by
  obtain ⟨h1, _, h3⟩ := natOk_parts h
  rw [← trim_limbs xs h1, trim_last xs h3]
theorem nval_inj {xs ys : List Int} (h : natOkB xs = true) (k : natOkB ys = true) (e : nval xs = nval ys) : xs = ys := by
  rw [natOk_limbs h, natOk_limbs k, e]

theorem nval_drop (xs : List Int) (k : Nat) (h : k < xs.length) : nval (xs.drop k) = xs[k] + 1000000000 * nval (xs.drop (k + 1)) := by
  rw [List.drop_eq_getElem_cons h]
  rfl
/-- a beginning behind which all is zero -/
theorem trim_prefix (xs : List Int) (k : Nat) (hk : k ≤ xs.length) (hz : ∀ j (h : j < xs.length), k ≤ j → xs[j] = 0) (hl : ∀ h : k - 1 < xs.length, 0 < k → xs[k - 1] ≠ 0) : trimL xs = xs.take k := by
  induction xs generalizing k with
  | nil => simp [trimL]
  | cons d r ih =>
    unfold trimL
    cases k with
    | zero =>
      have h0 : d = 0 := hz 0 (by simp) (Nat.le_refl _)
      have hr : trimL r = r.take 0 := ih 0 (Nat.zero_le _) (fun j h _ => hz (j + 1) (by simpa using h) (Nat.zero_le _)) (fun _ h => absurd h (by omega))
      rw [hr, if_pos ⟨by simp, h0⟩]
      rfl
    | succ k =>
      have hr : trimL r = r.take k := ih k (by simpa using hk) (fun j h hj => hz (j + 1) (by simpa using h) (by omega)) (fun h h0 => by
        obtain ⟨m, rfl⟩ : ∃ m, k = m + 1 := ⟨k - 1, by omega⟩
        have hk2 : m + 1 ≤ r.length := by simpa using hk
        exact hl (by show m + 1 < (d :: r).length; rw [List.length_cons]; omega) (by omega))
      rw [hr, List.take_succ_cons, if_neg]
      intro e
      rcases Nat.eq_zero_or_pos k with h0 | h0
      · subst h0
        have := hl (by simp) (by omega)
        exact this (by simpa using e.2)
      · have : (r.take k).length = 0 := by rw [e.1]; rfl
        rw [List.length_take] at this
        simp at hk
        omega

/-! ### order -/
/-- less, equal, greater -/
def cmpI (x y : Int) : Int := if x < y then -1 else if y < x then 1 else 0
theorem nval_short (a b : List Int) (ha : DigN a) (hb : DigN b) (hl : a.length < b.length) (hlast : b.getLastD 1 ≠ 0) : nval a < nval b := by
  induction a generalizing b with
  | nil =>
    have h0 := nval_nonneg b hb
    have hz := nval_zero b hb
    have ht := trim_last b hlast
    have : ¬ nval b = 0 := fun e => by
      have := hz.1 e
      rw [ht] at this
      rw [this] at hl
      simp at hl
    show (0 : Int) < _
    omega
  | cons x a ih =>
    cases b with
    | nil => simp at hl
    | cons y b =>
      have hb1 : b.getLastD 1 ≠ 0 := by
        cases b with
        | nil => simp at hl
        | cons z b => simpa using hlast
      have := ih b ha.tail hb.tail (by simpa using hl) hb1
      have := ha.head
      have := hb.head
      unfold nval
      omega
theorem nval_lt_down (a b : List Int) (ha : DigN a) (hb : DigN b) (hl : a.length = b.length) (k : Nat) (hk : nval (a.drop k) < nval (b.drop k)) : nval a < nval b := by
  induction k with
  | zero => simpa using hk
  | succ k ih =>
    apply ih
    by_cases h : k < a.length
    · rw [nval_drop a k h, nval_drop b k (by omega)]
      have := ha.at_ k h
      have := hb.at_ k (by omega)
      omega
    · rw [List.drop_of_length_le (by omega), List.drop_of_length_le (by omega)] at hk
      exact absurd hk (Int.lt_irrefl _)

/-! ### sums -/
def addL : List Int → List Int → Int → List Int
  | [], [], c => if 0 < c then [c] else []
  | x :: a, [], c => (c + x) % 1000000000 :: addL a [] ((c + x) / 1000000000)
  | [], y :: b, c => (c + y) % 1000000000 :: addL [] b ((c + y) / 1000000000)
  | x :: a, y :: b, c => (c + x + y) % 1000000000 :: addL a b ((c + x + y) / 1000000000)
theorem addL_val (a b : List Int) (c : Int) (ha : DigN a) (hb : DigN b) (h0 : 0 ≤ c) (h1 : c ≤ 1) : nval (addL a b c) = nval a + nval b + c ∧ DigN (addL a b c) ∧ (addL a b c).length ≤ a.length + b.length + 1 := by
  induction a, b, c using addL.induct with
  | case1 c hc => simp only [addL, if_pos hc]; exact ⟨(by simp [nval]), DigN.cons (by omega) (by omega) (fun x hx => by cases hx), by simp⟩
  | case2 c hc => simp only [addL, if_neg hc]; exact ⟨(by simp [nval]; omega), (fun x hx => by cases hx), by simp⟩
  | case3 c x a ih =>
    have hx := ha.head
    obtain ⟨i1, i2, i3⟩ := ih ha.tail hb (by omega) (by omega)
    refine ⟨?_, ?_, ?_⟩
    · simp only [addL, nval] at i1 ⊢; omega
    · simp only [addL]; exact DigN.cons (by omega) (by omega) i2
    · simp only [addL, List.length_cons, List.length_nil] at i3 ⊢; omega
  | case4 c y b ih =>
    have hy := hb.head
    obtain ⟨i1, i2, i3⟩ := ih ha hb.tail (by omega) (by omega)
    refine ⟨?_, ?_, ?_⟩
    · simp only [addL, nval] at i1 ⊢; omega
    · simp only [addL]; exact DigN.cons (by omega) (by omega) i2
    · simp only [addL, List.length_cons, List.length_nil] at i3 ⊢; omega
  | case5 c x a y b ih =>
    have hx := ha.head
    have hy := hb.head
    obtain ⟨i1, i2, i3⟩ := ih ha.tail hb.tail (by omega) (by omega)
    refine ⟨?_, ?_, ?_⟩
    · simp only [addL, nval] at i1 ⊢; omega
    · simp only [addL]; exact DigN.cons (by omega) (by omega) i2
    · simp only [addL, List.length_cons] at i3 ⊢; omega

/-! ### differences -/
def subL : List Int → List Int → Int → List Int
  | [], _, _ => []
  | x :: a, b, c => if x - c - b.headD 0 < 0 then (x - c - b.headD 0 + 1000000000) :: subL a b.tail 1 else (x - c - b.headD 0) :: subL a b.tail 0
theorem subL_val (a b : List Int) (c : Int) (ha : DigN a) (hb : DigN b) (hl : b.length ≤ a.length) (h0 : 0 ≤ c) (h1 : c ≤ 1) (hle : nval b + c ≤ nval a) : nval (subL a b c) = nval a - nval b - c ∧ DigN (subL a b c) ∧ (subL a b c).length = a.length := by
  induction a generalizing b c with
  | nil =>
    have : b = [] := List.eq_nil_of_length_eq_zero (by simpa using hl)
    subst this
    have h3 : (0 : Int) + c ≤ 0 := hle
    refine ⟨?_, (fun x hx => by cases hx), rfl⟩
    show (0 : Int) = 0 - 0 - c
    omega
  | cons x a ih =>
    have hx := ha.head
    have hh : 0 ≤ b.headD 0 ∧ b.headD 0 ≤ 999999999 := by
      cases b with
      | nil => simp
      | cons y b => exact hb.head
    have hv : nval b = b.headD 0 + 1000000000 * nval b.tail := by
      cases b with
      | nil => simp [nval]
      | cons y b => simp [nval]
    have hbt : DigN b.tail := by
      cases b with
      | nil => exact hb
      | cons y b => exact hb.tail
    have hlt : b.tail.length ≤ a.length := by rw [List.length_tail]; simp at hl; omega
    simp only [nval] at hle ⊢
    unfold subL
    by_cases hn : x - c - b.headD 0 < 0
    · obtain ⟨i1, i2, i3⟩ := ih b.tail 1 ha.tail hbt hlt (by omega) (by omega) (by omega)
      rw [if_pos hn]
      exact ⟨by simp only [nval]; omega, DigN.cons (by omega) (by omega) i2, by simp [i3]⟩
    · obtain ⟨i1, i2, i3⟩ := ih b.tail 0 ha.tail hbt hlt (by omega) (by omega) (by omega)
      rw [if_neg hn]
      exact ⟨by simp only [nval]; omega, DigN.cons (by omega) (by omega) i2, by simp [i3]⟩

/-- at most 50 limbs, else none -/
def capL (xs : List Int) : List Int := if 50 < xs.length then [] else xs
/-- what the functions of the chapter answer for a number -/
def natRes (n : Int) : List Int := capL (limbs n.toNat)
end Go.Proofs.YtbfolegllhpkjaaGreatDoor

namespace Go.Proofs.YtbfolegllhpkjaaGreatDoor
open Go.RowKit

/-- ints as cells -/
def intsV (xs : List Int) : List Value := xs.map (Value.int .i64)
theorem intsV_length (xs : List Int) : (intsV xs).length = xs.length := by simp [intsV]
theorem intsV_at (xs : List Int) (k : Nat) (h : k < xs.length) : (intsV xs)[k]? = some (.int .i64 xs[k]) := by simp [intsV, h]

theorem take_same_succ {α : Type} {ss ts : List α} {k : Nat} (h : ss.take k = ts.take k) (h1 : k < ss.length) (h2 : k < ts.length) (e : ss[k] = ts[k]) : ss.take (k + 1) = ts.take (k + 1) := by
  rw [List.take_succ_eq_append_getElem h1, List.take_succ_eq_append_getElem h2, h, e]
theorem ne_of_at {α : Type} {ss ts : List α} {k : Nat} (h1 : k < ss.length) (h2 : k < ts.length) (e : ¬ ss[k] = ts[k]) : ¬ ss = ts := by
  intro h
  subst h
  exact e rfl
theorem same_of_takes {α : Type} {ss ts : List α} {k : Nat} (h : ss.take k = ts.take k) (hl : ss.length = ts.length) (hk : ¬ k < ss.length) : ss = ts := by
  rwa [List.take_of_length_le (by omega), List.take_of_length_le (by omega)] at h


/-- the numbers from m on -/
def marksI (m : Int) (n : Nat) : List Value := (List.range n).map fun i : Nat => Value.int .i64 (m + (i : Int))
theorem marksI_succ (m : Int) (n : Nat) : marksI m (n + 1) = marksI m n ++ [Value.int .i64 (m + (n : Int))] := by
  simp [marksI, List.range_succ]
theorem marksI_length (m : Int) (n : Nat) : (marksI m n).length = n := by simp [marksI]
theorem marksI_get (m : Int) (n k : Nat) (h : k < n) : (marksI m n)[k]? = some (Value.int .i64 (m + (k : Int))) := by simp [marksI, h]
theorem setI_mid (m : Int) (k : Nat) (xs : List Value) (h : k < xs.length) : (marksI m k ++ xs.drop k).set k (Value.int .i64 (m + (k : Int))) = marksI m (k + 1) ++ xs.drop (k + 1) := by
  rw [List.set_append_right _ _ (by rw [marksI_length]; omega), marksI_length, Nat.sub_self, List.drop_eq_getElem_cons h, List.set_cons_zero, marksI_succ, List.append_assoc]
  rfl



theorem intInfo : (Tryz.prog.info? 3).map (fun i => (i.zero, i.size, i.bytes)) = some (some (.int .i64 0), 1, 8) := by kernel_rfl
theorem make_ints (n : Nat) (hn : n ≤ 1099511627776) (W : World) :
    (Instr.makeSlice 23 (.int .i64 (n : Int)) (.int .i64 (n : Int))).run Tryz.prog W = .ok (.slice (some ⟨W.heap.size, 0, none⟩) n n) (W.alloc (.cells (madeCells #[.int .i64 0] n) 3)) := by
  obtain ⟨i0, hi, hz0, hz1, hz2⟩ := info_parts intInfo
  have h := run_make (P := Tryz.prog) W 23 3 i0 (.int .i64 0) Tryz.underlying23 hi hz0 .i64 .i64 (n : Int) (n : Int) (by omega) (by omega) (by rw [hz2]; omega) (by omega)
  rw [hz1, Int.toNat_natCast, Nat.mul_one] at h
  exact h
theorem setI_copy (xs ys : List Value) (k : Nat) (u : Value) (hx : xs.length = ys.length) (h : k < ys.length) (hu : ys[k]? = some u) : (ys.take k ++ xs.drop k).set k u = ys.take (k + 1) ++ xs.drop (k + 1) := by
  have hl : (ys.take k).length = k := by rw [List.length_take]; omega
  have hyk : ys[k] = u := by rw [List.getElem?_eq_getElem h] at hu; injection hu
  rw [List.set_append_right _ _ (by omega), hl, Nat.sub_self, List.drop_eq_getElem_cons (by omega), List.set_cons_zero, List.take_succ_eq_append_getElem h, hyk, List.append_assoc]
  rfl

/-- a new row of ints that the call owns -/
def NewInts (xs : List Int) (w : World) (e : Ending) (w' : World) : Prop :=
  ∃ v, e = .returned v ∧ w'.ownsRow w.heap.size 3 1 v xs.length (intsV xs) ∧ Below w.heap.size w w'

end Go.Proofs.YtbfolegllhpkjaaGreatDoor

namespace Go.Proofs.YtbfolegllhpkjaaGreatDoor
open Go.RowKit

theorem drew_three (w : World) (a b c : Nat) : ∃ q, w.drewN q = ((w.drewN a).drewN b).drewN c := ⟨a + b + c, by rw [World.drewN_drewN, World.drewN_drewN, Nat.add_assoc]⟩
/-- between two bounds -/
def inB (n lo hi : Int) : Bool := decide (lo ≤ n ∧ n ≤ hi)

theorem all_upto (xs : List Int) (k : Nat) (h : (xs.take k).all digB = true) (hk : ¬ k < xs.length) : xs.all digB = true := by
  rwa [List.take_of_length_le (by omega)] at h
theorem all_succ (xs : List Int) (k : Nat) (hk : k < xs.length) (h : (xs.take k).all digB = true) (hd : digB xs[k] = true) : (xs.take (k + 1)).all digB = true := by
  rw [List.take_succ_eq_append_getElem hk, List.all_append, h]
  simp [hd]
theorem not_all (xs : List Int) (k : Nat) (hk : k < xs.length) (hd : digB xs[k] = false) : natOkB xs = false := by
  have : xs.all digB = false := by
    rw [List.all_eq_false]
    exact ⟨xs[k], List.getElem_mem hk, by simp [hd]⟩
  unfold natOkB
  rw [this]
  rfl
theorem ok_nil : natOkB [] = true := rfl
theorem ok_long (xs : List Int) (h : ¬ xs.length ≤ 50) : natOkB xs = false := by
  unfold natOkB
  rw [decide_eq_false h, Bool.false_and, Bool.and_false]
theorem last_at (xs : List Int) (h : xs.length - 1 < xs.length) : xs.getLastD 1 = xs[xs.length - 1] := by
  rw [List.getLastD_eq_getLast?, List.getLast?_eq_getElem?, List.getElem?_eq_getElem h]
  rfl
theorem ok_last (xs : List Int) (ha : xs.all digB = true) (hl : xs.length ≤ 50) (h : xs.length - 1 < xs.length) : (xs[xs.length - 1] != 0) = natOkB xs := by
  unfold natOkB
  rw [ha, decide_eq_true hl, Bool.true_and, Bool.true_and, last_at xs h]
  by_cases e : xs[xs.length - 1] = 0
  · rw [e]; rfl
  · rw [decide_eq_true e, bne_iff_ne]; exact e


theorem cmp_lt {x y : Int} (h : x < y) : cmpI x y = -1 := by unfold cmpI; rw [if_pos h]
theorem cmp_gt {x y : Int} (h : y < x) : cmpI x y = 1 := by unfold cmpI; rw [if_neg (by omega), if_pos h]
theorem cmp_eq {x y : Int} (h : x = y) : cmpI x y = 0 := by unfold cmpI; rw [if_neg (by omega), if_neg (by omega)]
theorem drop_same (a b : List Int) (k : Nat) (ha : k < a.length) (hb : k < b.length) (h : a.drop (k + 1) = b.drop (k + 1)) (e : a[k] = b[k]) : a.drop k = b.drop k := by
  rw [List.drop_eq_getElem_cons ha, List.drop_eq_getElem_cons hb, h, e]


theorem ok_dig {xs : List Int} (h : natOkB xs = true) : DigN xs ∧ xs.getLastD 1 ≠ 0 := ⟨(natOk_parts h).1, (natOk_parts h).2.2⟩
/-- what NatCmp answers -/
def cmpN (a b : List Int) : Int := if natOkB a = true ∧ natOkB b = true then cmpI (nval a) (nval b) else 0


/-- the first k of a row that the call owns -/
theorem own_take {w : World} {base n : Nat} {e : TypeId} {A : Option Addr} {c : Nat} {xs : List Value} (k : Nat) (hk : k ≤ n) (h : w.ownsRow base e 1 (.slice A n c) n xs) : w.ownsRow base e 1 (.slice A k c) k (xs.take k) := by
  obtain ⟨hl, ⟨h1, h2⟩ | ⟨g, cap, cur, e1, hb, hh, hn, hc, hs, ht⟩⟩ := h
  · cases h1
    obtain rfl : k = 0 := by omega
    exact ⟨by simp, .inl ⟨rfl, rfl⟩⟩
  · obtain ⟨rfl, rfl⟩ : A = some ⟨g, 0, none⟩ ∧ cap = c := by cases e1; exact ⟨rfl, rfl⟩
    refine ⟨by rw [List.length_take]; omega, .inr ⟨g, cap, cur, rfl, hb, hh, by omega, hc, hs, ?_⟩⟩
    rw [← ht, List.take_take]
    congr 1
    omega
theorem intsV_take (xs : List Int) (k : Nat) : (intsV xs).take k = intsV (xs.take k) := by simp [intsV, List.map_take]

/-- the first elements of an own row of ints, handed back -/
def OwnPost (base : Nat) (ys : List Int) (w : World) (e : Ending) (w' : World) : Prop :=
  w = w' ∧ ∃ v, e = .returned v ∧ w.ownsRow base 3 1 v ys.length (intsV ys)

/-- the first elements of an own row of ints, told by its address -/
def TrimPost (A : Option Addr) (c base : Nat) (ys : List Int) (w : World) (e : Ending) (w' : World) : Prop :=
  w = w' ∧ e = .returned (.slice A ys.length c) ∧ w.ownsRow base 3 1 (.slice A ys.length c) ys.length (intsV ys)
set_option maxHeartbeats 400000 in
set_option maxRecDepth 100000 in
theorem specTrim_at (A : Option Addr) (c : Nat) (xs : List Int) (base : Nat) (w : World) (hl : xs.length ≤ 1048576) (ho : w.ownsRow base 3 1 (.slice A xs.length c) xs.length (intsV xs)) :
    Calls Tryz.prog 113 #[.slice A xs.length c] w (TrimPost A c base (trimL xs) w) := by
  have hA : ∀ j u, (intsV xs)[j]? = some u → ∃ a : Addr, A = some a ∧ base ≤ a.block ∧ a.block < w.heap.size ∧ w.cell? (a.add j) = some u := by
    obtain ⟨A', c', e1, hA⟩ := Row.of_own ho
    injection e1 with e1 e2 e3
    subst e1
    exact hA
  have HA := Lib.hid hA
  have HO := Lib.hid ho
  have hcap : xs.length ≤ c := by
    rcases ho.2 with ⟨h1, h2⟩ | ⟨g, cap, cur, e1, _, _, hn, _⟩
    · omega
    · injection e1 with _ _ e3; omega
  clear hA ho
  go_enter Tryz.func113, Tryz.ntmps113
  go_wp2
  go_loop [3] (fun n => ∃ k : Nat, k ≤ xs.length ∧ n = .int .i64 k ∧ Hid (∀ j (h : j < xs.length), k ≤ j → xs[j] = 0)) (fun n => (intOf n).toNat)
  case atStart => exact ⟨xs.length, Nat.le_refl _, rfl, Lib.hid (fun j h hj => absurd h (by omega))⟩
  case round =>
    obtain ⟨k, hk, rfl, HZ⟩ := hrel
    by_cases h0 : 0 < k
    · obtain ⟨m, rfl⟩ : ∃ m, k = m + 1 := ⟨k - 1, by omega⟩
      have hlt : m < xs.length := by omega
      obtain ⟨a, rfl, _, _, hca⟩ := HA.out m _ (intsV_at xs m hlt)
      by_cases hz : xs[m] = 0
      · have hzb : (xs[m] == 0) = true := by rw [beq_iff_eq]; exact hz
        have HN : Hid (∀ j (h : j < xs.length), m ≤ j → xs[j] = 0) := Lib.hid (fun j h hj => by
          by_cases e : j = m
          · subst e; exact hz
          · exact HZ.out j h (by omega))
        clear hz
        go_wp2
        go_round
        case rel => exact ⟨m, by omega, rfl, HN⟩
        case measure => simp [intOf]
      · have hzb : (xs[m] == 0) = false := by rw [beq_eq_false_iff_ne]; exact hz
        have HT := Lib.hid (trim_prefix xs (m + 1) hk HZ.out (fun _ _ => hz))
        clear hz
        go_wp2
        go_ret
        refine ⟨rfl, ?_⟩
        rw [HT.out, ← intsV_take, List.length_take, show min (m + 1) xs.length = m + 1 from by omega]
        exact ⟨rfl, own_take (m + 1) hk HO.out⟩
    · obtain rfl : k = 0 := by omega
      have HT := Lib.hid (trim_prefix xs 0 hk HZ.out (fun _ h => absurd h (by omega)))
      go_wp2
      go_ret
      refine ⟨rfl, ?_⟩
      rw [HT.out, ← intsV_take, List.length_take, Nat.zero_min]
      exact ⟨rfl, own_take 0 hk HO.out⟩
theorem specTrim_any (v : Value) (xs : List Int) (base : Nat) (w : World) (hl : xs.length ≤ 1048576) (ho : w.ownsRow base 3 1 v xs.length (intsV xs)) :
    Calls Tryz.prog 113 #[v] w (OwnPost base (trimL xs) w) := by
  obtain ⟨A, c, rfl⟩ := own_len ho
  refine (specTrim_at A c xs base w hl ho).mono ?_
  rintro e w' ⟨rfl, rfl, h⟩
  exact ⟨rfl, _, rfl, h⟩

theorem trimL_length (xs : List Int) : (trimL xs).length ≤ xs.length := by
  induction xs with
  | nil => exact Nat.le_refl _
  | cons d r ih =>
    unfold trimL
    split
    · simp
    · simp; omega
set_option maxHeartbeats 400000 in
set_option maxRecDepth 100000 in
theorem specCap_any (v : Value) (xs : List Int) (base : Nat) (w : World) (hl : xs.length ≤ 1048576) (ho : w.ownsRow base 3 1 v xs.length (intsV xs)) :
    Calls Tryz.prog 112 #[v] w (OwnPost base (capL (trimL xs)) w) := by
  have hlt := trimL_length xs
  by_cases h50 : 50 < (trimL xs).length
  · have HC := Lib.hid (show capL (trimL xs) = [] by unfold capL; rw [if_pos h50])
    go_enter Tryz.func112, Tryz.ntmps112
    go_wp2_with fail
    refine (specTrim_any v xs base _ hl ho).mono ?_
    rintro e w' ⟨rfl, v', rfl, ho'⟩
    obtain ⟨A, c, rfl⟩ := own_len ho'
    go_wp2
    go_ret
    exact ⟨rfl, _, rfl, by rw [HC.out]; exact ⟨rfl, .inl ⟨rfl, rfl⟩⟩⟩
  · have HC := Lib.hid (show capL (trimL xs) = trimL xs by unfold capL; rw [if_neg h50])
    go_enter Tryz.func112, Tryz.ntmps112
    go_wp2_with fail
    refine (specTrim_any v xs base _ hl ho).mono ?_
    rintro e w' ⟨rfl, v', rfl, ho'⟩
    obtain ⟨A, c, rfl⟩ := own_len ho'
    go_wp2
    go_ret
    exact ⟨rfl, _, rfl, by rw [HC.out]; exact ho'⟩

/-! ### l02Add -/
theorem addL_both (a b : List Int) (i : Nat) (c : Int) (h1 : i < a.length) (h2 : i < b.length) : addL (a.drop i) (b.drop i) c = (c + a[i] + b[i]) % 1000000000 :: addL (a.drop (i + 1)) (b.drop (i + 1)) ((c + a[i] + b[i]) / 1000000000) := by
  rw [List.drop_eq_getElem_cons h1, List.drop_eq_getElem_cons h2, addL]
theorem addL_left (a b : List Int) (i : Nat) (c : Int) (h1 : i < a.length) (h2 : ¬ i < b.length) : addL (a.drop i) (b.drop i) c = (c + a[i]) % 1000000000 :: addL (a.drop (i + 1)) (b.drop (i + 1)) ((c + a[i]) / 1000000000) := by
  rw [List.drop_eq_getElem_cons h1, List.drop_of_length_le (l := b) (by omega), List.drop_of_length_le (l := b) (by omega), addL]
theorem addL_right (a b : List Int) (i : Nat) (c : Int) (h1 : ¬ i < a.length) (h2 : i < b.length) : addL (a.drop i) (b.drop i) c = (c + b[i]) % 1000000000 :: addL (a.drop (i + 1)) (b.drop (i + 1)) ((c + b[i]) / 1000000000) := by
  rw [List.drop_eq_getElem_cons h2, List.drop_of_length_le (l := a) (by omega), List.drop_of_length_le (l := a) (by omega), addL]
theorem addL_end (a b : List Int) (i : Nat) (c : Int) (h1 : ¬ i < a.length) (h2 : ¬ i < b.length) : addL (a.drop i) (b.drop i) c = if 0 < c then [c] else [] := by
  rw [List.drop_of_length_le (by omega), List.drop_of_length_le (by omega), addL]

/-- what the loop of l02Add knows at its head -/
def AddRel (a b : List Int) (w : World) (v c i : Value) (wr : World) : Prop :=
  ∃ (k : Nat) (cr : Int) (out : List Int), k ≤ a.length + b.length + 1 ∧ i = .int .i64 k ∧ c = .int .i64 cr ∧ 0 ≤ cr ∧ cr ≤ 1 ∧ out.length = k ∧ out ++ addL (a.drop k) (b.drop k) cr = addL a b 0 ∧
    wr.ownsRow w.heap.size 3 1 v out.length (intsV out) ∧ Below w.heap.size w wr
theorem add_step {a b out : List Int} {w w1 : World} {v1 : Value} {k : Nat} {n : Int} (hk : k + 1 ≤ a.length + b.length + 1) (h0 : 0 ≤ n / 1000000000) (h1 : n / 1000000000 ≤ 1) (hl : out.length = k) (e : out ++ n % 1000000000 :: addL (a.drop (k + 1)) (b.drop (k + 1)) (n / 1000000000) = addL a b 0)
    (ho : w1.ownsRow w.heap.size 3 1 v1 (out.length + 1) (intsV out ++ [.int .i64 (n % 1000000000)])) (hb : Below w.heap.size w w1) : AddRel a b w v1 (.int .i64 (n / 1000000000)) (.int .i64 ((k : Int) + 1)) w1 := by
  refine ⟨k + 1, n / 1000000000, out ++ [n % 1000000000], hk, by go_num, rfl, h0, h1, by simp [hl], by rw [List.append_assoc]; exact e, ?_, hb⟩
  simpa [intsV] using ho

end Go.Proofs.YtbfolegllhpkjaaGreatDoor

namespace Go.Proofs.YtbfolegllhpkjaaGreatDoor
open Go.RowKit

/-- what NatAdd, NatSub and NatMul answer -/
def addN (a b : List Int) : List Int := if natOkB a = true ∧ natOkB b = true then natRes (nval a + nval b) else []
def subN (a b : List Int) : List Int := if natOkB a = true ∧ natOkB b = true then natRes (nval a - nval b) else []
def mulN (a b : List Int) : List Int := if natOkB a = true ∧ natOkB b = true then natRes (nval a * nval b) else []
theorem res_of {n : Int} {xs : List Int} (h : DigN xs) (e : nval xs = n) : capL (trimL xs) = natRes n := by
  unfold natRes
  rw [trim_limbs xs h, e]
theorem nil_own {w : World} {base : Nat} {e : TypeId} : w.ownsRow base e 1 (.slice none 0 0) 0 [] := ⟨rfl, .inl ⟨rfl, rfl⟩⟩
theorem new_nil {w w' : World} (hb : Below w.heap.size w w') : NewInts [] w (.returned (.slice none 0 0)) w' := ⟨_, rfl, nil_own, hb⟩
theorem new_of {w w1 w2 : World} {xs : List Int} {v : Value} (h : NewInts xs w1 (.returned v) w2) (hb : Below w.heap.size w w1) : NewInts xs w (.returned v) w2 := by
  obtain ⟨v', e, ho, hb2⟩ := h
  cases e
  have hs := hb.size
  refine ⟨v, rfl, ?_, Below.next hb hb2⟩
  obtain ⟨hl, h | ⟨g, cap, cur, e1, hg, r⟩⟩ := ho
  · exact ⟨hl, .inl h⟩
  · exact ⟨hl, .inr ⟨g, cap, cur, e1, by omega, r⟩⟩
theorem own_lower {w : World} {base base' n : Nat} {e : TypeId} {v : Value} {xs : List Value} (h : w.ownsRow base e 1 v n xs) (hb : base' ≤ base) : w.ownsRow base' e 1 v n xs := by
  obtain ⟨hl, h | ⟨g, cap, cur, e1, hg, r⟩⟩ := h
  · exact ⟨hl, .inl h⟩
  · exact ⟨hl, .inr ⟨g, cap, cur, e1, by omega, r⟩⟩





/-! ### l02Sub -/
theorem subL_drop (a b : List Int) (i : Nat) (c : Int) (h1 : i < a.length) : subL (a.drop i) (b.drop i) c = if a[i] - c - b.getD i 0 < 0 then (a[i] - c - b.getD i 0 + 1000000000) :: subL (a.drop (i + 1)) (b.drop (i + 1)) 1 else (a[i] - c - b.getD i 0) :: subL (a.drop (i + 1)) (b.drop (i + 1)) 0 := by
  have hh : (b.drop i).headD 0 = b.getD i 0 := by
    rw [List.headD_eq_head?_getD, List.head?_drop, List.getD_eq_getElem?_getD]
  have ht : (b.drop i).tail = b.drop (i + 1) := by rw [List.tail_drop]
  rw [List.drop_eq_getElem_cons h1, subL, hh, ht]
theorem getD_in (b : List Int) (i : Nat) (h : i < b.length) : b.getD i 0 = b[i] := by
  rw [List.getD_eq_getElem?_getD, List.getElem?_eq_getElem h]
  rfl
theorem getD_out (b : List Int) (i : Nat) (h : ¬ i < b.length) : b.getD i 0 = 0 := by
  rw [List.getD_eq_getElem?_getD, List.getElem?_eq_none (by omega)]
  rfl
/-- what the loop of l02Sub knows at its head -/
def SubRel (a b : List Int) (w : World) (v c i : Value) (wr : World) : Prop :=
  ∃ (k : Nat) (cr : Int) (out : List Int), k ≤ a.length ∧ i = .int .i64 k ∧ c = .int .i64 cr ∧ 0 ≤ cr ∧ cr ≤ 1 ∧ out.length = k ∧ out ++ subL (a.drop k) (b.drop k) cr = subL a b 0 ∧
    wr.ownsRow w.heap.size 3 1 v out.length (intsV out) ∧ Below w.heap.size w wr
theorem sub_step {a b out : List Int} {w w1 : World} {v1 : Value} {k : Nat} {n c : Int} (hk : k + 1 ≤ a.length) (h0 : 0 ≤ c) (h1 : c ≤ 1) (hl : out.length = k) (e : out ++ n :: subL (a.drop (k + 1)) (b.drop (k + 1)) c = subL a b 0)
    (ho : w1.ownsRow w.heap.size 3 1 v1 (out.length + 1) (intsV out ++ [.int .i64 n])) (hb : Below w.heap.size w w1) : SubRel a b w v1 (.int .i64 c) (.int .i64 ((k : Int) + 1)) w1 := by
  refine ⟨k + 1, c, out ++ [n], hk, by go_num, rfl, h0, h1, by simp [hl], by rw [List.append_assoc]; exact e, ?_, hb⟩
  simpa [intsV] using ho


theorem capL_trim_sub (a b : List Int) (h : (subL a b 0).length ≤ 50) : capL (trimL (subL a b 0)) = trimL (subL a b 0) := by
  have := trimL_length (subL a b 0)
  unfold capL
  rw [if_neg (by omega)]
theorem natRes_neg (n : Int) (h : n < 0) : natRes n = [] := by
  unfold natRes
  rw [show n.toNat = 0 from by omega, limbs, dif_pos rfl]
  rfl
theorem len_of_le (a b : List Int) (ha : DigN a) (hb : DigN b ∧ b.getLastD 1 ≠ 0) (h : nval b ≤ nval a) : b.length ≤ a.length := by
  rcases Nat.lt_or_ge a.length b.length with hl | hl
  · have := nval_short a b ha hb.1 hl hb.2
    omega
  · exact hl
end Go.Proofs.YtbfolegllhpkjaaGreatDoor

namespace Go.Proofs.YtbfolegllhpkjaaGreatDoor
open Go.RowKit

/-- one row of the school method: x times b added into R -/
def rowL (x : Int) : List Int → List Int → Int → List Int
  | [], _ :: R, c => c :: R
  | [], [], _ => []
  | y :: b, r :: R, c => (r + x * y + c) % 1000000000 :: rowL x b R ((r + x * y + c) / 1000000000)
  | _ :: _, [], _ => []
/-- all rows -/
def mulL : List Int → List Int → List Int → List Int
  | [], _, R => R
  | x :: a, b, R => (rowL x b R 0).headD 0 :: mulL a b (rowL x b R 0).tail
theorem mul_bound (x y : Int) (hx0 : 0 ≤ x) (hx1 : x ≤ 999999999) (hy0 : 0 ≤ y) (hy1 : y ≤ 999999999) : 0 ≤ x * y ∧ x * y ≤ 999999998000000001 := by
  refine ⟨Int.mul_nonneg hx0 hy0, ?_⟩
  have h : x * y ≤ 999999999 * 999999999 := Int.mul_le_mul hx1 hy1 hy0 (by omega)
  omega
theorem rowL_val (x : Int) (hx0 : 0 ≤ x) (hx1 : x ≤ 999999999) : ∀ (b R : List Int) (c : Int), DigN b → DigN R → b.length < R.length → (∀ d ∈ R.drop b.length, d = 0) → 0 ≤ c → c ≤ 999999999 →
    nval (rowL x b R c) = nval R + x * nval b + c ∧ DigN (rowL x b R c) ∧ (rowL x b R c).length = R.length ∧ ∀ d ∈ (rowL x b R c).drop (b.length + 1), d = 0 := by
  intro b
  induction b with
  | nil =>
    intro R c _ hR hl hz h0 h1
    cases R with
    | nil => simp at hl
    | cons r R =>
      have hr : r = 0 := hz r (by simp)
      subst hr
      refine ⟨?_, DigN.cons h0 h1 hR.tail, rfl, fun d hd => hz d (by simp at hd ⊢; exact .inr hd)⟩
      show c + 1000000000 * nval R = (0 + 1000000000 * nval R) + x * 0 + c
      omega
  | cons y b ih =>
    intro R c hb hR hl hz h0 h1
    cases R with
    | nil => simp at hl
    | cons r R =>
      have hm := mul_bound x y hx0 hx1 hb.head.1 hb.head.2
      have hr := hR.head
      have hy := hb.head
      obtain ⟨i1, i2, i3, i4⟩ := ih R ((r + x * y + c) / 1000000000) hb.tail hR.tail (by simpa using hl) (fun d hd => hz d (by simpa using hd)) (by omega) (by omega)
      refine ⟨?_, DigN.cons (by omega) (by omega) i2, by simp [rowL, i3], fun d hd => i4 d (by simpa [rowL] using hd)⟩
      show (r + x * y + c) % 1000000000 + 1000000000 * nval (rowL x b R ((r + x * y + c) / 1000000000)) = (r + 1000000000 * nval R) + x * (y + 1000000000 * nval b) + c
      have hd : x * (y + 1000000000 * nval b) = x * y + 1000000000 * (x * nval b) := by rw [Int.mul_add, Int.mul_left_comm]
      rw [hd, i1]
      omega
theorem mulL_val (b : List Int) (hb : DigN b) : ∀ (a R : List Int), DigN a → DigN R → R.length = a.length + b.length → (∀ d ∈ R.drop b.length, d = 0) →
    nval (mulL a b R) = nval R + nval a * nval b ∧ DigN (mulL a b R) ∧ (mulL a b R).length = R.length := by
  intro a
  induction a with
  | nil =>
    intro R _ hR _ _
    refine ⟨?_, hR, rfl⟩
    show nval R = nval R + 0 * nval b
    omega
  | cons x a ih =>
    intro R ha hR hl hz
    obtain ⟨i1, i2, i3, i4⟩ := rowL_val x ha.head.1 ha.head.2 b R 0 hb hR (by simp at hl; omega) hz (by omega) (by omega)
    unfold mulL
    cases hrow : rowL x b R 0 with
    | nil => rw [hrow] at i3; simp at hl i3; omega
    | cons h T =>
      rw [hrow] at i1 i2 i3 i4
      obtain ⟨j1, j2, j3⟩ := ih T ha.tail i2.tail (by simp at i3 hl; omega) (fun d hd => i4 d (by simpa using hd))
      refine ⟨?_, DigN.cons i2.head.1 i2.head.2 j2, by simp [j3]; simpa using i3⟩
      show h + 1000000000 * nval (mulL a b T) = nval R + (x + 1000000000 * nval a) * nval b
      have hd : (x + 1000000000 * nval a) * nval b = x * nval b + 1000000000 * (nval a * nval b) := by rw [Int.add_mul, Int.mul_assoc]
      have i1' : h + 1000000000 * nval T = nval R + x * nval b + 0 := i1
      rw [hd, j1]
      omega

theorem rowL_drop (x : Int) (b O : List Int) (j m : Nat) (c : Int) (hj : j < b.length) (hm : m < O.length) : rowL x (b.drop j) (O.drop m) c = (O[m] + x * b[j] + c) % 1000000000 :: rowL x (b.drop (j + 1)) (O.drop (m + 1)) ((O[m] + x * b[j] + c) / 1000000000) := by
  rw [List.drop_eq_getElem_cons hj, List.drop_eq_getElem_cons hm, rowL]
theorem set_split (O : List Int) (m : Nat) (u : Int) (h : m < O.length) : (O.set m u).take (m + 1) = O.take m ++ [u] ∧ (O.set m u).drop (m + 1) = O.drop (m + 1) ∧ O.set m u = O.take m ++ u :: O.drop (m + 1) := by
  refine ⟨?_, ?_, List.set_eq_take_append_cons_drop .. |>.trans (by rw [if_pos h])⟩
  · rw [List.take_succ_eq_append_getElem (by simpa using h), List.take_set_of_le (Nat.le_refl _), List.getElem_set_self]
  · rw [List.drop_set_of_lt (by omega)]
theorem intsV_set (O : List Int) (m : Nat) (u : Int) : (intsV O).set m (.int .i64 u) = intsV (O.set m u) := by simp [intsV, List.map_set]
theorem DigN.setM {O : List Int} (h : DigN O) (m : Nat) (u : Int) (h0 : 0 ≤ u) (h1 : u ≤ 999999999) : DigN (O.set m u) := by
  intro d hd
  rcases List.mem_or_eq_of_mem_set hd with hd | rfl
  · exact h d hd
  · exact ⟨h0, h1⟩

theorem make_sum (m n : Nat) (hm : m ≤ 1048576) (hn : n ≤ 1048576) (W : World) :
    (Instr.makeSlice 23 (.int .i64 ((m : Int) + (n : Int))) (.int .i64 ((m : Int) + (n : Int)))).run Tryz.prog W = .ok (.slice (some ⟨W.heap.size, 0, none⟩) (m + n) (m + n)) (W.alloc (.cells (madeCells #[.int .i64 0] (m + n)) 3)) := by
  have h := make_ints (m + n) (by omega) W
  rwa [Int.natCast_add] at h

/-- what the outer loop of l02Mul knows: O is what has been written -/
def MulRel (a b : List Int) (w : World) (i : Value) (wr : World) : Prop :=
  ∃ (k : Nat) (O : List Int), k ≤ a.length ∧ i = .int .i64 k ∧ O.length = a.length + b.length ∧ DigN O ∧ O.take k ++ mulL (a.drop k) b (O.drop k) = mulL a b (List.replicate (a.length + b.length) 0) ∧
    wr.ownsRow w.heap.size 3 1 (.slice (some ⟨w.heap.size, 0, none⟩) (a.length + b.length) (a.length + b.length)) (a.length + b.length) (intsV O) ∧ Below w.heap.size w wr
theorem rowL_nil (x : Int) (O : List Int) (m : Nat) (c : Int) (h : m < O.length) : rowL x [] (O.drop m) c = c :: O.drop (m + 1) := by
  rw [List.drop_eq_getElem_cons h, rowL]
/-- what the inner loop knows: T is what the row comes to -/
def RowRel (b : List Int) (x : Int) (k n : Nat) (T : List Int) (w : World) (cr i : Value) (wr : World) : Prop :=
  ∃ (j : Nat) (c : Int) (O : List Int), j ≤ b.length ∧ i = .int .i64 j ∧ cr = .int .i64 c ∧ 0 ≤ c ∧ c ≤ 999999999 ∧ O.length = n ∧ DigN O ∧ O.take (k + j) ++ rowL x (b.drop j) (O.drop (k + j)) c = T ∧
    wr.ownsRow w.heap.size 3 1 (.slice (some ⟨w.heap.size, 0, none⟩) n n) n (intsV O) ∧ Below w.heap.size w wr
theorem mul_next (a b O T : List Int) (k : Nat) (hk : k < a.length) (hO : k < O.length) (hT : O.take k ++ rowL a[k] b (O.drop k) 0 = T) (hr : 0 < (rowL a[k] b (O.drop k) 0).length) :
    T.take (k + 1) ++ mulL (a.drop (k + 1)) b (T.drop (k + 1)) = O.take k ++ mulL (a.drop k) b (O.drop k) := by
  have hlt : (O.take k).length = k := by rw [List.length_take]; omega
  rw [List.drop_eq_getElem_cons hk, mulL]
  cases hrow : rowL a[k] b (O.drop k) 0 with
  | nil => rw [hrow] at hr; simp at hr
  | cons h R =>
    rw [hrow] at hT
    have e1 : (O.take k ++ h :: R).take (k + 1) = O.take k ++ [h] := by
      rw [List.take_append, hlt, show k + 1 - k = 1 from by omega, List.take_of_length_le (l := O.take k) (by omega)]
      rfl
    have e2 : (O.take k ++ h :: R).drop (k + 1) = R := by
      rw [List.drop_append, hlt, show k + 1 - k = 1 from by omega, List.drop_of_length_le (l := O.take k) (by omega)]
      rfl
    rw [← hT, e1, e2, List.append_assoc]
    rfl


theorem limbs_zero : limbs 0 = [] := by rw [limbs, dif_pos rfl]
theorem mul_val' (a b : List Int) (ha : DigN a) (hb : DigN b) : nval (mulL a b (List.replicate (a.length + b.length) 0)) = nval a * nval b ∧ DigN (mulL a b (List.replicate (a.length + b.length) 0)) ∧ (mulL a b (List.replicate (a.length + b.length) 0)).length = a.length + b.length := by
  have hz : ∀ n, nval (List.replicate n 0) = 0 := by
    intro n
    induction n with
    | zero => rfl
    | succ n ih => rw [List.replicate_succ]; show (0 : Int) + 1000000000 * nval (List.replicate n 0) = 0; omega
  have h := mulL_val b hb a (List.replicate (a.length + b.length) 0) ha (fun d hd => by rw [(List.mem_replicate.1 hd).2]; omega) (by simp) (fun d hd => (List.mem_replicate.1 (List.mem_of_mem_drop hd)).2)
  rw [hz, List.length_replicate] at h
  exact ⟨by rw [h.1]; omega, h.2⟩
theorem trim_trim (xs : List Int) (h : DigN xs) : trimL (trimL xs) = trimL xs ∧ DigN (trimL xs) := by
  induction xs with
  | nil => exact ⟨rfl, h⟩
  | cons d r ih =>
    obtain ⟨i1, i2⟩ := ih h.tail
    by_cases hc : trimL r = [] ∧ d = 0
    · have e : trimL (d :: r) = [] := by show (if _ then _ else _) = _; rw [if_pos hc]
      rw [e]
      exact ⟨rfl, fun x hx => by cases hx⟩
    · have e : trimL (d :: r) = d :: trimL r := by show (if _ then _ else _) = _; rw [if_neg hc]
      rw [e]
      refine ⟨?_, DigN.cons h.head.1 h.head.2 i2⟩
      show (if _ then _ else _) = _
      rw [i1, if_neg hc]


end Go.Proofs.YtbfolegllhpkjaaGreatDoor

namespace Go.Proofs.YtbfolegllhpkjaaGreatDoor
open Go.RowKit

theorem limbs_pos (n : Nat) (h : n ≠ 0) : limbs n = ((n % 1000000000 : Nat) : Int) :: limbs (n / 1000000000) := by rw [limbs, dif_neg h]
theorem limbs_none : limbs 0 = [] := by rw [limbs, dif_pos rfl]
theorem Row.lit (w : World) (cs : Array Value) (t : TypeId) : Row (w.alloc (.cells cs t)) w.heap.size (w.heap.size + 1) (.slice (some ⟨w.heap.size, 0, none⟩) cs.size cs.size) cs.toList := by
  refine ⟨_, _, rfl, fun j u hu => ⟨_, rfl, Nat.le_refl _, Nat.lt_succ_self _, ?_⟩⟩
  have e1 : (Addr.add ⟨w.heap.size, 0, none⟩ j) = ⟨w.heap.size, j, none⟩ := by
    unfold Addr.add
    split
    · simp_all
    · simp
  rw [e1, World.cell?_alloc_at _ _ _ _ rfl]
  simpa using hu

set_option maxHeartbeats 400000 in
set_option maxRecDepth 100000 in
theorem specNatOf_any (n : Int) (w : World) (h1 : n ≤ 9223372036854775807) :
    Calls Tryz.prog 110 #[.int .i64 n] w (NewInts (limbs n.toNat) w) := by
  obtain ⟨i0, hi, hz0, hz1, hz2⟩ := info_parts intInfo
  go_enter Tryz.func110, Tryz.ntmps110
  go_wp2
  go_loopw [0, 3] (fun a v wr => ∃ (m : Int) (out : List Int) (f : Nat), m ≤ 9223372036854775807 ∧ out.length + f ≤ 3 ∧ m < 1000000000 ^ f ∧ a = .int .i64 m ∧ Hid (out ++ limbs m.toNat = limbs n.toNat) ∧ wr.ownsRow w.heap.size 3 1 v out.length (intsV out) ∧ Below w.heap.size w wr) (fun a _ _ => (intOf a).toNat)
  case atStart => exact ⟨n, [], 3, h1, by simp, by omega, rfl, Lib.hid rfl, ⟨rfl, .inr ⟨w.heap.size, 0, #[], rfl, Nat.le_refl _, heap_alloc_new w _, Nat.le_refl _, Nat.zero_le _, rfl, rfl⟩⟩, (Below.refl _ _).alloc (Nat.le_refl _) _⟩
  case round =>
    obtain ⟨m, out, f, hm, hol, hmf, rfl, HE, hown, hb1⟩ := hrel
    by_cases h0 : 0 < m
    · obtain ⟨g, rfl⟩ : ∃ g, f = g + 1 := by
        cases f with
        | zero => simp at hmf; omega
        | succ g => exact ⟨g, rfl⟩
      have hmg : m / 1000000000 < 1000000000 ^ g := by
        rw [Int.pow_succ] at hmf
        exact Int.ediv_lt_of_lt_mul (by omega) hmf
      have HS : Hid (out ++ [m % 1000000000] ++ limbs (m / 1000000000).toNat = limbs n.toNat) := Lib.hid (by
        have e := HE.out
        rw [limbs_pos m.toNat (by omega)] at e
        rw [List.append_assoc, ← e, show ((m.toNat % 1000000000 : Nat) : Int) = m % 1000000000 from by omega, show m.toNat / 1000000000 = (m / 1000000000).toNat from by omega]
        rfl)
      clear hmf
      go_wp2_with (at_builtin; refine wpList_append_own _ rfl (.tmp 7) (.tmp 10) 23 rfl w.heap.size 3 i0 (.int .i64 0) 1 8 Tryz.underlying23 hi hz0 hz1 hz2 rfl (by decide) _ _ _ rfl (own_alloc hown _) ⟨wr.heap.size, 0, none⟩ 1 1 [.int .i64 (m % 1000000000)] rfl rfl (one_new _ _ _) ?c2 ?c3 ?c4 ?c5 ?_)
      case c2 => first | (intro u hu; simp at hu; subst hu; rfl) | rfl
      case c3 => unfold maxLen; omega
      case c4 => omega
      case c5 => have := hb1.size; simp; omega
      intro v1 w1 hown1 hg1 _
      have hb2 := below_push hb1 (Nat.le_refl _) hown hg1
      go_wp2
      exact ⟨⟨m / 1000000000, out ++ [m % 1000000000], g, by omega, by simp; omega, hmg, rfl, HS, by simpa [intsV] using hown1, hb2⟩, by simp [intOf]; omega⟩
    · have HF : Hid (out = limbs n.toNat) := Lib.hid (by have e := HE.out; rwa [show m.toNat = 0 from by omega, limbs_none, List.append_nil] at e)
      go_wp2
      go_ret
      exact ⟨_, rfl, by rw [← HF.out]; exact hown, hb1⟩

/-- what NatInt answers -/
def natIntN (a : List Int) : Int × Bool := if natOkB a = true ∧ nval a ≤ 9223372036854775807 then (nval a, true) else (0, false)
def TwoPost (r : Int × Bool) (w : World) (e : Ending) (w' : World) : Prop := e = .returned (.tuple #[.int .i64 r.1, .bool r.2]) ∧ Below w.heap.size w w'
theorem nval_drop_le (a : List Int) (ha : DigN a) (k : Nat) : nval (a.drop k) ≤ nval a := by
  induction k with
  | zero => simp
  | succ k ih =>
    by_cases h : k < a.length
    · have h1 := nval_drop a k h
      have h2 := ha.at_ k h
      have h3 := nval_nonneg (a.drop (k + 1)) (ha.drop _)
      omega
    · rw [List.drop_of_length_le (by omega)]
      exact nval_nonneg a ha
theorem max_nat : nval [854775807, 223372036, 9] = 9223372036854775807 := by simp [nval]
theorem max_dig : DigN [854775807, 223372036, 9] ∧ [854775807, 223372036, (9 : Int)].getLastD 1 ≠ 0 := by
  refine ⟨fun d hd => ?_, by decide⟩
  simp at hd
  omega

end Go.Proofs.YtbfolegllhpkjaaGreatDoor

namespace Go.Proofs.YtbfolegllhpkjaaGreatDoor
open Go.RowKit

/-- a fact of a world that leans on the blocks S alone -/
structure At (S : List Nat) (φ : World → Prop) (w : World) : Prop where
  here : φ w
  lt : ∀ g ∈ S, g < w.heap.size
  stays : ∀ w' : World, (∀ g ∈ S, w'.heap[g]? = w.heap[g]?) → φ w'

section
variable {S T : List Nat} {φ : World → Prop} {w w' w1 w2 : World} {B : Nat}
theorem At.move (h : At S φ w) (hk : ∀ g ∈ S, w'.heap[g]? = w.heap[g]?) (hz : w.heap.size ≤ w'.heap.size) : At S φ w' :=
  ⟨h.stays w' hk, fun g hg => Nat.lt_of_lt_of_le (h.lt g hg) hz, fun w'' hk' => h.stays w'' fun g hg => (hk' g hg).trans (hk g hg)⟩
theorem At.below (h : At S φ w) (hb : Below w.heap.size w w') : At S φ w' := h.move (fun g hg => hb.block g (h.lt g hg)) hb.size
theorem At.drewN (h : At S φ w) (q : Nat) : At S φ (w.drewN q) := h.move (fun _ _ => rfl) (Nat.le_refl _)
theorem At.imp {ψ : World → Prop} (h : At S φ w) (hi : ∀ w', φ w' → ψ w') : At S ψ w := ⟨hi _ h.here, h.lt, fun w' hk => hi _ (h.stays w' hk)⟩

/-- only blocks of T, and new ones, are other than they were -/
structure Chg (T : List Nat) (w w' : World) : Prop where
  os : w'.os = w.os
  tape : w'.tape = w.tape
  output : w'.output = w.output
  size : w.heap.size ≤ w'.heap.size
  block : ∀ i, i < w.heap.size → i ∉ T → w'.heap[i]? = w.heap[i]?
theorem Chg.of_grown {v : Value} (h : w.grownBy w' v.ownBlock) : Chg v.ownBlock.toList w w' :=
  ⟨h.os, h.tape, h.output, h.size, fun i hi hn => h.block i hi (fun e => hn (by rw [← e]; simp))⟩
theorem Chg.refl (T : List Nat) (w : World) : Chg T w w := ⟨rfl, rfl, rfl, Nat.le_refl _, fun _ _ _ => rfl⟩
theorem Chg.trans (h : Chg T w w1) (k : Chg T w1 w2) : Chg T w w2 :=
  ⟨k.os.trans h.os, k.tape.trans h.tape, k.output.trans h.output, Nat.le_trans h.size k.size, fun i hi hn => (k.block i (Nat.lt_of_lt_of_le hi h.size) hn).trans (h.block i hi hn)⟩
theorem Chg.of_below (h : Below w.heap.size w w') : Chg T w w' := ⟨h.os, h.tape, h.output, h.size, fun i hi _ => h.block i hi⟩
theorem Chg.more {U : List Nat} (h : Chg T w w') (hs : ∀ g ∈ T, g ∈ U) : Chg U w w' := ⟨h.os, h.tape, h.output, h.size, fun i hi hn => h.block i hi (fun hm => hn (hs i hm))⟩
theorem At.chg (h : At S φ w) (c : Chg T w w') (hd : ∀ g ∈ S, g ∉ T) : At S φ w' := h.move (fun g hg => c.block g (h.lt g hg) (hd g hg)) c.size
theorem below_chg (hb : Below B w w1) (c : Chg T w1 w2) (hB : B ≤ w1.heap.size) (hT : ∀ g ∈ T, B ≤ g) : Below B w w2 :=
  ⟨c.os.trans hb.os, c.tape.trans hb.tape, c.output.trans hb.output, Nat.le_trans hb.size c.size,
    fun i hi => (c.block i (Nat.lt_of_lt_of_le hi hB) (fun hm => by have := hT i hm; omega)).trans (hb.block i hi)⟩

theorem Chg.setCell (h : Chg T w w1) {p : Addr} (hp : p.block ∈ T) (u : Value) : Chg T w (w1.setCell p u) :=
  ⟨h.os, h.tape, h.output, by simpa [World.setCell] using h.size, fun i hi hn => (Below.heap_setCell _ _ _ _ (fun e => hn (by rw [e]; exact hp))).trans (h.block i hi hn)⟩

/-- where blocks lie -/
def Within (S : List Nat) (lo hi : Nat) : Prop := ∀ g ∈ S, lo ≤ g ∧ g < hi
theorem Within.apart {a b c d : Nat} (h : Within S a b) (k : Within T c d) (hd : b ≤ c ∨ d ≤ a) : ∀ g ∈ S, g ∉ T := by
  intro g hg hm
  have h1 := h g hg
  have h2 := k g hm
  omega
theorem Within.from {a b B : Nat} (h : Within S a b) (hB : B ≤ a) : ∀ g ∈ S, B ≤ g := fun g hg => Nat.le_trans hB (h g hg).1
theorem apart_symm (h : ∀ g ∈ S, g ∉ T) : ∀ g ∈ T, g ∉ S := fun g hg hm => h g hm hg
end

/-! ### slices of ints -/
def OwnI (v : Value) (xs : List Int) (w : World) : Prop := w.ownsRow 0 3 1 v xs.length (intsV xs)
def MarkI (v : Value) (xs : List Int) (m : Int) (w : World) : Prop := w.ownsRow 0 3 1 v xs.length (marksI m xs.length)
def szI (xs : List Int) : Int := xs.length
theorem own_zero {w : World} {base n : Nat} {e : TypeId} {v : Value} {xs : List Value} (h : w.ownsRow base e 1 v n xs) : w.ownsRow 0 e 1 v n xs := by
  obtain ⟨hl, h | ⟨g, cap, cur, rfl, hg, r⟩⟩ := h
  · exact ⟨hl, .inl h⟩
  · exact ⟨hl, .inr ⟨g, cap, cur, rfl, Nat.zero_le _, r⟩⟩
theorem own_at {w : World} {base n : Nat} {e : TypeId} {v : Value} {xs : List Value} (h : w.ownsRow base e 1 v n xs) : At v.ownBlock.toList (fun w => w.ownsRow 0 e 1 v n xs) w :=
  ⟨own_zero h, fun g hg => (own_lt h (by simpa using hg)).2, fun w' hk => own_stays (own_zero h) fun g hg => hk g (by rw [hg]; simp)⟩
theorem own_within {w : World} {base n : Nat} {e : TypeId} {v : Value} {xs : List Value} (h : w.ownsRow base e 1 v n xs) : Within v.ownBlock.toList base w.heap.size := fun g hg => own_lt h (by simpa using hg)
theorem OwnI.row {v : Value} {xs : List Int} {w : World} (h : OwnI v xs w) : Row w 0 w.heap.size v (intsV xs) := Row.of_own h

/-- a new value: its blocks, all new -/
def NewV (φ : Value → World → Prop) (w : World) (e : Ending) (w' : World) : Prop := ∃ v S, e = .returned v ∧ At S (φ v) w' ∧ Within S w.heap.size w'.heap.size ∧ Below w.heap.size w w'
/-- two new values apart from each other -/
def NewV2 (φ ψ : Value → World → Prop) (w : World) (e : Ending) (w' : World) : Prop :=
  ∃ u S v T, e = .returned (.tuple #[u, v]) ∧ At S (φ u) w' ∧ At T (ψ v) w' ∧ Within S w.heap.size w'.heap.size ∧ Within T w.heap.size w'.heap.size ∧ (∀ g ∈ S, g ∉ T) ∧ Below w.heap.size w w'
theorem NewInts.newV {xs : List Int} {w w' : World} {e : Ending} (h : NewInts xs w e w') : NewV (fun v => OwnI v xs) w e w' := by
  obtain ⟨v, rfl, o, b⟩ := h
  exact ⟨v, _, rfl, own_at o, own_within o, b⟩


/-! ### what calls answer -/
def PostI (R0 : List Int) (w : World) (e : Ending) (w' : World) : Prop :=
  ∃ (u0 : Value) (S0 : List Nat), e = .returned u0 ∧ At S0 (OwnI u0 R0) w' ∧ Within S0 w.heap.size w'.heap.size ∧ Below w.heap.size w w'
def PostII (R0 : List Int) (R1 : List Int) (w : World) (e : Ending) (w' : World) : Prop :=
  ∃ (u0 : Value) (S0 : List Nat) (u1 : Value) (S1 : List Nat), e = .returned (.tuple #[u0, u1]) ∧ At S0 (OwnI u0 R0) w' ∧ At S1 (OwnI u1 R1) w' ∧ Within S0 w.heap.size w'.heap.size ∧ Within S1 w.heap.size w'.heap.size ∧ (∀ g ∈ S0, g ∉ S1) ∧ Below w.heap.size w w'
def Postn (R0 : Int) (w : World) (e : Ending) (w' : World) : Prop :=
  e = .returned (.int .i64 R0) ∧ Below w.heap.size w w'
def Postb (R0 : Bool) (w : World) (e : Ending) (w' : World) : Prop :=
  e = .returned (.bool R0) ∧ Below w.heap.size w w'
def PostIb (R0 : List Int) (R1 : Bool) (w : World) (e : Ending) (w' : World) : Prop :=
  ∃ (u0 : Value) (S0 : List Nat), e = .returned (.tuple #[u0, (.bool R1)]) ∧ At S0 (OwnI u0 R0) w' ∧ Within S0 w.heap.size w'.heap.size ∧ Below w.heap.size w w'
def Postnb (R0 : Int) (R1 : Bool) (w : World) (e : Ending) (w' : World) : Prop :=
  e = .returned (.tuple #[(.int .i64 R0), (.bool R1)]) ∧ Below w.heap.size w w'
end Go.Proofs.YtbfolegllhpkjaaGreatDoor

namespace Go.Proofs.YtbfolegllhpkjaaGreatDoor
open Go.RowKit

/-- the power of the base -/
def bp : Nat → Int
  | 0 => 1
  | k + 1 => 1000000000 * bp k
theorem bp_pos (k : Nat) : 0 < bp k := by
  induction k with
  | zero => decide
  | succ k ih => show 0 < 1000000000 * bp k; omega
theorem bp_add (j k : Nat) : bp (j + k) = bp j * bp k := by
  induction j with
  | zero => rw [Nat.zero_add]; show _ = 1 * _; omega
  | succ j ih =>
    rw [show j + 1 + k = (j + k) + 1 by omega]
    show 1000000000 * bp (j + k) = 1000000000 * bp j * bp k
    rw [ih, Int.mul_assoc]
theorem bp_mono {j k : Nat} (h : j ≤ k) : bp j ≤ bp k := by
  obtain ⟨d, rfl⟩ := Nat.le.dest h
  rw [bp_add]
  have h1 := bp_pos j
  have h2 := bp_pos d
  have h3 := Int.mul_le_mul_of_nonneg_left (show 1 ≤ bp d by omega) (show 0 ≤ bp j by omega)
  omega
theorem nval_append (xs ys : List Int) : nval (xs ++ ys) = nval xs + bp xs.length * nval ys := by
  induction xs with
  | nil => show nval ys = 0 + 1 * nval ys; omega
  | cons d r ih =>
    show d + 1000000000 * nval (r ++ ys) = d + 1000000000 * nval r + 1000000000 * bp r.length * nval ys
    rw [ih, Int.mul_add, Int.mul_assoc, Int.add_assoc]
theorem nval_lt (xs : List Int) (h : DigN xs) : nval xs < bp xs.length := by
  induction xs with
  | nil => show (0 : Int) < 1; decide
  | cons d r ih =>
    have h1 := ih h.tail
    have h2 := h.head
    show d + 1000000000 * nval r < 1000000000 * bp r.length
    omega
theorem DigN.append {xs ys : List Int} (h : DigN xs) (k : DigN ys) : DigN (xs ++ ys) := fun d hd => (List.mem_append.1 hd).elim (h d) (k d)
theorem dig_one {d : Int} (h0 : 0 ≤ d) (h1 : d ≤ 999999999) : DigN [d] := fun x hx => by simp at hx; omega
theorem dig_zeros (n : Nat) : DigN (List.replicate n 0) := fun d hd => by rw [(List.mem_replicate.1 hd).2]; omega
theorem nval_zeros (n : Nat) : nval (List.replicate n 0) = 0 := by
  induction n with
  | zero => rfl
  | succ n ih => rw [List.replicate_succ]; show 0 + 1000000000 * nval (List.replicate n 0) = 0; omega
theorem nval_set (xs : List Int) (k : Nat) (d : Int) (h : k < xs.length) : nval (xs.set k d) = nval xs + (d - xs[k]) * bp k := by
  induction xs generalizing k with
  | nil => simp at h
  | cons x r ih =>
    cases k with
    | zero => show d + 1000000000 * nval r = x + 1000000000 * nval r + (d - x) * 1; omega
    | succ k =>
      have hk : k < r.length := by simpa using h
      have h1 := ih k hk
      show x + 1000000000 * nval (r.set k d) = x + 1000000000 * nval r + (d - r[k]) * (1000000000 * bp k)
      rw [h1, Int.mul_add, Int.add_assoc]
      congr 2
      rw [← Int.mul_assoc, ← Int.mul_assoc, Int.mul_comm 1000000000]
theorem DigN.set {xs : List Int} (h : DigN xs) (k : Nat) {d : Int} (h0 : 0 ≤ d) (h1 : d ≤ 999999999) : DigN (xs.set k d) := fun x hx => by
  rcases List.mem_or_eq_of_mem_set hx with hx | rfl
  · exact h x hx
  · exact ⟨h0, h1⟩

/-- the last limb is not 0: the number is at least the power below its length -/
theorem nval_ge (xs : List Int) (h : DigN xs) (hl : xs.getLastD 1 ≠ 0) (hn : 0 < xs.length) : bp (xs.length - 1) ≤ nval xs := by
  have hne : xs ≠ [] := fun e => by rw [e] at hn; simp at hn
  have e := (List.dropLast_concat_getLast hne).symm
  have hg : xs.getLastD 1 = xs.getLast hne := by
    rw [List.getLastD_eq_getLast?, List.getLast?_eq_some_getLast hne]
    rfl
  rw [hg] at hl
  have hd := h _ (List.getLast_mem hne)
  rw [e, nval_append]
  have h1 := nval_nonneg xs.dropLast (fun d hd => h d (List.dropLast_subset _ hd))
  have h2 : nval [xs.getLast hne] = xs.getLast hne := by show xs.getLast hne + 1000000000 * 0 = _; omega
  rw [h2, List.length_append, List.length_dropLast]
  simp only [List.length_singleton]
  rw [show xs.length - 1 + 1 - 1 = xs.length - 1 by omega]
  have h3 := bp_pos (xs.length - 1)
  have h4 := Int.mul_le_mul_of_nonneg_left (show 1 ≤ xs.getLast hne by omega) (show 0 ≤ bp (xs.length - 1) by omega)
  omega
/-- the other way: then the limbs are those of their number -/
theorem limbs_of_ge (xs : List Int) (h : DigN xs) (hg : 0 < xs.length → bp (xs.length - 1) ≤ nval xs) : xs = limbs (nval xs).toNat := by
  rw [← trim_limbs xs h]
  symm
  apply trim_last
  intro h0
  by_cases hne : xs = []
  · rw [hne] at h0; exact absurd h0 (by decide)
  · have hn : 0 < xs.length := List.length_pos_iff.2 hne
    have e := (List.dropLast_concat_getLast hne).symm
    have hg2 : xs.getLastD 1 = xs.getLast hne := by
      rw [List.getLastD_eq_getLast?, List.getLast?_eq_some_getLast hne]
      rfl
    have h1 := hg hn
    rw [e, nval_append, ← hg2, h0] at h1
    have h2 := nval_lt xs.dropLast (fun d hd => h d (List.dropLast_subset _ hd))
    have h3 : nval [(0 : Int)] = 0 := rfl
    rw [h3, List.length_append, List.length_dropLast] at h1
    rw [List.length_dropLast] at h2
    simp only [List.length_singleton] at h1
    rw [show xs.length - 1 + 1 - 1 = xs.length - 1 by omega] at h1
    omega
theorem ok_ge {xs : List Int} (h : natOkB xs = true) (hn : 0 < xs.length) : bp (xs.length - 1) ≤ nval xs := nval_ge xs (natOk_parts h).1 (natOk_parts h).2.2 hn

/-- filled up with zeros to a length -/
def padL (xs : List Int) (n : Nat) : List Int := xs ++ List.replicate (n - xs.length) 0
theorem padL_length (xs : List Int) (n : Nat) : (padL xs n).length = max xs.length n := by unfold padL; rw [List.length_append, List.length_replicate]; omega
theorem padL_val (xs : List Int) (n : Nat) : nval (padL xs n) = nval xs := by unfold padL; rw [nval_append, nval_zeros]; omega
theorem padL_dig {xs : List Int} (h : DigN xs) (n : Nat) : DigN (padL xs n) := h.append (dig_zeros _)
theorem padL_long (xs : List Int) (n : Nat) (h : n ≤ xs.length) : padL xs n = xs := by unfold padL; rw [show n - xs.length = 0 by omega]; simp
theorem padL_at (xs : List Int) (k : Nat) (h : k < (padL xs (k + 1)).length) : (padL xs (k + 1))[k] = xs.getD k 0 := by
  unfold padL at h ⊢
  by_cases hk : k < xs.length
  · rw [List.getElem_append_left hk, List.getD_eq_getElem?_getD, List.getElem?_eq_getElem hk]; rfl
  · rw [List.getElem_append_right (by omega), List.getElem_replicate, List.getD_eq_getElem?_getD, List.getElem?_eq_none (by omega)]; rfl

/-- adding a value at a place: the new limbs; the carry -/
def addAtL (xs : List Int) (p : Nat) (v : Int) : List Int := (padL xs (p + 1)).set p ((v + xs.getD p 0) % 1000000000)
def addAtC (xs : List Int) (p : Nat) (v : Int) : Int := (v + xs.getD p 0) / 1000000000
theorem getD_dig {xs : List Int} (h : DigN xs) (p : Nat) : 0 ≤ xs.getD p 0 ∧ xs.getD p 0 ≤ 999999999 := by
  rw [List.getD_eq_getElem?_getD]
  by_cases hk : p < xs.length
  · rw [List.getElem?_eq_getElem hk]; exact h.at_ p hk
  · rw [List.getElem?_eq_none (by omega)]; show 0 ≤ (0 : Int) ∧ (0 : Int) ≤ 999999999; omega
theorem addAt_length (xs : List Int) (p : Nat) (v : Int) : (addAtL xs p v).length = max xs.length (p + 1) := by unfold addAtL; rw [List.length_set, padL_length]
theorem addAt_dig {xs : List Int} (h : DigN xs) (p : Nat) (v : Int) : DigN (addAtL xs p v) := (padL_dig h _).set p (by omega) (by omega)
theorem addAt_val (xs : List Int) (p : Nat) (v : Int) : nval (addAtL xs p v) + addAtC xs p v * bp (p + 1) = nval xs + v * bp p := by
  have hl : p < (padL xs (p + 1)).length := by rw [padL_length]; omega
  unfold addAtL addAtC
  rw [nval_set _ p _ hl, padL_val, padL_at]
  generalize xs.getD p 0 = d
  show nval xs + ((v + d) % 1000000000 - d) * bp p + (v + d) / 1000000000 * (1000000000 * bp p) = nval xs + v * bp p
  rw [← Int.mul_assoc, Int.add_assoc, ← Int.add_mul]
  rw [show (v + d) % 1000000000 - d + (v + d) / 1000000000 * 1000000000 = v by omega]
/-- a new last limb -/
theorem addAt_new (xs : List Int) (p : Nat) (v : Int) (hp : p = xs.length) (h0 : 0 < v) (h1 : v ≤ 999999999) : addAtC xs p v = 0 ∧ addAtL xs p v = xs ++ [v] := by
  subst hp
  have e : xs.getD xs.length 0 = 0 := by rw [List.getD_eq_getElem?_getD, List.getElem?_eq_none (Nat.le_refl _)]; rfl
  unfold addAtL addAtC padL
  rw [e]
  refine ⟨by omega, ?_⟩
  rw [show xs.length + 1 - xs.length = 1 by omega, List.set_append_right _ _ (Nat.le_refl _), Nat.sub_self]
  show xs ++ [(v + 0) % 1000000000] = xs ++ [v]
  rw [show (v + 0) % 1000000000 = v by omega]

/-- subtracting a value at a place; the borrow -/
def takeAtL (xs : List Int) (p : Nat) (v : Int) : List Int := xs.set p ((xs.getD p 0 - v) % 1000000000)
def takeAtC (xs : List Int) (p : Nat) (v : Int) : Int := -((xs.getD p 0 - v) / 1000000000)
theorem takeAt_length (xs : List Int) (p : Nat) (v : Int) : (takeAtL xs p v).length = xs.length := by unfold takeAtL; rw [List.length_set]
theorem takeAt_dig {xs : List Int} (h : DigN xs) (p : Nat) (v : Int) : DigN (takeAtL xs p v) := h.set p (by omega) (by omega)
theorem takeAt_bound {xs : List Int} (h : DigN xs) (p : Nat) (v : Int) (h0 : 0 ≤ v) (h1 : v ≤ 999999999000000000) : 0 ≤ takeAtC xs p v ∧ takeAtC xs p v ≤ 999999999 := by
  have hd := getD_dig h p
  unfold takeAtC
  omega
theorem takeAt_val (xs : List Int) (p : Nat) (v : Int) (hp : p < xs.length) : nval (takeAtL xs p v) - takeAtC xs p v * bp (p + 1) = nval xs - v * bp p := by
  have hg : xs.getD p 0 = xs[p] := by rw [List.getD_eq_getElem?_getD, List.getElem?_eq_getElem hp]; rfl
  unfold takeAtL takeAtC
  rw [nval_set _ p _ hp, hg]
  generalize xs[p] = d
  show nval xs + ((d - v) % 1000000000 - d) * bp p - -((d - v) / 1000000000) * (1000000000 * bp p) = nval xs - v * bp p
  rw [← Int.mul_assoc, Int.add_sub_assoc, ← Int.sub_mul]
  rw [show (d - v) % 1000000000 - d - -((d - v) / 1000000000) * 1000000000 = -v by omega, Int.neg_mul]
  omega
end Go.Proofs.YtbfolegllhpkjaaGreatDoor

namespace Go.Proofs.YtbfolegllhpkjaaGreatDoor
open Go.RowKit

/-- one limb more of a division -/
theorem div_step (x N D : Int) (hD : 0 < D) (hx0 : 0 ≤ x) (hx1 : x ≤ 999999999) :
    (x + 1000000000 * N) / D = (N % D * 1000000000 + x) / D + 1000000000 * (N / D) ∧ (x + 1000000000 * N) % D = (N % D * 1000000000 + x) % D ∧
      0 ≤ (N % D * 1000000000 + x) / D ∧ (N % D * 1000000000 + x) / D ≤ 999999999 ∧ 0 ≤ N % D ∧ N % D < D := by
  have h0 := Int.emod_nonneg N (show D ≠ 0 by omega)
  have h1 := Int.emod_lt_of_pos N hD
  have e : x + 1000000000 * N = (N % D * 1000000000 + x) + D * (1000000000 * (N / D)) := by
    have h2 := Int.emod_add_mul_ediv N D
    have h3 : 1000000000 * N = 1000000000 * (N % D) + D * (1000000000 * (N / D)) := by
      conv => lhs; rw [← h2, Int.mul_add, Int.mul_left_comm]
    omega
  refine ⟨?_, ?_, ?_, ?_, h0, h1⟩
  · rw [e, Int.add_mul_ediv_left _ _ (by omega)]
  · rw [e, Int.add_mul_emod_self_left]
  · exact Int.ediv_nonneg (by omega) (by omega)
  · have : (N % D * 1000000000 + x) / D < 1000000000 := Int.ediv_lt_of_lt_mul hD (by
      have h4 : N % D * 1000000000 + x < (N % D + 1) * 1000000000 := by omega
      have h5 : (N % D + 1) * 1000000000 ≤ D * 1000000000 := Int.mul_le_mul_of_nonneg_right (by omega) (by omega)
      omega)
    omega

/-- a division that has come down to limb k -/
def DivR (a : List Int) (D : Int) (k : Nat) (R : Int) (qs : List Int) : Prop :=
  R = nval (a.drop k) % D ∧ nval qs = nval (a.drop k) / D ∧ DigN qs ∧ qs.length + k = a.length
theorem DivR.start (a : List Int) (D : Int) : DivR a D a.length 0 [] := by
  refine ⟨?_, ?_, (fun d hd => by cases hd), by simp⟩
  · rw [List.drop_of_length_le (Nat.le_refl _)]; show (0 : Int) = 0 % D; simp
  · rw [List.drop_of_length_le (Nat.le_refl _)]; show (0 : Int) = 0 / D; simp
theorem DivR.bound {a : List Int} {D : Int} {k : Nat} {R : Int} {qs : List Int} (h : DivR a D k R qs) (hD : 0 < D) : 0 ≤ R ∧ R < D := by
  rw [h.1]
  exact ⟨Int.emod_nonneg _ (by omega), Int.emod_lt_of_pos _ hD⟩
theorem DivR.next {a : List Int} {D : Int} {i : Nat} {R : Int} {qs : List Int} (h : DivR a D (i + 1) R qs) (hD : 0 < D) (hd : DigN a) (hi : i < a.length) :
    DivR a D i ((R * 1000000000 + a[i]) % D) ((R * 1000000000 + a[i]) / D :: qs) := by
  obtain ⟨h1, h2, h3, h4⟩ := h
  have hx := hd.at_ i hi
  obtain ⟨e1, e2, e3, e4, _, _⟩ := div_step a[i] (nval (a.drop (i + 1))) D hD hx.1 hx.2
  subst h1
  refine ⟨by rw [nval_drop a i hi, e2], ?_, DigN.cons e3 e4 h3, by simp; omega⟩
  show _ + 1000000000 * nval qs = _
  rw [nval_drop a i hi, e1, h2]
theorem DivR.digit {a : List Int} {D : Int} {i : Nat} {R : Int} {qs : List Int} (h : DivR a D (i + 1) R qs) (hD : 0 < D) (hd : DigN a) (hi : i < a.length) :
    0 ≤ (R * 1000000000 + a[i]) / D ∧ (R * 1000000000 + a[i]) / D ≤ 999999999 := by
  have hx := hd.at_ i hi
  obtain ⟨_, _, e3, e4, _, _⟩ := div_step a[i] (nval (a.drop (i + 1))) D hD hx.1 hx.2
  rw [h.1]
  exact ⟨e3, e4⟩
theorem DivR.done {a : List Int} {D R : Int} {qs : List Int} (h : DivR a D 0 R qs) : trimL qs = limbs (nval a / D).toNat ∧ R = nval a % D := by
  obtain ⟨h1, h2, h3, h4⟩ := h
  rw [List.drop_zero] at h1 h2
  exact ⟨by rw [trim_limbs qs h3, h2], h1⟩
theorem zeros_set (i : Nat) (q : Int) (qs : List Int) : (List.replicate (i + 1) 0 ++ qs).set i q = List.replicate i 0 ++ (q :: qs) := by
  rw [List.replicate_succ', List.append_assoc, List.set_append_right _ _ (by simp), List.length_replicate, Nat.sub_self]
  rfl
theorem limbs_val (n : Nat) : nval (limbs n) = n := by
  induction n using Nat.strongRecOn with
  | _ n ih =>
    by_cases h0 : n = 0
    · subst h0; rw [limbs, dif_pos rfl]; rfl
    · rw [limbs, dif_neg h0]
      have := ih (n / 1000000000) (by omega)
      show ((n % 1000000000 : Nat) : Int) + 1000000000 * nval (limbs (n / 1000000000)) = n
      rw [this]
      omega
theorem limbs_toNat (N : Int) (h : 0 ≤ N) : nval (limbs N.toNat) = N := by rw [limbs_val]; omega
theorem limbs_digN (n : Nat) : DigN (limbs n) := by
  induction n using Nat.strongRecOn with
  | _ n ih =>
    by_cases h0 : n = 0
    · subst h0; rw [limbs, dif_pos rfl]; exact fun d hd => by cases hd
    · rw [limbs, dif_neg h0]
      exact DigN.cons (by omega) (by omega) (ih _ (by omega))
theorem limbs_lastN (n : Nat) : (limbs n).getLastD 1 ≠ 0 := by
  induction n using Nat.strongRecOn with
  | _ n ih =>
    by_cases h0 : n = 0
    · subst h0; rw [limbs, dif_pos rfl]; decide
    · by_cases hs : n / 1000000000 = 0
      · rw [limbs, dif_neg h0, hs, show limbs 0 = [] from by rw [limbs, dif_pos rfl]]
        show ((n % 1000000000 : Nat) : Int) ≠ 0
        omega
      · have hi := ih (n / 1000000000) (by omega)
        have e : limbs (n / 1000000000) = ((n / 1000000000 % 1000000000 : Nat) : Int) :: limbs (n / 1000000000 / 1000000000) := by rw [limbs, dif_neg hs]
        rw [limbs, dif_neg h0]
        rw [e] at hi ⊢
        simpa using hi
theorem limbs_length_le (n : Nat) (k : Nat) (h : (n : Int) < bp k) : (limbs n).length ≤ k := by
  rcases Nat.lt_or_ge k (limbs n).length with hl | hl
  · have h1 := nval_ge (limbs n) (limbs_digN n) (limbs_lastN n) (by omega)
    have h2 := bp_mono (show k ≤ (limbs n).length - 1 by omega)
    rw [limbs_val] at h1
    omega
  · exact hl
/-- the greatest digit -/
theorem digit_le (q r b : Int) (hb : 0 < b) : q * b ≤ r ↔ q ≤ r / b := (Int.le_ediv_iff_mul_le hb).symm
end Go.Proofs.YtbfolegllhpkjaaGreatDoor

namespace Go.Proofs.YtbfolegllhpkjaaGreatDoor
open Go.RowKit

/-- a new row and a number -/
def RowNum (xs : List Int) (r : Int) (w : World) (e : Ending) (w' : World) : Prop :=
  ∃ v, e = .returned (.tuple #[v, .int .i64 r]) ∧ w'.ownsRow w.heap.size 3 1 v xs.length (intsV xs) ∧ Below w.heap.size w w'



end Go.Proofs.YtbfolegllhpkjaaGreatDoor

namespace Go.Proofs.YtbfolegllhpkjaaGreatDoor
open Go.RowKit

/-- append of a row of the call's own, nil let in -/
theorem append_owned {P : Program} {w : World} {ops : Array Oper} {rest : List Oper} {o : Oper} {a : Act} {Q : Exit → Act → World → Prop} (hgd : o.guard = none) (s x : Operand) (t : TypeId)
    (ho : o.op = .call { callee := .builtin .append, args := #[s, x], argTypes := #[t, t] }) (base : Nat) (e : TypeId) (i : TypeInfo) (z : Value) (bytes : Nat) (ht : P.underlying t = some (.slice e)) (hi : P.info? e = some i)
    (hz : i.zero = some z) (hsize : i.size = 1) (hby : i.bytes = bytes) (hzs : z.cells.size = 1) (v : Value) (n : Nat) (xs : List Value) (hs : a.eval s = v) (hown : w.ownsRow base e 1 v n xs)
    (vx : Value) (m base2 : Nat) (e2 : TypeId) (news : List Value) (hx : a.eval x = vx) (hsrc : w.ownsRow base2 e2 1 vx m news) (h1 : ∀ u ∈ news, u.oneCell' = true) (h63 : n + m ≤ maxLen) (hbytes : (n + m) * bytes ≤ 140737488355328) (hbase : base ≤ w.heap.size)
    (h : ∀ v' w', w'.ownsRow base e 1 v' (n + m) (xs ++ news) → w.grownBy w' v.ownBlock → wpList P ops Q rest (a.put o.dst v') w') : wpList P ops Q (o :: rest) a w := by
  have hm : news.length = m := by have := hsrc.1; omega
  rcases hsrc.2 with ⟨rfl, rfl⟩ | ⟨g, cap, cur, rfl, _⟩
  · obtain rfl : news = [] := List.eq_nil_of_length_eq_zero hm
    exact wpList_append_own_none hgd s x t ho base e i 1 ht hi v n xs hs hown hx (h v w (by simpa using hown) (World.grownBy.refl _ _))
  · refine wpList_append_own _ hgd s x t ho base e i z 1 bytes ht hi hz hsize hby hzs (by omega) v n xs hs hown ⟨g, 0, none⟩ m cap news hx (by omega) (fun j u hu => hsrc.cells (g := g) rfl j u hu) h1 h63 hbytes hbase ?_
    intro v' w' h2 h3 _
    exact h v' w' h2 h3

/-- two new rows apart from each other -/
def TwoRows (xs ys : List Int) (w : World) (e : Ending) (w' : World) : Prop :=
  ∃ v1 v2, e = .returned (.tuple #[v1, v2]) ∧ w'.ownsRow w.heap.size 3 1 v1 xs.length (intsV xs) ∧ w'.ownsRow w.heap.size 3 1 v2 ys.length (intsV ys) ∧
    (∀ x y, v1.ownBlock = some x → v2.ownBlock = some y → x ≠ y) ∧ Below w.heap.size w w'

theorem limbs_mono {m n : Int} (h0 : 0 ≤ m) (h : m ≤ n) : (limbs m.toNat).length ≤ (limbs n.toNat).length := by
  rcases Nat.lt_or_ge (limbs n.toNat).length (limbs m.toNat).length with hl | hl
  · have := nval_short (limbs n.toNat) (limbs m.toNat) (limbs_digN _) (limbs_digN _) hl (limbs_lastN _)
    rw [limbs_toNat m h0, limbs_toNat n (by omega)] at this
    omega
  · exact hl
theorem own_base {w : World} {base base' n : Nat} {e : TypeId} {v : Value} {xs : List Value} (h : w.ownsRow base e 1 v n xs) (hb : base' ≤ base) : w.ownsRow base' e 1 v n xs := by
  obtain ⟨hl, h | ⟨g, cap, cur, rfl, hg, r⟩⟩ := h
  · exact ⟨hl, .inl h⟩
  · exact ⟨hl, .inr ⟨g, cap, cur, rfl, by omega, r⟩⟩
/-- limb k of a division brought down -/
theorem down_limb {x R : Int} (hx0 : 0 ≤ x) (hx1 : x ≤ 999999999) (hR : 0 ≤ R) : trimL (x :: limbs R.toNat) = limbs (R * 1000000000 + x).toNat := by
  have hd : DigN (x :: limbs R.toNat) := DigN.cons hx0 hx1 (limbs_digN _)
  rw [trim_limbs _ hd]
  congr 2
  show x + 1000000000 * nval (limbs R.toNat) = _
  rw [limbs_toNat R hR]
  omega
/-- the state of the loop: the quotient so far, and the rest -/
def DivS (w : World) (a : List Int) (D : Int) (k : Nat) (v : Value) (wr : World) : Prop :=
  ∃ (R : Int) (qs : List Int), DivR a D k R qs ∧ wr.ownsRow w.heap.size 3 1 (.slice (some ⟨w.heap.size, 0, none⟩) a.length a.length) a.length (intsV (List.replicate k 0 ++ qs)) ∧
    wr.ownsRow (w.heap.size + 1) 3 1 v (limbs R.toNat).length (intsV (limbs R.toNat)) ∧ Below w.heap.size w wr

end Go.Proofs.YtbfolegllhpkjaaGreatDoor

namespace Go.Proofs.YtbfolegllhpkjaaGreatDoor
open Go.RowKit

theorem Row.away {w w' : World} {lo hi g : Nat} {v : Value} {xs : List Value} (h : Row w lo hi v xs) (hg : w.grownBy w' (some g)) (hd : hi ≤ g ∨ g < lo) : Row w' lo hi v xs := by
  obtain ⟨A, c, rfl, h⟩ := h
  refine ⟨A, c, rfl, fun j u hj => ?_⟩
  obtain ⟨a, e, h1, h2, h3⟩ := h j u hj
  refine ⟨a, e, h1, h2, ?_⟩
  rw [← h3]
  have hne : some (a.add j).block ≠ some g := by rw [block_add]; intro e; injection e with e; omega
  exact World.cell?_of_block (hg.block _ (cell_lt h3) hne)
theorem Chg.of_cur {w w' : World} {g : Nat} (h : w.grownBy w' (some g)) : Chg [g] w w' := ⟨h.os, h.tape, h.output, h.size, fun i hi hn => h.block i hi (fun e => hn (by injection e with e; simp [e]))⟩
theorem Chg.new_row {T : List Nat} {w a b : World} {row : Option Nat} (h : Chg T w a) (k : a.grownBy b row) (hr : ∀ j, row = some j → w.heap.size ≤ j) : Chg T w b :=
  ⟨k.os.trans h.os, k.tape.trans h.tape, k.output.trans h.output, Nat.le_trans h.size k.size, fun i hi hn => (k.block i (Nat.lt_of_lt_of_le hi h.size) (fun e => by have := hr i e.symm; omega)).trans (h.block i hi hn)⟩
theorem Chg.alloc {T : List Nat} {w a : World} (h : Chg T w a) (o : Obj) : Chg T w (a.alloc o) :=
  h.trans (Chg.of_below ((Below.refl _ _).alloc (Nat.le_refl _) o))
theorem Cur.alloc {w : World} {g : Nat} {v : Value} {n : Nat} (h : Cur w g v n) (o : Obj) : Cur (w.alloc o) g v n := by
  obtain ⟨i, k, h1, h2, h3, h4, hb⟩ := h
  exact ⟨i, k, h1, h2, h3, h4, (Below.heap_alloc _ _ _ (Array.getElem?_eq_some_iff.1 hb).1).trans hb⟩
theorem Cur.grown {w w' : World} {g : Nat} {v : Value} {n : Nat} {row : Option Nat} (h : Cur w g v n) (k : w.grownBy w' row) (hr : row ≠ some g) : Cur w' g v n := by
  obtain ⟨i, x, h1, h2, h3, h4, hb⟩ := h
  exact ⟨i, x, h1, h2, h3, h4, (k.block g (Array.getElem?_eq_some_iff.1 hb).1 (Ne.symm hr)).trans hb⟩
theorem Cur.lt {w : World} {g : Nat} {v : Value} {n : Nat} (h : Cur w g v n) : g < w.heap.size := by
  obtain ⟨i, x, h1, h2, h3, h4, hb⟩ := h
  exact (Array.getElem?_eq_some_iff.1 hb).1

theorem own_far {w w' : World} {base n g : Nat} {e : TypeId} {v : Value} {xs : List Value} (h : w.ownsRow base e 1 v n xs) (hg : w.grownBy w' (some g)) (hlt : g < base) : w'.ownsRow base e 1 v n xs :=
  own_apart h hg (fun a b ha hb => by have := (own_lt h ha).1; injection hb with hb; omega)

/-- what a pick comes to: one of the list -/
def PickPost (xs : List Int) (g : Nat) (v : Value) (n : Nat) (w : World) (e : Ending) (w' : World) : Prop :=
  ∃ x ∈ xs, e = .returned (.int .i64 x) ∧ Cur w' g v n ∧ w.grownBy w' (some g)
set_option maxHeartbeats 400000 in
set_option maxRecDepth 100000 in
theorem l01Pick_any (xs : List Int) (vx : Value) (lx hx g lo hi : Nat) (v : Value) (bs : List Nat) (w : World) (h0 : 0 < xs.length) (h1 : xs.length ≤ 1048576) (hb : ∀ b ∈ bs, b < 256) (hn : bs.length ≤ 1048576) (hc : Cur w g v bs.length) (hr : Row w lo hi v (bytesV bs)) (hg : hi ≤ g)
    (hrx : Row w lx hx vx (intsV xs)) (hd : hx ≤ g ∨ g < lx) :
    Calls Tryz.prog 49 #[.pointer (some ⟨g, 0, none⟩), vx] w (PickPost xs g v bs.length w) := by
  have HB := Lib.hid hb
  have HD := Lib.hid hd
  clear hb hd
  have hrx0 := hrx
  obtain ⟨A, c, rfl, _⟩ := hrx
  rw [intsV_length] at hrx0 ⊢
  go_enter Tryz.func49, Tryz.ntmps49
  go_wp2_with fail
  refine (l01Below_any (xs.length : Int) g lo hi v bs _ (by omega) (by omega) HB.out hn hc hr hg).mono ?_
  rintro e w1 ⟨x, hx0, hx1, rfl, hc1, hg1⟩
  obtain ⟨k, rfl⟩ := Int.eq_ofNat_of_zero_le hx0
  have hk : k < xs.length := by omega
  obtain ⟨A', c', e1, hA⟩ := hrx0.away hg1 HD.out
  injection e1 with e1 _ _
  subst e1
  obtain ⟨p, rfl, _, _, hca⟩ := hA k _ (intsV_at xs k hk)
  have HG := Lib.hid hg1
  clear hA hg1 hrx0
  go_wp2
  go_ret
  exact ⟨xs[k], List.getElem_mem hk, rfl, hc1, HG.out⟩

/-- what a drawn nat is -/
def DrawPost (most : Nat) (g : Nat) (v : Value) (n : Nat) (w : World) (e : Ending) (w' : World) : Prop :=
  ∃ (u : Value) (xs : List Int), e = .returned u ∧ natOkB xs = true ∧ xs.length ≤ most ∧ w'.ownsRow w.heap.size 3 1 u xs.length (intsV xs) ∧ Cur w' g v n ∧ Chg [g] w w'
/-- what is known at the head of l02Nat's loop -/
def DrawRel (most : Nat) (g : Nat) (v : Value) (n : Nat) (w : World) (u i : Value) (wr : World) : Prop :=
  ∃ (m : Nat) (out : List Int), out.length + m ≤ most ∧ i = .int .i64 m ∧ DigN out ∧ wr.ownsRow w.heap.size 3 1 u out.length (intsV out) ∧ Cur wr g v n ∧ Chg [g] w wr
theorem pick_list {x y z : Int} (h1 : 0 ≤ y ∧ y < 1000000000) (h2 : 0 ≤ z ∧ z < 1000000000) (h : x ∈ [0, 1, 2, 999999999, 500000000, y, z]) : 0 ≤ x ∧ x ≤ 999999999 := by
  simp at h
  omega
theorem drawn_trim (xs : List Int) (h : DigN xs) (hl : xs.length ≤ 50) : natOkB (trimL xs) = true ∧ (trimL xs).length ≤ xs.length := by
  have h1 := trimL_length xs
  refine ⟨?_, h1⟩
  rw [trim_limbs xs h] at h1 ⊢
  unfold natOkB
  rw [(all_dig _).2 (limbs_digN _), decide_eq_true (show (limbs (nval xs).toNat).length ≤ 50 by omega), decide_eq_true (limbs_lastN _)]
  rfl

set_option maxHeartbeats 1000000 in
set_option maxRecDepth 100000 in
theorem l02Nat_any (most : Nat) (g lo hi : Nat) (v : Value) (bs : List Nat) (w : World) (hmost : most ≤ 50) (hb : ∀ b ∈ bs, b < 256) (hn : bs.length ≤ 1048576) (hc : Cur w g v bs.length) (hr : Row w lo hi v (bytesV bs)) (hg : hi ≤ g) :
    Calls Tryz.prog 85 #[.pointer (some ⟨g, 0, none⟩), .int .i64 most] w (DrawPost most g v bs.length w) := by
  obtain ⟨i0, hi0, hz0, hz1, hz2⟩ := info_parts intInfo
  have HB := Lib.hid hb
  have hgl := hc.lt
  clear hb
  go_enter Tryz.func85, Tryz.ntmps85
  go_wp2_with fail
  refine (l01Below_any _ g lo hi v bs _ (by omega) (by omega) HB.out hn (hc.alloc _) (hr.below ((Below.refl _ _).alloc (Nat.le_refl _) _) (by omega)) hg).mono ?_
  rintro e w1 ⟨x, hx0, hx1, rfl, hc1, hg1⟩
  have HS : Hid (DrawRel most g v bs.length w (.slice (some ⟨w.heap.size, 0, none⟩) 0 0) (.int .i64 x) w1) := Lib.hid (by
    obtain ⟨k, rfl⟩ := Int.eq_ofNat_of_zero_le hx0
    refine ⟨k, [], by simp; omega, rfl, (fun d hd => by cases hd), ?_, hc1, ((Chg.refl _ _).alloc _).trans (Chg.of_cur hg1)⟩
    exact own_apart (World.ownsRow_made w #[] 0 (Nat.le_refl _) (Nat.zero_le _) rfl) hg1 (fun a b ha hb => by simp [Value.ownBlock] at ha; injection hb with hb; omega))
  clear hc1 hg1
  go_wp2
  go_loopw [5, 6] (fun u i wr => DrawRel most g v bs.length w u i wr) (fun _ i _ => (intOf i).toNat)
  case atStart => exact HS.out
  case round =>
    clear HS
    obtain ⟨m, out, hom, rfl, hd, hown, hcur, hchg⟩ := hrel
    have hsz := hchg.size
    have HD := Lib.hid hd
    clear hd
    by_cases hm : 0 < m
    · have hrow : Row wr lo hi v (bytesV bs) := hr.stays (fun p hp => World.cell?_of_block (hchg.block _ (by omega) (by simp; omega)))
      go_wp2_with fail
      refine (l01Below_any 1000000000 g lo hi v bs _ (by omega) (by omega) HB.out hn hcur hrow hg).mono ?_
      rintro e w2 ⟨y, hy0, hy1, rfl, hc2, hg2⟩
      have hr2 := hrow.far hg2 hg
      go_wp2_with fail
      refine (l01Below_any 1000000000 g lo hi v bs _ (by omega) (by omega) HB.out hn hc2 hr2 hg).mono ?_
      rintro e w3 ⟨z, hz0', hz1', rfl, hc3, hg3⟩
      have hr3 := hr2.far hg3 hg
      have hs2 := hg2.size
      have hs3 := hg3.size
      go_wp2_with fail
      refine (l01Pick_any [0, 1, 2, 999999999, 500000000, y, z] _ w3.heap.size (w3.heap.size + 1) g lo hi v bs _ (by simp) (by simp) HB.out hn (hc3.alloc _) (hr3.below ((Below.refl _ _).alloc (Nat.le_refl _) _) (by have := hc3.lt; omega)) hg (Row.lit w3 #[.int .i64 0, .int .i64 1, .int .i64 2, .int .i64 999999999, .int .i64 500000000, .int .i64 y, .int .i64 z] _) (.inr hc3.lt)).mono ?_
      rintro e w4 ⟨p, hp, rfl, hc4, hg4⟩
      have hpr := pick_list ⟨hy0, hy1⟩ ⟨hz0', hz1'⟩ hp
      have hown4 := own_far (own_alloc (own_far (own_far hown hg2 hgl) hg3 hgl) _) hg4 hgl
      have hchg4 := ((hchg.trans (Chg.of_cur hg2)).trans (Chg.of_cur hg3)).alloc (.cells #[.int .i64 0, .int .i64 1, .int .i64 2, .int .i64 999999999, .int .i64 500000000, .int .i64 y, .int .i64 z] 3) |>.trans (Chg.of_cur hg4)
      have hs4 := hchg4.size
      have HC4 := Lib.hid hc4
      have HH4 := Lib.hid hchg4
      have HP := Lib.hid (show DigN (out ++ [p]) from fun d hd => by
        rcases List.mem_append.1 hd with hd | hd
        · exact HD.out d hd
        · rw [List.mem_singleton.1 hd]; exact hpr)
      have hol : out.length + 1 ≤ 50 := by omega
      clear hown hcur hchg hrow hc2 hg2 hr2 hc3 hg3 hr3 hp hc4 hg4 hchg4 hpr
      go_wp2_with (at_builtin; refine wpList_append_own _ rfl _ _ 23 rfl w.heap.size 3 i0 (.int .i64 0) 1 8 Tryz.underlying23 hi0 hz0 hz1 hz2 rfl (by decide) _ _ _ rfl (own_alloc hown4 _) ⟨w4.heap.size, 0, none⟩ 1 1 [.int .i64 p] rfl rfl (one_new _ _ _) ?c2 ?c3 ?c4 ?c5 ?_)
      case c2 => first | (intro u hu; simp at hu; subst hu; rfl) | rfl
      case c3 => unfold maxLen; omega
      case c4 => omega
      case c5 => simp; omega
      intro v5 w5 hown5 hg5 _
      have HS : Hid (DrawRel most g v bs.length w v5 (.int .i64 ((m : Int) - 1)) w5) := Lib.hid (by
        refine ⟨m - 1, out ++ [p], by simp; omega, by congr 1; omega, HP.out, by simpa [intsV] using hown5, (HC4.out.alloc _).grown hg5 (fun e => by have := (own_lt hown4 e).1; omega), (HH4.out.alloc _).new_row hg5 (fun j hj => (own_lt hown4 hj).1)⟩)
      clear hown4 hown5 hg5
      go_wp2
      exact ⟨HS.out, by simp [intOf]; omega⟩
    · obtain rfl : m = 0 := by omega
      have HT := Lib.hid (drawn_trim out HD.out (by omega))
      go_wp2_with fail
      refine (specTrim_any _ out w.heap.size _ (by omega) hown).mono ?_
      rintro e w2 ⟨rfl, v2, rfl, ho2⟩
      go_wp2
      go_ret
      exact ⟨v2, trimL out, rfl, HT.out.1, by have := HT.out.2; omega, ho2, hcur, hchg⟩

/-- what MakeNats gives -/
def NatsPost (w : World) (e : Ending) (w' : World) : Prop :=
  ∃ (u v : Value) (a b : List Int), e = .returned (.tuple #[u, v]) ∧ natOkB a = true ∧ natOkB b = true ∧ a.length ≤ 5 ∧ b.length ≤ 5 ∧ w'.ownsRow w.heap.size 3 1 u a.length (intsV a) ∧ w'.ownsRow w.heap.size 3 1 v b.length (intsV b) ∧ Below w.heap.size w w'

end Go.Proofs.YtbfolegllhpkjaaGreatDoor

namespace Go.Proofs.YtbfolegllhpkjaaGreatDoor
open Go.RowKit

/-- block g holds the cells cs of type T -/
def BoxAt (g : Nat) (cs : Array Value) (T : TypeId) (w : World) : Prop := w.heap[g]? = some (.cells cs T (0, 0))
theorem box_at {g : Nat} {cs : Array Value} {T : TypeId} {w : World} (h : BoxAt g cs T w) : At [g] (BoxAt g cs T) w :=
  ⟨h, fun i hi => by simp at hi; subst hi; exact (Array.getElem?_eq_some_iff.1 h).1, fun w' hk => (hk g (by simp)).trans h⟩
theorem box_new (w : World) (cs : Array Value) (T : TypeId) : At [w.heap.size] (BoxAt w.heap.size cs T) (w.alloc (.cells cs T)) := box_at (heap_alloc_new w _)
theorem BoxAt.cell {g : Nat} {cs : Array Value} {T : TypeId} {w : World} (h : BoxAt g cs T w) (j : Nat) (u : Value) (hj : cs[j]? = some u) : w.cell? ⟨g, j, none⟩ = some u := by
  rw [Lib.cell_of_heap h]; exact hj
theorem below_al {W0 W : World} (h : Below W0.heap.size W0 W) (o : Obj) : Below W0.heap.size W0 (W.alloc o) := h.alloc h.size o
end Go.Proofs.YtbfolegllhpkjaaGreatDoor

namespace Go.Proofs.YtbfolegllhpkjaaGreatDoor
open Go.RowKit

/-- a signed number as data: its sign, its limbs -/
abbrev SI : Type := Bool × List Int
def zeroS : SI := (false, [])
/-- what IntOk answers -/
def okS (x : SI) : Bool := natOkB x.2 && (!x.1 || decide (0 < x.2.length))
/-- the number -/
def valS (x : SI) : Int := if x.1 = true then -(nval x.2) else nval x.2
/-- the signed number of an integer; zero where it wants more limbs than there may be -/
def ofZ (z : Int) : SI := if (limbs z.natAbs).length ≤ 50 then (decide (z < 0), limbs z.natAbs) else zeroS
theorem okS_parts {x : SI} (h : okS x = true) : natOkB x.2 = true ∧ (x.1 = true → 0 < x.2.length) := by
  unfold okS at h
  rw [Bool.and_eq_true] at h
  refine ⟨h.1, fun hn => ?_⟩
  rw [hn] at h
  simpa using h.2
theorem natOk_empty : natOkB [] = true := rfl
theorem zeroS_ok : okS zeroS = true := rfl
theorem zeroS_val : valS zeroS = 0 := rfl
theorem okS_pos {x : SI} (h : okS x = true) (hn : 0 < x.2.length) : 0 < nval x.2 := by
  have h1 := ok_ge (okS_parts h).1 hn
  have h2 := bp_pos (x.2.length - 1)
  omega
theorem nval_ok {xs : List Int} (h : natOkB xs = true) : 0 ≤ nval xs := nval_nonneg xs (natOk_parts h).1
theorem okS_sign {x : SI} (h : okS x = true) : x.1 = decide (valS x < 0) := by
  have hp := okS_parts h
  have h0 := nval_ok hp.1
  unfold valS
  cases hx : x.1 with
  | false => rw [if_neg (by decide)]; exact (decide_eq_false (by omega)).symm
  | true =>
    have := okS_pos h (hp.2 hx)
    rw [if_pos rfl]
    exact (decide_eq_true (by omega)).symm
theorem valS_abs (x : SI) (h : natOkB x.2 = true) : (valS x).natAbs = (nval x.2).toNat := by
  have h0 := nval_ok h
  unfold valS
  split <;> omega
/-- a right one is that of its number -/
theorem okS_ofZ {x : SI} (h : okS x = true) : ofZ (valS x) = x := by
  have hp := okS_parts h
  have hl := natOk_limbs hp.1
  have h50 := (natOk_parts hp.1).2.1
  unfold ofZ
  rw [valS_abs x hp.1, ← hl, if_pos h50, ← okS_sign h]
theorem limbs_zero_iff (n : Nat) : (limbs n).length = 0 ↔ n = 0 := by
  constructor
  · intro h
    have := limbs_val n
    rw [List.eq_nil_of_length_eq_zero h] at this
    have h2 : nval [] = 0 := rfl
    omega
  · rintro rfl; rw [limbs, dif_pos rfl]; rfl
theorem limbs_okL (n : Nat) (h : (limbs n).length ≤ 50) : natOkB (limbs n) = true := by
  unfold natOkB
  rw [Bool.and_eq_true, Bool.and_eq_true, all_dig]
  exact ⟨limbs_digN n, decide_eq_true h, decide_eq_true (limbs_lastN n)⟩
theorem ofZ_ok (z : Int) : okS (ofZ z) = true := by
  unfold ofZ
  split
  · rename_i h
    unfold okS
    rw [limbs_okL _ h, Bool.true_and]
    by_cases hz : z < 0
    · have : 0 < (limbs z.natAbs).length := by
        rcases Nat.eq_zero_or_pos (limbs z.natAbs).length with h0 | h0
        · rw [limbs_zero_iff] at h0; omega
        · exact h0
      simp [this]
    · simp [hz]
  · exact zeroS_ok
theorem ofZ_val {z : Int} (h : (limbs z.natAbs).length ≤ 50) : valS (ofZ z) = z := by
  unfold ofZ
  rw [if_pos h]
  unfold valS
  by_cases hz : z < 0
  · rw [if_pos (by simpa using hz), limbs_val]; omega
  · rw [if_neg (by simpa using hz), limbs_val]; omega
theorem ofZ_big {z : Int} (h : ¬ (limbs z.natAbs).length ≤ 50) : ofZ z = zeroS := by unfold ofZ; rw [if_neg h]
theorem ofZ_zero : ofZ 0 = zeroS := by unfold ofZ; rw [show (0 : Int).natAbs = 0 from rfl, show limbs 0 = [] by rw [limbs, dif_pos rfl], if_pos (by decide)]; rfl
theorem ofZ_len (z : Int) : (ofZ z).2.length ≤ 50 := (natOk_parts (okS_parts (ofZ_ok z)).1).2.1
/-- what the functions answer -/
def negS (x : SI) : SI := if okS x = true then ofZ (-(valS x)) else zeroS
def absS (x : SI) : SI := if okS x = true then ofZ (valS x).natAbs else zeroS
def addS (x y : SI) : SI := if okS x = true ∧ okS y = true then ofZ (valS x + valS y) else zeroS
def subS (x y : SI) : SI := if okS x = true ∧ okS y = true then ofZ (valS x - valS y) else zeroS
def mulS (x y : SI) : SI := if okS x = true ∧ okS y = true then ofZ (valS x * valS y) else zeroS
def cmpS (x y : SI) : Int := if okS x = true ∧ okS y = true then cmpI (valS x) (valS y) else 0
def sumS (l : List SI) : SI := if l.all okS = true then l.foldl addS zeroS else zeroS
theorem negS_val {x : SI} (h : okS x = true) : valS (negS x) = -(valS x) := by
  unfold negS
  rw [if_pos h]
  have hp := okS_parts h
  have e := valS_abs x hp.1
  refine ofZ_val ?_
  rw [Int.natAbs_neg, e, ← natOk_limbs hp.1]
  exact (natOk_parts hp.1).2.1
theorem negS_ok (x : SI) : okS (negS x) = true := by unfold negS; split; exact ofZ_ok _; exact zeroS_ok
/-- a sign and limbs laid together, as the document's value: the sign falls away where nothing is left -/
def mkS (n : Bool) (xs : List Int) : SI := (n && decide (0 < (capL xs).length), capL xs)
theorem mkS_limbs (n : Bool) (m : Nat) : mkS n (limbs m) = ofZ (if n = true then -(m : Int) else m) := by
  have e : (if n = true then -(m : Int) else (m : Int)).natAbs = m := by split <;> omega
  unfold mkS ofZ
  rw [e]
  unfold capL
  by_cases h : 50 < (limbs m).length
  · rw [if_pos h, if_neg (by omega)]
    cases n <;> rfl
  · rw [if_neg h, if_pos (by omega)]
    have hz := limbs_zero_iff m
    cases n with
    | false => simp
    | true =>
      simp only [Bool.true_and, if_true]
      congr 1
      by_cases h0 : m = 0
      · have := hz.2 h0
        rw [decide_eq_false (by omega), decide_eq_false (by omega)]
      · have : 0 < (limbs m).length := by
          rcases Nat.eq_zero_or_pos (limbs m).length with h1 | h1
          · exact absurd (hz.1 h1) h0
          · exact h1
        rw [decide_eq_true this, decide_eq_true (by omega)]
end Go.Proofs.YtbfolegllhpkjaaGreatDoor

namespace Go.Proofs.YtbfolegllhpkjaaGreatDoor
open Go.RowKit

/-- a value that stands for it, its limbs of the call's own -/
def OwnS (v : Value) (x : SI) (w : World) : Prop := ∃ u, v = .agg #[.bool x.1, u] ∧ OwnI u x.2 w
def MarkS (v : Value) (x : SI) (m : Int) (w : World) : Prop := ∃ u, v = .agg #[.bool x.1, u] ∧ MarkI u x.2 m w
/-- a value that reads as it -/
def RdS (w : World) (v : Value) (x : SI) : Prop := ∃ u, v = .agg #[.bool x.1, u] ∧ Row w 0 w.heap.size u (intsV x.2)
def szS (x : SI) : Int := szI x.2
theorem ownI_of {w : World} {base : Nat} {u : Value} {xs : List Int} (h : w.ownsRow base 3 1 u xs.length (intsV xs)) : OwnI u xs w := own_zero h
theorem OwnS.mk {u : Value} {x : SI} {w : World} (h : OwnI u x.2 w) : OwnS (.agg #[.bool x.1, u]) x w := ⟨u, rfl, h⟩
theorem OwnS.rd {v : Value} {x : SI} {w : World} (h : OwnS v x w) : RdS w v x := by
  obtain ⟨u, rfl, o⟩ := h
  exact ⟨u, rfl, o.row⟩
theorem row_form {w : World} {lo hi : Nat} {v : Value} {xs : List Value} (h : Row w lo hi v xs) : ∃ A c, v = .slice A xs.length c := by
  obtain ⟨A, c, rfl, _⟩ := h
  exact ⟨A, c, rfl⟩

/-- a new signed number -/
def NewS (x : SI) (w : World) (e : Ending) (w' : World) : Prop := ∃ u, e = .returned (.agg #[.bool x.1, u]) ∧ w'.ownsRow w.heap.size 3 1 u x.2.length (intsV x.2) ∧ Below w.heap.size w w'
theorem own_low {w : World} {base base' n : Nat} {e : TypeId} {v : Value} {xs : List Value} (h : w.ownsRow base e 1 v n xs) (hb : base' ≤ base) : w.ownsRow base' e 1 v n xs := by
  obtain ⟨hl, h | ⟨g, cap, cur, rfl, hg, r⟩⟩ := h
  · exact ⟨hl, .inl h⟩
  · exact ⟨hl, .inr ⟨g, cap, cur, rfl, by omega, r⟩⟩

/-- what is left of a budget -/
def leftI (left n : Int) : Int := if left - n < 0 then -1 else left - n


theorem alloc3 (w : World) (a b c : Obj) : (((w.alloc a).alloc b).alloc c).heap[w.heap.size]? = some a ∧ (((w.alloc a).alloc b).alloc c).heap[w.heap.size + 1]? = some b ∧ (((w.alloc a).alloc b).alloc c).heap[w.heap.size + 1 + 1]? = some c ∧ (((w.alloc a).alloc b).alloc c).heap.size = w.heap.size + 3 := by
  have s1 : (w.alloc a).heap.size = w.heap.size + 1 := by simp
  have s2 : ((w.alloc a).alloc b).heap.size = w.heap.size + 1 + 1 := by simp
  have s3 : (((w.alloc a).alloc b).alloc c).heap.size = w.heap.size + 1 + 1 + 1 := by simp
  have n1 := heap_alloc_new w a
  have n2 := heap_alloc_new (w.alloc a) b
  have n3 := heap_alloc_new ((w.alloc a).alloc b) c
  rw [s1] at n2
  rw [s2] at n3
  refine ⟨?_, ?_, n3, by rw [s3]⟩
  · rw [Below.heap_alloc _ _ _ (by omega), Below.heap_alloc _ _ _ (by omega)]; exact n1
  · rw [Below.heap_alloc _ _ _ (by omega)]; exact n2
theorem below3 (w : World) (a b c : Obj) : Below w.heap.size w (((w.alloc a).alloc b).alloc c) := (((Below.refl _ _).alloc (Nat.le_refl _) _).alloc (by simp) _).alloc (by simp; omega) _




/-! ### locals of type impl.Signed: a box, and the limbs that it leads to -/
theorem leftI_of {l n : Int} (h : n ≤ l) : leftI l n = l - n := by unfold leftI; rw [if_neg (by omega)]
theorem below_set2 {W0 W : World} {g : Nat} {a b : Value} (h : Below W0.heap.size W0 W) (hg : W0.heap.size ≤ g) : Below W0.heap.size W0 ((W.setCell ⟨g, 0, none⟩ a).setCell ⟨g, 1, none⟩ b) := (h.setCell (p := ⟨g, 0, none⟩) hg _).setCell (p := ⟨g, 1, none⟩) hg _
theorem own_at' {w : World} {base : Nat} {u : Value} {xs : List Int} (h : w.ownsRow base 3 1 u xs.length (intsV xs)) : At u.ownBlock.toList (OwnI u xs) w := own_at h
/-- a local in its box, with the memory that it leads to -/
def LocS (g : Nat) (u : Value) (x : SI) (W : World) : Prop := BoxAt g #[.bool x.1, u] 25 W ∧ OwnI u x.2 W
def locB (g : Nat) (u : Value) : List Nat := g :: u.ownBlock.toList
theorem LocS.at_ {g : Nat} {u : Value} {x : SI} {W : World} (h : LocS g u x W) : At (locB g u) (LocS g u x) W :=
  ⟨h, fun i hi => by
    rcases List.mem_cons.1 hi with rfl | hi
    · exact (Array.getElem?_eq_some_iff.1 h.1).1
    · exact (own_lt h.2 (by simpa using hi)).2,
    fun w' hk => ⟨(hk g (by simp [locB])).trans h.1, own_stays h.2 fun i hi => hk i (by simp [locB, hi])⟩⟩
/-- a new local: what a statement 'x := f(..)' leaves -/
def NewLoc (x : SI) (W0 : World) (s : Value) (W : World) : Prop := ∃ g u, s = .pointer (some ⟨g, 0, none⟩) ∧ At (locB g u) (LocS g u x) W ∧ Within (locB g u) W0.heap.size W.heap.size ∧ Below W0.heap.size W0 W
theorem newLoc_of {g : Nat} {u : Value} {x : SI} {W0 W : World} {B : Nat} (hb : BoxAt g #[.bool x.1, u] 25 W) (o : W.ownsRow B 3 1 u x.2.length (intsV x.2)) (hB : W0.heap.size ≤ B) (hg : W0.heap.size ≤ g) (hW : Below W0.heap.size W0 W) :
    NewLoc x W0 (.pointer (some ⟨g, 0, none⟩)) W := by
  refine ⟨g, u, rfl, LocS.at_ ⟨hb, own_zero o⟩, fun i hi => ?_, hW⟩
  rcases List.mem_cons.1 hi with rfl | hi
  · exact ⟨hg, (Array.getElem?_eq_some_iff.1 hb).1⟩
  · have := own_lt o (g := i) (by simpa using hi)
    exact ⟨by omega, this.2⟩
theorem newLoc_last {u : Value} {x : SI} {W0 W : World} {B : Nat} (o : W.ownsRow B 3 1 u x.2.length (intsV x.2)) (hB : W0.heap.size ≤ B) (hW : Below W0.heap.size W0 W) :
    NewLoc x W0 (.pointer (some ⟨W.heap.size, 0, none⟩)) (W.alloc (.cells #[.bool x.1, u] 25)) :=
  newLoc_of (heap_alloc_new W _) (own_alloc o _) hB hW.size (below_al hW _)
theorem newLoc_early {g : Nat} {u c0 c1 : Value} {x : SI} {W0 W : World} {B : Nat} (hb : BoxAt g #[c0, c1] 25 W) (o : W.ownsRow B 3 1 u x.2.length (intsV x.2)) (hB : W0.heap.size ≤ B) (hg : W0.heap.size ≤ g) (hW : Below W0.heap.size W0 W) :
    NewLoc x W0 (.pointer (some ⟨g, 0, none⟩)) ((W.setCell ⟨g, 0, none⟩ (.bool x.1)).setCell ⟨g, 1, none⟩ u) := by
  have hne := Lib.ownBlock_ne o hb (by decide)
  have hb' : W.heap[g]? = some (.cells #[c0, c1] 25 (0, 0)) := hb
  refine newLoc_of (B := B) (by simp [BoxAt, World.setCell, Array.getElem?_modify, hb']) (own_stays o fun i hi => ?_) hB hg (below_set2 hW hg)
  have : i ≠ g := fun e => hne (by rw [hi, e])
  exact (Below.heap_setCell _ _ _ _ this).trans (Below.heap_setCell _ _ _ _ this)
/-- a parameter's box: what it holds reads as x, whatever is new -/
theorem rdS_below {w W : World} {A : Option Addr} {c : Nat} {x : SI} (h : Row w 0 w.heap.size (.slice A x.2.length c) (intsV x.2)) (hb : Below w.heap.size w W) : RdS W (.agg #[.bool x.1, .slice A x.2.length c]) x :=
  ⟨_, rfl, (h.below hb (Nat.le_refl _)).wide (Nat.le_refl _) hb.size⟩
end Go.Proofs.YtbfolegllhpkjaaGreatDoor

namespace Go.Proofs.YtbfolegllhpkjaaGreatDoor
open Go.RowKit

/-- a nil slice of the call's own, or an argument, has no capacity -/
def NoCap (v : Value) : Prop := ∀ n c, v = .slice none n c → c = 0
theorem own_noCap {w : World} {base n : Nat} {e : TypeId} {v : Value} {xs : List Value} (h : w.ownsRow base e 1 v n xs) : NoCap v := by
  intro m c e1
  rcases h.2 with ⟨rfl, _⟩ | ⟨g, cap, cur, rfl, _⟩
  · injection e1 with _ _ e3
    exact e3.symm
  · cases e1
/-- append of a slice that reads as a list, nil let in -/
theorem append_row {P : Program} {w : World} {ops : Array Oper} {rest : List Oper} {o : Oper} {a : Act} {Q : Exit → Act → World → Prop} (hgd : o.guard = none) (s x : Operand) (t : TypeId)
    (ho : o.op = .call { callee := .builtin .append, args := #[s, x], argTypes := #[t, t] }) (base : Nat) (e : TypeId) (i : TypeInfo) (z : Value) (bytes : Nat) (ht : P.underlying t = some (.slice e)) (hi : P.info? e = some i)
    (hz : i.zero = some z) (hsize : i.size = 1) (hby : i.bytes = bytes) (hzs : z.cells.size = 1) (v : Value) (n : Nat) (xs : List Value) (hs : a.eval s = v) (hown : w.ownsRow base e 1 v n xs)
    (vx : Value) (lo hi' : Nat) (news : List Value) (hx : a.eval x = vx) (hr : Row w lo hi' vx news) (hnc : NoCap vx) (h1 : ∀ u ∈ news, u.oneCell' = true) (h63 : n + news.length ≤ maxLen) (hbytes : (n + news.length) * bytes ≤ 140737488355328) (hbase : base ≤ w.heap.size)
    (h : ∀ v' w', w'.ownsRow base e 1 v' (n + news.length) (xs ++ news) → w.grownBy w' v.ownBlock → wpList P ops Q rest (a.put o.dst v') w') : wpList P ops Q (o :: rest) a w := by
  obtain ⟨A, c, rfl, hA⟩ := hr
  cases A with
  | none =>
    obtain rfl : news = [] := by
      cases news with
      | nil => rfl
      | cons y r => obtain ⟨_, e, _⟩ := hA 0 y rfl; cases e
    obtain rfl : c = 0 := hnc _ _ rfl
    exact wpList_append_own_none hgd s x t ho base e i 1 ht hi v n xs hs hown hx (h v w (by simpa using hown) (World.grownBy.refl _ _))
  | some ad =>
    refine wpList_append_own _ hgd s x t ho base e i z 1 bytes ht hi hz hsize hby hzs (by omega) v n xs hs hown ad news.length c news hx (by omega) (fun j u hu => ?_) h1 h63 hbytes hbase ?_
    · obtain ⟨p, e, _, _, hc⟩ := hA j u hu
      cases e
      exact hc
    · intro v' w' h2 h3 _
      exact h v' w' h2 h3


/-- what NatDiv answers -/
def divN (a b : List Int) : List Int × List Int := if natOkB a = true ∧ natOkB b = true ∧ 0 < b.length then (limbs (nval a / nval b).toNat, limbs (nval a % nval b).toNat) else ([], [])
theorem two_nil {w w' : World} (hb : Below w.heap.size w w') : TwoRows [] [] w (.returned (.tuple #[.slice none 0 0, .slice none 0 0])) w' := ⟨_, _, rfl, nil_own, nil_own, (fun x y hx _ => by cases hx), hb⟩

end Go.Proofs.YtbfolegllhpkjaaGreatDoor
