/-
  JA1, StablePlain, ShareNum, ShareWt
-/
import Derived.Test.YtofehcpapdlcnabGreatDoorRows
import Derived.WalkKit
import Derived.WalkSpells
import Derived.WalkLawsBesides
import Derived.Deep.QuietTactic
import Derived.BigQuiet
import Derived.Lib.Hide
import Derived.Lib.Builder
namespace Go.Proofs.YtofehcpapdlcnabGreatDoor
open Go.RowKit

theorem ret_bool {a b : Bool} (h : a = b) : Ending.returned (.bool a) = .returned (.bool b) := by rw [h]
theorem ret_int {k : IntKind} {a b : Int} (h : a = b) : Ending.returned (.int k a) = .returned (.int k b) := by rw [h]
/-- the slice value v reads as xs, an element a cell; its cells, if any, lie in a block from lo on and below hi -/
def Row (w : World) (lo hi : Nat) (v : Value) (xs : List Value) : Prop :=
  ∃ A c, v = .slice A xs.length c ∧ ∀ j u, xs[j]? = some u → ∃ a : Addr, A = some a ∧ lo ≤ a.block ∧ a.block < hi ∧ w.cell? (a.add j) = some u

section
variable {w w' : World} {lo hi : Nat} {v : Value} {xs : List Value}

theorem block_add (a : Addr) (n : Nat) : (a.add n).block = a.block := by
  unfold Addr.add
  split <;> rfl

theorem cell_lt {w : World} {p : Addr} {u : Value} (h : w.cell? p = some u) : p.block < w.heap.size := by
  rcases Nat.lt_or_ge p.block w.heap.size with hl | hl
  · exact hl
  · simp [World.cell?, Array.getElem?_eq_none hl] at h
/-- the reading stays where the cells below hi stay -/
theorem Row.stays (h : Row w lo hi v xs) (hk : ∀ p : Addr, p.block < hi → w'.cell? p = w.cell? p) : Row w' lo hi v xs := by
  obtain ⟨A, c, rfl, h⟩ := h
  refine ⟨A, c, rfl, fun j u hj => ?_⟩
  obtain ⟨a, e, h1, h2, h3⟩ := h j u hj
  exact ⟨a, e, h1, h2, (hk _ (by rw [block_add]; exact h2)).trans h3⟩
theorem Row.below {B : Nat} (h : Row w lo hi v xs) (hb : Below B w w') (hB : hi ≤ B) : Row w' lo hi v xs :=
  h.stays fun _ hp => hb.cell (by omega)
theorem Row.drewN (h : Row w lo hi v xs) (n : Nat) : Row (w.drewN n) lo hi v xs := h.stays fun _ _ => rfl
theorem Row.wide {lo' hi' : Nat} (h : Row w lo hi v xs) (h1 : lo' ≤ lo) (h2 : hi ≤ hi') : Row w lo' hi' v xs := by
  obtain ⟨A, c, rfl, h⟩ := h
  refine ⟨A, c, rfl, fun j u hj => ?_⟩
  obtain ⟨a, e, k1, k2, k3⟩ := h j u hj
  exact ⟨a, e, by omega, by omega, k3⟩
theorem Row.nil_ (A : Option Addr) (c : Nat) : Row w lo hi (.slice A 0 c) [] := ⟨A, c, rfl, fun j u hj => absurd hj (by simp)⟩

/-- a row that the call owns reads as its cells -/
theorem Row.of_own {base : Nat} {e : TypeId} {n : Nat} (h : w.ownsRow base e 1 v n xs) : Row w base w.heap.size v xs := by
  obtain ⟨hl, h | ⟨g, cap, cur, rfl, hb, hh, _, _, hcs, ht⟩⟩ := h
  · obtain ⟨rfl, rfl⟩ := h
    obtain rfl : xs = [] := List.eq_nil_of_length_eq_zero (by omega)
    exact Row.nil_ _ _
  · have hln : xs.length = n := by omega
    refine ⟨some ⟨g, 0, none⟩, cap, by rw [hln], fun j u hu => ⟨_, rfl, hb, ?_, ?_⟩⟩
    · exact (Array.getElem?_eq_some_iff.1 hh).1
    · have e1 : (Addr.add ⟨g, 0, none⟩ j) = ⟨g, j, none⟩ := by
        unfold Addr.add
        split
        · simp_all
        · simp
      rw [e1, cell_of_row w g j cur e (0, 0) hh]
      have hj : j < xs.length := (List.getElem?_eq_some_iff.1 hu).1
      have h2 : cur.toList[j]? = some u := by
        rw [← List.getElem?_take_of_lt (show j < n * 1 by omega), ht]
        exact hu
      simpa using h2
end

/-- a row of the call's own stays where its block stays -/
theorem own_stays {w w' : World} {base size n : Nat} {e : TypeId} {v : Value} {xs : List Value} (h : w.ownsRow base e size v n xs) (hk : ∀ g, v.ownBlock = some g → w'.heap[g]? = w.heap[g]?) : w'.ownsRow base e size v n xs := by
  obtain ⟨hl, h | ⟨g, cap, cur, rfl, hb, hh, r⟩⟩ := h
  · exact ⟨hl, .inl h⟩
  · exact ⟨hl, .inr ⟨g, cap, cur, rfl, hb, (hk g rfl).trans hh, r⟩⟩
theorem own_lt {w : World} {base size n g : Nat} {e : TypeId} {v : Value} {xs : List Value} (h : w.ownsRow base e size v n xs) (hg : v.ownBlock = some g) : base ≤ g ∧ g < w.heap.size := by
  obtain ⟨_, ⟨rfl, _⟩ | ⟨g', cap, cur, rfl, hb, hh, _⟩⟩ := h
  · cases hg
  · cases hg
    exact ⟨hb, (Array.getElem?_eq_some_iff.1 hh).1⟩
theorem own_form {w : World} {base size n : Nat} {e : TypeId} {v : Value} {xs : List Value} (h : w.ownsRow base e size v n xs) (hn : 0 < n) : ∃ g cap, v = .slice (some ⟨g, 0, none⟩) n cap ∧ base ≤ g ∧ g < w.heap.size ∧ n ≤ cap := by
  obtain ⟨_, ⟨_, h0⟩ | ⟨g, cap, cur, e1, hb, hh, hc, _⟩⟩ := h
  · omega
  · exact ⟨g, cap, e1, hb, (Array.getElem?_eq_some_iff.1 hh).1, hc⟩
theorem own_below {w w' : World} {base size n : Nat} {e : TypeId} {v : Value} {xs : List Value} (h : w.ownsRow base e size v n xs) (hb : Below w.heap.size w w') : w'.ownsRow base e size v n xs :=
  own_stays h fun g hg => hb.block g (own_lt h hg).2
theorem own_alloc {w : World} {base size n : Nat} {e : TypeId} {v : Value} {xs : List Value} (h : w.ownsRow base e size v n xs) (o : Obj) : (w.alloc o).ownsRow base e size v n xs :=
  own_below h ((Below.refl _ _).alloc (Nat.le_refl _) o)
theorem grown_trans {a b c : World} {row : Option Nat} (h : a.grownBy b row) (k : b.grownBy c row) : a.grownBy c row :=
  ⟨k.os.trans h.os, k.tape.trans h.tape, k.output.trans h.output, Nat.le_trans h.size k.size, fun i hi hne => (k.block i (Nat.lt_of_lt_of_le hi h.size) hne).trans (h.block i hi hne)⟩
theorem below_drewN {B : Nat} {a w : World} (h : Below B a w) (n : Nat) : Below B a (w.drewN n) := ⟨h.os, h.tape, h.output, h.size, h.block⟩

/-- behind an append of something new onto a row of the call's own, old memory is as it was -/
theorem below_push {w wr w' : World} {B size n : Nat} {e : TypeId} {v : Value} {xs : List Value} {o : Obj} (hb : Below B w wr) (hB : B ≤ w.heap.size) (hown : wr.ownsRow B e size v n xs) (hg : (wr.alloc o).grownBy w' v.ownBlock) : Below B w w' := by
  have hs := hb.size
  exact (hb.alloc (by omega) o).grown hg (by simp; omega) (fun k hk => (own_lt hown hk).1)
theorem one_new (w : World) (x : Value) (t : TypeId) : ∀ (j : Nat) (u : Value), [x][j]? = some u → (w.alloc (.cells #[x] t)).cell? (Addr.add ⟨w.heap.size, 0, none⟩ j) = some u := by
  intro j u h
  cases j with
  | zero =>
    have : (Addr.add ⟨w.heap.size, 0, none⟩ 0) = ⟨w.heap.size, 0, none⟩ := rfl
    rw [this, World.cell?_alloc_at _ _ _ _ rfl]
    simpa using h
  | succ j => simp at h

theorem Below.next {a b c : World} (h : Below a.heap.size a b) (k : Below b.heap.size b c) : Below a.heap.size a c := h.trans (k.mono h.size)

theorem own_apart {w w' : World} {base size n : Nat} {e : TypeId} {v : Value} {xs : List Value} {row : Option Nat} (h : w.ownsRow base e size v n xs) (hg : w.grownBy w' row) (hne : ∀ g k, v.ownBlock = some g → row = some k → g ≠ k) : w'.ownsRow base e size v n xs :=
  own_stays h fun g hv => hg.block g (own_lt h hv).2 (fun e => hne g g hv e.symm rfl)
theorem own_drew {w : World} {base size n : Nat} {e : TypeId} {v : Value} {xs : List Value} (h : w.ownsRow base e size v n xs) (q : Nat) : (w.drewN q).ownsRow base e size v n xs := h
theorem decide_refl {α : Type} [DecidableEq α] (x : α) : decide (x = x) = true := decide_eq_true rfl
/-- where a row of the call's own lies -/
def Lies (v : Value) (lo hi : Nat) : Prop := ∀ g, v.ownBlock = some g → lo ≤ g ∧ g < hi
theorem Lies.of {w : World} {base size n : Nat} {e : TypeId} {v : Value} {xs : List Value} (h : w.ownsRow base e size v n xs) : Lies v base w.heap.size := fun _ hg => own_lt h hg
theorem Lies.apart {u v : Value} {a b c d : Nat} (h : Lies u a b) (k : Lies v c d) (hd : b ≤ c ∨ d ≤ a) : ∀ x y, u.ownBlock = some x → v.ownBlock = some y → x ≠ y := by
  intro x y hx hy
  have := h x hx
  have := k y hy
  omega
theorem own_len {w : World} {base n : Nat} {e : TypeId} {v : Value} {xs : List Value} (h : w.ownsRow base e 1 v n xs) : ∃ A c, v = .slice A n c := by
  rcases h.2 with ⟨rfl, rfl⟩ | ⟨g, cap, cur, rfl, _⟩
  · exact ⟨_, _, rfl⟩
  · exact ⟨_, _, rfl⟩
end Go.Proofs.YtofehcpapdlcnabGreatDoor

namespace Go.Proofs.YtofehcpapdlcnabGreatDoor
open Go.RowKit

/-- ints as cells -/
def intsV (xs : List Int) : List Value := xs.map (Value.int .i64)
theorem intsV_length (xs : List Int) : (intsV xs).length = xs.length := by simp [intsV]
theorem intsV_at (xs : List Int) (k : Nat) (h : k < xs.length) : (intsV xs)[k]? = some (.int .i64 xs[k]) := by simp [intsV, h]

theorem take_same_succ {α : Type} {ss ts : List α} {k : Nat} (h : ss.take k = ts.take k) (h1 : k < ss.length) (h2 : k < ts.length) (e : ss[k] = ts[k]) : ss.take (k + 1) = ts.take (k + 1) := by
  rw [List.take_succ_eq_append_getElem h1, List.take_succ_eq_append_getElem h2, h, e]
theorem ne_of_at {α : Type} {ss ts : List α} {k : Nat} (h1 : k < ss.length) (h2 : k < ts.length) (e : ¬ ss[k] = ts[k]) : ¬ ss = ts := by
  intro h
  subst h
  exact e rfl
theorem same_of_takes {α : Type} {ss ts : List α} {k : Nat} (h : ss.take k = ts.take k) (hl : ss.length = ts.length) (hk : ¬ k < ss.length) : ss = ts := by
  rwa [List.take_of_length_le (by omega), List.take_of_length_le (by omega)] at h

set_option maxHeartbeats 400000 in
set_option maxRecDepth 100000 in
theorem eqIntS_any (va vb : Value) (ss ts : List Int) (la ha lb hb : Nat) (w : World) (hl : ss.length ≤ 9223372036854775807)
    (hra : Row w la ha va (intsV ss)) (hrb : Row w lb hb vb (intsV ts)) :
    Calls Tryz.prog 15 #[va, vb] w fun e w' => e = .returned (.bool (decide (ss = ts))) ∧ ∃ q, w.drewN q = w' := by
  obtain ⟨A, c, rfl, hA⟩ := hra
  obtain ⟨B, d, rfl, hB⟩ := hrb
  rw [intsV_length, intsV_length]
  have HA := Lib.hid hA
  have HB := Lib.hid hB
  clear hA hB
  by_cases hlen : ss.length = ts.length
  · have HL := Lib.hid hlen
    have hbe : ((ss.length : Int) != (ts.length : Int)) = false := by simp [hlen]
    clear hlen
    go_enter Tryz.func15, Tryz.ntmps15
    go_wp2
    go_loopw [5] (fun i wr => ∃ k q : Nat, k ≤ ss.length ∧ i = .int .i64 k ∧ wr = w.drewN q ∧ Hid (ss.take k = ts.take k)) (fun i _ => ss.length - (intOf i).toNat)
    case atStart => exact ⟨0, 0, Nat.zero_le _, rfl, rfl, Lib.hid rfl⟩
    case round =>
      obtain ⟨k, q, hk, rfl, rfl, HT⟩ := hrel
      by_cases hlt : k < ss.length
      · have hlt2 : k < ts.length := by have := HL.out; omega
        obtain ⟨a, rfl, _, _, hca⟩ := HA.out k _ (intsV_at ss k hlt)
        obtain ⟨b, rfl, _, _, hcb⟩ := HB.out k _ (intsV_at ts k hlt2)
        by_cases he : ss[k] = ts[k]
        · rw [← he] at hcb
          have HE := Lib.hid he
          clear he
          go_wp2
          go_quiet (fail)
          go_wp2
          go_roundw
          case rel => exact ⟨k + 1, _, by omega, by go_num, rfl, Lib.hid (take_same_succ HT.out hlt hlt2 HE.out)⟩
          case measure => simp [intOf]; omega
        · have hne : (ss[k] != ts[k]) = true := by rw [bne_iff_ne]; exact he
          have hne2 : (ss[k] == ts[k]) = false := by rw [beq_eq_false_iff_ne]; exact he
          go_wp2
          go_quiet (fail)
          go_wp2
          go_ret
          exact ⟨ret_bool (decide_eq_false (ne_of_at hlt hlt2 he)).symm, _, (World.drewN_drewN _ _ _).symm⟩
      · go_wp2
        go_ret
        exact ⟨ret_bool (decide_eq_true (same_of_takes HT.out HL.out hlt)).symm, q, rfl⟩
  · have hbe : ((ss.length : Int) != (ts.length : Int)) = true := by simp; omega
    go_enter Tryz.func15, Tryz.ntmps15
    go_wp2
    go_ret
    exact ⟨ret_bool (decide_eq_false (fun e => hlen (by rw [e]))).symm, 0, rfl⟩

/-- the numbers from m on -/
def marksI (m : Int) (n : Nat) : List Value := (List.range n).map fun i : Nat => Value.int .i64 (m + (i : Int))
theorem marksI_succ (m : Int) (n : Nat) : marksI m (n + 1) = marksI m n ++ [Value.int .i64 (m + (n : Int))] := by
  simp [marksI, List.range_succ]
theorem marksI_length (m : Int) (n : Nat) : (marksI m n).length = n := by simp [marksI]
theorem marksI_get (m : Int) (n k : Nat) (h : k < n) : (marksI m n)[k]? = some (Value.int .i64 (m + (k : Int))) := by simp [marksI, h]
theorem setI_mid (m : Int) (k : Nat) (xs : List Value) (h : k < xs.length) : (marksI m k ++ xs.drop k).set k (Value.int .i64 (m + (k : Int))) = marksI m (k + 1) ++ xs.drop (k + 1) := by
  rw [List.set_append_right _ _ (by rw [marksI_length]; omega), marksI_length, Nat.sub_self, List.drop_eq_getElem_cons h, List.set_cons_zero, marksI_succ, List.append_assoc]
  rfl

set_option maxHeartbeats 400000 in
set_option maxRecDepth 100000 in
/-- marking writes the numbers from m on -/
theorem markIntS_any (v : Value) (n : Nat) (xs : List Value) (base : Nat) (m : Int) (w : World) (hm : m + n ≤ 9223372036854775807) (hm0 : 0 ≤ m)
    (ho : w.ownsRow base 3 1 v n xs) :
    Calls Tryz.prog 20 #[v, .int .i64 m] w fun e w' => e = .returned (.int .i64 (m + n)) ∧ w'.ownsRow base 3 1 v n (marksI m n) ∧ w.grownBy w' v.ownBlock := by
  rcases ho.2 with ⟨rfl, rfl⟩ | ⟨g, cap, cur, rfl, hb, hh, hnc, hcm, hcs, ht⟩
  · go_enter Tryz.func20, Tryz.ntmps20
    go_wp2
    refine wp_loop_rounds 1 ?_
    rw [rounds_succ]
    go_wp2
    go_ret
    exact ⟨ret_int (by omega), ⟨rfl, .inl ⟨rfl, rfl⟩⟩, World.grownBy.refl _ _⟩
  · have hxl := Lib.hid ho.1
    have HO := Lib.hid ho
    clear ho hh hcs ht
    go_enter Tryz.func20, Tryz.ntmps20
    go_wp2
    go_loopw [1, 5] (fun a i wr => ∃ k : Nat, k ≤ n ∧ i = .int .i64 k ∧ a = .int .i64 (m + k) ∧ wr.ownsRow base 3 1 (.slice (some ⟨g, 0, none⟩) n cap) n (marksI m k ++ xs.drop k) ∧ w.grownBy wr (some g)) (fun _ i _ => n - (intOf i).toNat)
    case atStart => exact ⟨0, Nat.zero_le _, rfl, by simp, HO.out, World.grownBy.refl _ _⟩
    case round =>
      obtain ⟨k, hk, rfl, rfl, ho, hg⟩ := hrel
      by_cases hlt : k < n
      · have hcell := ho.cellAt k (by omega)
        rw [List.getElem?_eq_getElem (by simp [marksI_length]; have := hxl.out; omega)] at hcell
        have hfr := ho.frozenAt k
        obtain ⟨ho2, hg2⟩ := ho.stored k (Value.int .i64 (m + (k : Int)))
        rw [setI_mid m k xs (by have := hxl.out; omega)] at ho2
        have hg3 := grown_trans hg hg2
        clear ho hg hg2
        go_wp2
        go_roundw
        case rel => exact ⟨k + 1, by omega, by go_num, by go_num, ho2, hg3⟩
        case measure => simp [intOf]; omega
      · obtain rfl : k = n := by omega
        rw [List.drop_of_length_le (by have := hxl.out; omega), List.append_nil] at ho
        go_wp2
        go_ret
        exact ⟨rfl, ho, hg⟩

set_option maxHeartbeats 400000 in
set_option maxRecDepth 100000 in
/-- a slice that bears the numbers from m on is held -/
theorem heldIntS_any (v : Value) (n lo hi : Nat) (m : Int) (w : World) (hm : m + n ≤ 9223372036854775807) (hm0 : 0 ≤ m)
    (hr : Row w lo hi v (marksI m n)) :
    Calls Tryz.prog 64 #[v, .int .i64 m] w fun e w' => e = .returned (.int .i64 (m + n)) ∧ w = w' := by
  obtain ⟨A, c, rfl, hA⟩ := hr
  rw [marksI_length]
  have HA := Lib.hid hA
  clear hA
  go_enter Tryz.func64, Tryz.ntmps64
  go_wp2
  go_loop [1, 5] (fun a i => ∃ k : Nat, k ≤ n ∧ i = .int .i64 k ∧ a = .int .i64 (m + k)) (fun _ i => n - (intOf i).toNat)
  case atStart => exact ⟨0, Nat.zero_le _, rfl, by simp⟩
  case round =>
    obtain ⟨k, hk, rfl, rfl⟩ := hrel
    by_cases hlt : k < n
    · obtain ⟨a, rfl, _, hab, hca⟩ := HA.out k _ (marksI_get m n k hlt)
      go_wp2
      go_round
      case rel => exact ⟨k + 1, by omega, by go_num, by go_num⟩
      case measure => simp [intOf]; omega
    · obtain rfl : k = n := by omega
      go_wp2
      go_ret
      exact ⟨rfl, rfl⟩

theorem intInfo : (Tryz.prog.info? 3).map (fun i => (i.zero, i.size, i.bytes)) = some (some (.int .i64 0), 1, 8) := by kernel_rfl
theorem make_ints (n : Nat) (hn : n ≤ 1099511627776) (W : World) :
    (Instr.makeSlice 22 (.int .i64 (n : Int)) (.int .i64 (n : Int))).run Tryz.prog W = .ok (.slice (some ⟨W.heap.size, 0, none⟩) n n) (W.alloc (.cells (madeCells #[.int .i64 0] n) 3)) := by
  obtain ⟨i0, hi, hz0, hz1, hz2⟩ := info_parts intInfo
  have h := run_make (P := Tryz.prog) W 22 3 i0 (.int .i64 0) Tryz.underlying22 hi hz0 .i64 .i64 (n : Int) (n : Int) (by omega) (by omega) (by rw [hz2]; omega) (by omega)
  rw [hz1, Int.toNat_natCast, Nat.mul_one] at h
  exact h
theorem setI_copy (xs ys : List Value) (k : Nat) (u : Value) (hx : xs.length = ys.length) (h : k < ys.length) (hu : ys[k]? = some u) : (ys.take k ++ xs.drop k).set k u = ys.take (k + 1) ++ xs.drop (k + 1) := by
  have hl : (ys.take k).length = k := by rw [List.length_take]; omega
  have hyk : ys[k] = u := by rw [List.getElem?_eq_getElem h] at hu; injection hu
  rw [List.set_append_right _ _ (by omega), hl, Nat.sub_self, List.drop_eq_getElem_cons (by omega), List.set_cons_zero, List.take_succ_eq_append_getElem h, hyk, List.append_assoc]
  rfl

/-- a new row of ints that the call owns -/
def NewInts (xs : List Int) (w : World) (e : Ending) (w' : World) : Prop :=
  ∃ v, e = .returned v ∧ w'.ownsRow w.heap.size 3 1 v xs.length (intsV xs) ∧ Below w.heap.size w w'

set_option maxHeartbeats 400000 in
set_option maxRecDepth 100000 in
theorem toIntS_any (v : Value) (ss : List Int) (lo hi : Nat) (w : World) (hhi : hi ≤ w.heap.size) (hn : ss.length ≤ 1048576) (hr : Row w lo hi v (intsV ss)) :
    Calls Tryz.prog 11 #[v] w (NewInts ss w) := by
  obtain ⟨A, c, rfl, hA⟩ := hr
  have HA := Lib.hid hA
  have hmk := make_ints ss.length (by omega)
  rw [intsV_length]
  clear hA
  go_enter Tryz.func11, Tryz.ntmps11
  go_wp2
  go_loopw [4] (fun i wr => ∃ k : Nat, k ≤ ss.length ∧ i = .int .i64 k ∧ wr.ownsRow w.heap.size 3 1 (.slice (some ⟨w.heap.size, 0, none⟩) ss.length ss.length) ss.length ((intsV ss).take k ++ (List.replicate ss.length (Value.int .i64 0)).drop k) ∧ Below w.heap.size w wr) (fun i _ => ss.length - (intOf i).toNat)
  case atStart =>
    refine ⟨0, Nat.zero_le _, rfl, ?_, (Below.refl _ _).alloc (Nat.le_refl _) _⟩
    have h := World.ownsRow_lit (e := 3) (size := 1) (base := w.heap.size) w (madeCells #[.int .i64 0] ss.length) ss.length (Nat.le_refl _) (by unfold maxLen; omega) (by rw [size_madeCells, Nat.mul_one])
    rw [toList_madeCells_one] at h
    exact h
  case round =>
    obtain ⟨k, hk, rfl, ho, hb⟩ := hrel
    by_cases hlt : k < ss.length
    · obtain ⟨a, rfl, _, hab, hca⟩ := HA.out k _ (intsV_at ss k hlt)
      have hca' : wr.cell? (a.add k) = some (.int .i64 ss[k]) := (hb.cell (by rw [block_add]; omega)).trans hca
      clear hca
      have hcell := ho.cellAt k (by omega)
      rw [List.getElem?_eq_getElem (by simp [intsV_length]; omega)] at hcell
      have hfr := ho.frozenAt k
      obtain ⟨ho2, hg2⟩ := ho.stored k (.int .i64 ss[k])
      rw [setI_copy _ _ k _ (by simp [intsV_length]) (by rw [intsV_length]; exact hlt) (intsV_at ss k hlt)] at ho2
      have hb2 := hb.grown hg2 hb.size (fun g hg => by cases hg; exact Nat.le_refl _)
      clear ho hg2
      go_wp2
      go_roundw
      case rel => exact ⟨k + 1, by omega, by go_num, ho2, hb2⟩
      case measure => simp [intOf]; omega
    · obtain rfl : k = ss.length := by omega
      rw [List.take_of_length_le (by rw [intsV_length]; exact Nat.le_refl _), List.drop_of_length_le (by simp), List.append_nil] at ho
      go_wp2
      go_ret
      exact ⟨_, rfl, ho, hb⟩
end Go.Proofs.YtofehcpapdlcnabGreatDoor

namespace Go.Proofs.YtofehcpapdlcnabGreatDoor
open Go.RowKit

/-- a fact of a world that leans on the blocks S alone -/
structure At (S : List Nat) (φ : World → Prop) (w : World) : Prop where
  here : φ w
  lt : ∀ g ∈ S, g < w.heap.size
  stays : ∀ w' : World, (∀ g ∈ S, w'.heap[g]? = w.heap[g]?) → φ w'

section
variable {S T : List Nat} {φ : World → Prop} {w w' w1 w2 : World} {B : Nat}
theorem At.move (h : At S φ w) (hk : ∀ g ∈ S, w'.heap[g]? = w.heap[g]?) (hz : w.heap.size ≤ w'.heap.size) : At S φ w' :=
  ⟨h.stays w' hk, fun g hg => Nat.lt_of_lt_of_le (h.lt g hg) hz, fun w'' hk' => h.stays w'' fun g hg => (hk' g hg).trans (hk g hg)⟩
theorem At.below (h : At S φ w) (hb : Below w.heap.size w w') : At S φ w' := h.move (fun g hg => hb.block g (h.lt g hg)) hb.size
theorem At.drewN (h : At S φ w) (q : Nat) : At S φ (w.drewN q) := h.move (fun _ _ => rfl) (Nat.le_refl _)
theorem At.imp {ψ : World → Prop} (h : At S φ w) (hi : ∀ w', φ w' → ψ w') : At S ψ w := ⟨hi _ h.here, h.lt, fun w' hk => hi _ (h.stays w' hk)⟩

/-- only blocks of T, and new ones, are other than they were -/
structure Chg (T : List Nat) (w w' : World) : Prop where
  os : w'.os = w.os
  tape : w'.tape = w.tape
  output : w'.output = w.output
  size : w.heap.size ≤ w'.heap.size
  block : ∀ i, i < w.heap.size → i ∉ T → w'.heap[i]? = w.heap[i]?
theorem Chg.of_grown {v : Value} (h : w.grownBy w' v.ownBlock) : Chg v.ownBlock.toList w w' :=
  ⟨h.os, h.tape, h.output, h.size, fun i hi hn => h.block i hi (fun e => hn (by rw [← e]; simp))⟩
theorem Chg.refl (T : List Nat) (w : World) : Chg T w w := ⟨rfl, rfl, rfl, Nat.le_refl _, fun _ _ _ => rfl⟩
theorem Chg.trans (h : Chg T w w1) (k : Chg T w1 w2) : Chg T w w2 :=
  ⟨k.os.trans h.os, k.tape.trans h.tape, k.output.trans h.output, Nat.le_trans h.size k.size, fun i hi hn => (k.block i (Nat.lt_of_lt_of_le hi h.size) hn).trans (h.block i hi hn)⟩
theorem Chg.of_below (h : Below w.heap.size w w') : Chg T w w' := ⟨h.os, h.tape, h.output, h.size, fun i hi _ => h.block i hi⟩
theorem Chg.more {U : List Nat} (h : Chg T w w') (hs : ∀ g ∈ T, g ∈ U) : Chg U w w' := ⟨h.os, h.tape, h.output, h.size, fun i hi hn => h.block i hi (fun hm => hn (hs i hm))⟩
theorem At.chg (h : At S φ w) (c : Chg T w w') (hd : ∀ g ∈ S, g ∉ T) : At S φ w' := h.move (fun g hg => c.block g (h.lt g hg) (hd g hg)) c.size
theorem below_chg (hb : Below B w w1) (c : Chg T w1 w2) (hB : B ≤ w1.heap.size) (hT : ∀ g ∈ T, B ≤ g) : Below B w w2 :=
  ⟨c.os.trans hb.os, c.tape.trans hb.tape, c.output.trans hb.output, Nat.le_trans hb.size c.size,
    fun i hi => (c.block i (Nat.lt_of_lt_of_le hi hB) (fun hm => by have := hT i hm; omega)).trans (hb.block i hi)⟩

theorem Chg.setCell (h : Chg T w w1) {p : Addr} (hp : p.block ∈ T) (u : Value) : Chg T w (w1.setCell p u) :=
  ⟨h.os, h.tape, h.output, by simpa [World.setCell] using h.size, fun i hi hn => (Below.heap_setCell _ _ _ _ (fun e => hn (by rw [e]; exact hp))).trans (h.block i hi hn)⟩

/-- where blocks lie -/
def Within (S : List Nat) (lo hi : Nat) : Prop := ∀ g ∈ S, lo ≤ g ∧ g < hi
theorem Within.apart {a b c d : Nat} (h : Within S a b) (k : Within T c d) (hd : b ≤ c ∨ d ≤ a) : ∀ g ∈ S, g ∉ T := by
  intro g hg hm
  have h1 := h g hg
  have h2 := k g hm
  omega
theorem Within.from {a b B : Nat} (h : Within S a b) (hB : B ≤ a) : ∀ g ∈ S, B ≤ g := fun g hg => Nat.le_trans hB (h g hg).1
theorem apart_symm (h : ∀ g ∈ S, g ∉ T) : ∀ g ∈ T, g ∉ S := fun g hg hm => h g hm hg
end

/-! ### slices of ints -/
def OwnI (v : Value) (xs : List Int) (w : World) : Prop := w.ownsRow 0 3 1 v xs.length (intsV xs)
def MarkI (v : Value) (xs : List Int) (m : Int) (w : World) : Prop := w.ownsRow 0 3 1 v xs.length (marksI m xs.length)
def szI (xs : List Int) : Int := xs.length
theorem own_zero {w : World} {base n : Nat} {e : TypeId} {v : Value} {xs : List Value} (h : w.ownsRow base e 1 v n xs) : w.ownsRow 0 e 1 v n xs := by
  obtain ⟨hl, h | ⟨g, cap, cur, rfl, hg, r⟩⟩ := h
  · exact ⟨hl, .inl h⟩
  · exact ⟨hl, .inr ⟨g, cap, cur, rfl, Nat.zero_le _, r⟩⟩
theorem own_at {w : World} {base n : Nat} {e : TypeId} {v : Value} {xs : List Value} (h : w.ownsRow base e 1 v n xs) : At v.ownBlock.toList (fun w => w.ownsRow 0 e 1 v n xs) w :=
  ⟨own_zero h, fun g hg => (own_lt h (by simpa using hg)).2, fun w' hk => own_stays (own_zero h) fun g hg => hk g (by rw [hg]; simp)⟩
theorem own_within {w : World} {base n : Nat} {e : TypeId} {v : Value} {xs : List Value} (h : w.ownsRow base e 1 v n xs) : Within v.ownBlock.toList base w.heap.size := fun g hg => own_lt h (by simpa using hg)
theorem OwnI.row {v : Value} {xs : List Int} {w : World} (h : OwnI v xs w) : Row w 0 w.heap.size v (intsV xs) := Row.of_own h

/-- a new value: its blocks, all new -/
def NewV (φ : Value → World → Prop) (w : World) (e : Ending) (w' : World) : Prop := ∃ v S, e = .returned v ∧ At S (φ v) w' ∧ Within S w.heap.size w'.heap.size ∧ Below w.heap.size w w'
theorem NewInts.newV {xs : List Int} {w w' : World} {e : Ending} (h : NewInts xs w e w') : NewV (fun v => OwnI v xs) w e w' := by
  obtain ⟨v, rfl, o, b⟩ := h
  exact ⟨v, _, rfl, own_at o, own_within o, b⟩

theorem markIntS_at (v : Value) (xs : List Int) (S : List Nat) (m : Int) (w : World) (hm : m + szI xs ≤ 9223372036854775807) (hm0 : 0 ≤ m) (h : At S (OwnI v xs) w) :
    Calls Tryz.prog 20 #[v, .int .i64 m] w fun e w' => e = .returned (.int .i64 (m + szI xs)) ∧ At S (MarkI v xs m) w' ∧ Chg S w w' := by
  have hS : ∀ g, v.ownBlock = some g → g ∈ S := by
    intro g hg
    rcases Classical.em (g ∈ S) with hin | hout
    · exact hin
    · exfalso
      have hst := h.stays { w with heap := w.heap.set! g (.cells #[] 4 (0, 0)) } (fun i hi => by
        have : i ≠ g := fun e => hout (e ▸ hi)
        simp [Ne.symm this])
      have hlt := (own_lt h.here hg).2
      obtain ⟨_, ⟨rfl, _⟩ | ⟨g', cap, cur, rfl, _, hh, _⟩⟩ := hst
      · cases hg
      · cases hg
        have hlt' : g' < w.heap.size := hlt
        have hh' : (w.heap.setIfInBounds g' (.cells #[] 4 (0, 0)))[g']? = some (.cells cur 3 (0, 0)) := hh
        rw [Array.getElem?_setIfInBounds_self_of_lt hlt'] at hh'
        simp at hh'
  refine (markIntS_any v xs.length (intsV xs) 0 m w hm hm0 h.here).mono ?_
  rintro e w' ⟨rfl, ho, hg⟩
  have hc : Chg S w w' := (Chg.of_grown hg).more (fun g hg => hS g (by simpa using hg))
  exact ⟨rfl, ⟨ho, fun g hg => Nat.lt_of_lt_of_le (h.lt g hg) hc.size, fun w'' hk => own_stays ho fun g hg => hk g (hS g hg)⟩, hc⟩
/-! ### what calls answer -/
def Postn (R0 : Int) (w : World) (e : Ending) (w' : World) : Prop :=
  e = .returned (.int .i64 R0) ∧ Below w.heap.size w w'
def Postb (R0 : Bool) (w : World) (e : Ending) (w' : World) : Prop :=
  e = .returned (.bool R0) ∧ Below w.heap.size w w'
end Go.Proofs.YtofehcpapdlcnabGreatDoor

namespace Go.Proofs.YtofehcpapdlcnabGreatDoor
open Go.RowKit

/-- block g holds the cells cs of type T -/
def BoxAt (g : Nat) (cs : Array Value) (T : TypeId) (w : World) : Prop := w.heap[g]? = some (.cells cs T (0, 0))
theorem box_at {g : Nat} {cs : Array Value} {T : TypeId} {w : World} (h : BoxAt g cs T w) : At [g] (BoxAt g cs T) w :=
  ⟨h, fun i hi => by simp at hi; subst hi; exact (Array.getElem?_eq_some_iff.1 h).1, fun w' hk => (hk g (by simp)).trans h⟩
theorem box_new (w : World) (cs : Array Value) (T : TypeId) : At [w.heap.size] (BoxAt w.heap.size cs T) (w.alloc (.cells cs T)) := box_at (heap_alloc_new w _)
theorem BoxAt.cell {g : Nat} {cs : Array Value} {T : TypeId} {w : World} (h : BoxAt g cs T w) (j : Nat) (u : Value) (hj : cs[j]? = some u) : w.cell? ⟨g, j, none⟩ = some u := by
  rw [Lib.cell_of_heap h]; exact hj
theorem below_al {W0 W : World} (h : Below W0.heap.size W0 W) (o : Obj) : Below W0.heap.size W0 (W.alloc o) := h.alloc h.size o
end Go.Proofs.YtofehcpapdlcnabGreatDoor

namespace Go.Proofs.YtofehcpapdlcnabGreatDoor
open Go.RowKit

/-- the number that limbs stand for -/
def nval : List Int → Int
  | [] => 0
  | d :: r => d + 1000000000 * nval r
/-- every limb is in range -/
def DigN (xs : List Int) : Prop := ∀ d ∈ xs, 0 ≤ d ∧ d ≤ 999999999
/-- without zeros at its end -/
def trimL : List Int → List Int
  | [] => []
  | d :: r => if trimL r = [] ∧ d = 0 then [] else d :: trimL r
/-- the limbs of a number -/
def limbs (n : Nat) : List Int := if h : n = 0 then [] else ((n % 1000000000 : Nat) : Int) :: limbs (n / 1000000000)
termination_by n
decreasing_by omega
/-- what NatOk asks -/
def digB (d : Int) : Bool := decide (0 ≤ d ∧ d ≤ 999999999)
def natOkB (xs : List Int) : Bool := xs.all digB && (decide (xs.length ≤ 50) && decide (xs.getLastD 1 ≠ 0))
theorem all_dig (xs : List Int) : xs.all digB = true ↔ DigN xs := by
  rw [List.all_eq_true]
  constructor
  · intro h d hd
    exact of_decide_eq_true (h d hd)
  · intro h d hd
    exact decide_eq_true (h d hd)

theorem DigN.tail {d : Int} {r : List Int} (h : DigN (d :: r)) : DigN r := fun x hx => h x (by simp [hx])
theorem DigN.head {d : Int} {r : List Int} (h : DigN (d :: r)) : 0 ≤ d ∧ d ≤ 999999999 := h d (by simp)
theorem DigN.cons {d : Int} {r : List Int} (h0 : 0 ≤ d) (h1 : d ≤ 999999999) (h : DigN r) : DigN (d :: r) := by
  intro x hx
  rcases List.mem_cons.1 hx with rfl | hx
  · exact ⟨h0, h1⟩
  · exact h x hx
theorem DigN.drop {xs : List Int} (h : DigN xs) (k : Nat) : DigN (xs.drop k) := fun x hx => h x (List.mem_of_mem_drop hx)
theorem DigN.take {xs : List Int} (h : DigN xs) (k : Nat) : DigN (xs.take k) := fun x hx => h x (List.mem_of_mem_take hx)
theorem DigN.at_ {xs : List Int} (h : DigN xs) (k : Nat) (hk : k < xs.length) : 0 ≤ xs[k] ∧ xs[k] ≤ 999999999 := h _ (List.getElem_mem hk)
theorem nval_nonneg (xs : List Int) (h : DigN xs) : 0 ≤ nval xs := by
  induction xs with
  | nil => exact Int.le_refl _
  | cons d r ih => have := ih h.tail; have := h.head; unfold nval; omega
theorem nval_zero (xs : List Int) (h : DigN xs) : nval xs = 0 ↔ trimL xs = [] := by
  induction xs with
  | nil => simp [nval, trimL]
  | cons d r ih =>
    have h1 := ih h.tail
    have h2 := h.head
    have h3 := nval_nonneg r h.tail
    unfold nval trimL
    constructor
    · intro e
      rw [if_pos ⟨h1.1 (by omega), by omega⟩]
    · intro e
      split at e
      · rename_i hc
        have := h1.2 hc.1
        omega
      · cases e
/-- limbs in range, without zeros at the end, are those of their number -/
theorem trim_limbs (xs : List Int) (h : DigN xs) : trimL xs = limbs (nval xs).toNat := by
  induction xs with
  | nil => rw [limbs]; simp [trimL, nval]
  | cons d r ih =>
    have h1 := ih h.tail
    have h2 := h.head
    have h3 := nval_nonneg r h.tail
    have hz := nval_zero r h.tail
    unfold trimL
    by_cases hc : trimL r = [] ∧ d = 0
    · rw [if_pos hc]
      have : nval r = 0 := hz.2 hc.1
      rw [limbs, dif_pos (by unfold nval; omega)]
    · rw [if_neg hc]
      have hne : ¬ (nval (d :: r)).toNat = 0 := by
        unfold nval
        intro e
        exact hc ⟨hz.1 (by omega), by omega⟩
      rw [limbs, dif_neg hne, h1, show nval (d :: r) = d + 1000000000 * nval r from rfl]
      rw [show (d + 1000000000 * nval r).toNat / 1000000000 = (nval r).toNat from by omega, show (((d + 1000000000 * nval r).toNat % 1000000000 : Nat) : Int) = d from by omega]
theorem trim_last (xs : List Int) (h : xs.getLastD 1 ≠ 0) : trimL xs = xs := by
  induction xs with
  | nil => rfl
  | cons d r ih =>
    unfold trimL
    cases r with
    | nil => have : d ≠ 0 := by simpa using h
             rw [if_neg (fun e => this e.2)]
             rfl
    | cons e r' =>
      have h1 := ih (by simpa using h)
      rw [h1, if_neg (fun e => by cases e.1)]
theorem natOk_parts {xs : List Int} (h : natOkB xs = true) : DigN xs ∧ xs.length ≤ 50 ∧ xs.getLastD 1 ≠ 0 := by
  unfold natOkB at h
  rw [Bool.and_eq_true, Bool.and_eq_true, decide_eq_true_eq, decide_eq_true_eq, all_dig] at h
  exact h
theorem natOk_limbs {xs : List Int} (h : natOkB xs = true) : xs = limbs (nval xs).toNat := by
  obtain ⟨h1, _, h3⟩ := natOk_parts h
  rw [← trim_limbs xs h1, trim_last xs h3]
theorem nval_drop (xs : List Int) (k : Nat) (h : k < xs.length) : nval (xs.drop k) = xs[k] + 1000000000 * nval (xs.drop (k + 1)) := by
  rw [List.drop_eq_getElem_cons h]
  rfl
/-- a beginning behind which all is zero -/
theorem trim_prefix (xs : List Int) (k : Nat) (hk : k ≤ xs.length) (hz : ∀ j (h : j < xs.length), k ≤ j → xs[j] = 0) (hl : ∀ h : k - 1 < xs.length, 0 < k → xs[k - 1] ≠ 0) : trimL xs = xs.take k := by
  induction xs generalizing k with
  | nil => simp [trimL]
  | cons d r ih =>
    unfold trimL
    cases k with
    | zero =>
      have h0 : d = 0 := hz 0 (by simp) (Nat.le_refl _)
      have hr : trimL r = r.take 0 := ih 0 (Nat.zero_le _) (fun j h _ => hz (j + 1) (by simpa using h) (Nat.zero_le _)) (fun _ h => absurd h (by omega))
      rw [hr, if_pos ⟨by simp, h0⟩]
      rfl
    | succ k =>
      have hr : trimL r = r.take k := ih k (by simpa using hk) (fun j h hj => hz (j + 1) (by simpa using h) (by omega)) (fun h h0 => by
        obtain ⟨m, rfl⟩ : ∃ m, k = m + 1 := ⟨k - 1, by omega⟩
        have hk2 : m + 1 ≤ r.length := by simpa using hk
        exact hl (by show m + 1 < (d :: r).length; rw [List.length_cons]; omega) (by omega))
      rw [hr, List.take_succ_cons, if_neg]
      intro e
      rcases Nat.eq_zero_or_pos k with h0 | h0
      · subst h0
        have := hl (by simp) (by omega)
        exact this (by simpa using e.2)
      · have : (r.take k).length = 0 := by rw [e.1]; rfl
        rw [List.length_take] at this
        simp at hk
        omega

/-! ### order -/
/-- less, equal, greater -/
def cmpI (x y : Int) : Int := if x < y then -1 else if y < x then 1 else 0
theorem nval_short (a b : List Int) (ha : DigN a) (hb : DigN b) (hl : a.length < b.length) (hlast : b.getLastD 1 ≠ 0) : nval a < nval b := by
  induction a generalizing b with
  | nil =>
    have h0 := nval_nonneg b hb
    have hz := nval_zero b hb
    have ht := trim_last b hlast
    have : ¬ nval b = 0 := fun e => by
      have := hz.1 e
      rw [ht] at this
      rw [this] at hl
      simp at hl
    show (0 : Int) < _
    omega
  | cons x a ih =>
    cases b with
    | nil => simp at hl
    | cons y b =>
      have hb1 : b.getLastD 1 ≠ 0 := by
        cases b with
        | nil => simp at hl
        | cons z b => simpa using hlast
      have := ih b ha.tail hb.tail (by simpa using hl) hb1
      have := ha.head
      have := hb.head
      unfold nval
      omega
theorem nval_lt_down (a b : List Int) (ha : DigN a) (hb : DigN b) (hl : a.length = b.length) (k : Nat) (hk : nval (a.drop k) < nval (b.drop k)) : nval a < nval b := by
  induction k with
  | zero => simpa using hk
  | succ k ih =>
    apply ih
    by_cases h : k < a.length
    · rw [nval_drop a k h, nval_drop b k (by omega)]
      have := ha.at_ k h
      have := hb.at_ k (by omega)
      omega
    · rw [List.drop_of_length_le (by omega), List.drop_of_length_le (by omega)] at hk
      exact absurd hk (Int.lt_irrefl _)

/-! ### sums -/
def addL : List Int → List Int → Int → List Int
  | [], [], c => if 0 < c then [c] else []
  | x :: a, [], c => (c + x) % 1000000000 :: addL a [] ((c + x) / 1000000000)
  | [], y :: b, c => (c + y) % 1000000000 :: addL [] b ((c + y) / 1000000000)
  | x :: a, y :: b, c => (c + x + y) % 1000000000 :: addL a b ((c + x + y) / 1000000000)
theorem addL_val (a b : List Int) (c : Int) (ha : DigN a) (hb : DigN b) (h0 : 0 ≤ c) (h1 : c ≤ 1) : nval (addL a b c) = nval a + nval b + c ∧ DigN (addL a b c) ∧ (addL a b c).length ≤ a.length + b.length + 1 := by
  induction a, b, c using addL.induct with
  | case1 c hc => simp only [addL, if_pos hc]; exact ⟨(by simp [nval]), DigN.cons (by omega) (by omega) (fun x hx => by cases hx), by simp⟩
  | case2 c hc => simp only [addL, if_neg hc]; exact ⟨(by simp [nval]; omega), (fun x hx => by cases hx), by simp⟩
  | case3 c x a ih =>
    have hx := ha.head
    obtain ⟨i1, i2, i3⟩ := ih ha.tail hb (by omega) (by omega)
    refine ⟨?_, ?_, ?_⟩
    · simp only [addL, nval] at i1 ⊢; omega
    · simp only [addL]; exact DigN.cons (by omega) (by omega) i2
    · simp only [addL, List.length_cons, List.length_nil] at i3 ⊢; omega
  | case4 c y b ih =>
    have hy := hb.head
    obtain ⟨i1, i2, i3⟩ := ih ha hb.tail (by omega) (by omega)
    refine ⟨?_, ?_, ?_⟩
    · simp only [addL, nval] at i1 ⊢; omega
    · simp only [addL]; exact DigN.cons (by omega) (by omega) i2
    · simp only [addL, List.length_cons, List.length_nil] at i3 ⊢; omega
  | case5 c x a y b ih =>
    have hx := ha.head
    have hy := hb.head
    obtain ⟨i1, i2, i3⟩ := ih ha.tail hb.tail (by omega) (by omega)
    refine ⟨?_, ?_, ?_⟩
    · simp only [addL, nval] at i1 ⊢; omega
    · simp only [addL]; exact DigN.cons (by omega) (by omega) i2
    · simp only [addL, List.length_cons] at i3 ⊢; omega

/-! ### differences -/
def subL : List Int → List Int → Int → List Int
  | [], _, _ => []
  | x :: a, b, c => if x - c - b.headD 0 < 0 then (x - c - b.headD 0 + 1000000000) :: subL a b.tail 1 else (x - c - b.headD 0) :: subL a b.tail 0
theorem subL_val (a b : List Int) (c : Int) (ha : DigN a) (hb : DigN b) (hl : b.length ≤ a.length) (h0 : 0 ≤ c) (h1 : c ≤ 1) (hle : nval b + c ≤ nval a) : nval (subL a b c) = nval a - nval b - c ∧ DigN (subL a b c) ∧ (subL a b c).length = a.length := by
  induction a generalizing b c with
  | nil =>
    have : b = [] := List.eq_nil_of_length_eq_zero (by simpa using hl)
    subst this
    have h3 : (0 : Int) + c ≤ 0 := hle
    refine ⟨?_, (fun x hx => by cases hx), rfl⟩
    show (0 : Int) = 0 - 0 - c
    omega
  | cons x a ih =>
    have hx := ha.head
    have hh : 0 ≤ b.headD 0 ∧ b.headD 0 ≤ 999999999 := by
      cases b with
      | nil => simp
      | cons y b => exact hb.head
    have hv : nval b = b.headD 0 + 1000000000 * nval b.tail := by
      cases b with
      | nil => simp [nval]
      | cons y b => simp [nval]
    have hbt : DigN b.tail := by
      cases b with
      | nil => exact hb
      | cons y b => exact hb.tail
    have hlt : b.tail.length ≤ a.length := by rw [List.length_tail]; simp at hl; omega
    simp only [nval] at hle ⊢
    unfold subL
    by_cases hn : x - c - b.headD 0 < 0
    · obtain ⟨i1, i2, i3⟩ := ih b.tail 1 ha.tail hbt hlt (by omega) (by omega) (by omega)
      rw [if_pos hn]
      exact ⟨by simp only [nval]; omega, DigN.cons (by omega) (by omega) i2, by simp [i3]⟩
    · obtain ⟨i1, i2, i3⟩ := ih b.tail 0 ha.tail hbt hlt (by omega) (by omega) (by omega)
      rw [if_neg hn]
      exact ⟨by simp only [nval]; omega, DigN.cons (by omega) (by omega) i2, by simp [i3]⟩

/-- at most 50 limbs, else none -/
def capL (xs : List Int) : List Int := if 50 < xs.length then [] else xs
/-- what the functions of the chapter answer for a number -/
def natRes (n : Int) : List Int := capL (limbs n.toNat)
end Go.Proofs.YtofehcpapdlcnabGreatDoor

namespace Go.Proofs.YtofehcpapdlcnabGreatDoor
open Go.RowKit

/-- the power of the base -/
def bp : Nat → Int
  | 0 => 1
  | k + 1 => 1000000000 * bp k
theorem bp_pos (k : Nat) : 0 < bp k := by
  induction k with
  | zero => decide
  | succ k ih => show 0 < 1000000000 * bp k; omega
theorem bp_add (j k : Nat) : bp (j + k) = bp j * bp k := by
  induction j with
  | zero => rw [Nat.zero_add]; show _ = 1 * _; omega
  | succ j ih =>
    rw [show j + 1 + k = (j + k) + 1 by omega]
    show 1000000000 * bp (j + k) = 1000000000 * bp j * bp k
    rw [ih, Int.mul_assoc]
theorem bp_mono {j k : Nat} (h : j ≤ k) : bp j ≤ bp k := by
  obtain ⟨d, rfl⟩ := Nat.le.dest h
  rw [bp_add]
  have h1 := bp_pos j
  have h2 := bp_pos d
  have h3 := Int.mul_le_mul_of_nonneg_left (show 1 ≤ bp d by omega) (show 0 ≤ bp j by omega)
  omega
theorem nval_append (xs ys : List Int) : nval (xs ++ ys) = nval xs + bp xs.length * nval ys := by
  induction xs with
  | nil => show nval ys = 0 + 1 * nval ys; omega
  | cons d r ih =>
    show d + 1000000000 * nval (r ++ ys) = d + 1000000000 * nval r + 1000000000 * bp r.length * nval ys
    rw [ih, Int.mul_add, Int.mul_assoc, Int.add_assoc]
theorem nval_lt (xs : List Int) (h : DigN xs) : nval xs < bp xs.length := by
  induction xs with
  | nil => show (0 : Int) < 1; decide
  | cons d r ih =>
    have h1 := ih h.tail
    have h2 := h.head
    show d + 1000000000 * nval r < 1000000000 * bp r.length
    omega
theorem DigN.append {xs ys : List Int} (h : DigN xs) (k : DigN ys) : DigN (xs ++ ys) := fun d hd => (List.mem_append.1 hd).elim (h d) (k d)
theorem dig_one {d : Int} (h0 : 0 ≤ d) (h1 : d ≤ 999999999) : DigN [d] := fun x hx => by simp at hx; omega
theorem dig_zeros (n : Nat) : DigN (List.replicate n 0) := fun d hd => by rw [(List.mem_replicate.1 hd).2]; omega
theorem nval_zeros (n : Nat) : nval (List.replicate n 0) = 0 := by
  induction n with
  | zero => rfl
  | succ n ih => rw [List.replicate_succ]; show 0 + 1000000000 * nval (List.replicate n 0) = 0; omega
theorem nval_set (xs : List Int) (k : Nat) (d : Int) (h : k < xs.length) : nval (xs.set k d) = nval xs + (d - xs[k]) * bp k := by
  induction xs generalizing k with
  | nil => simp at h
  | cons x r ih =>
    cases k with
    | zero => show d + 1000000000 * nval r = x + 1000000000 * nval r + (d - x) * 1; omega
    | succ k =>
      have hk : k < r.length := by simpa using h
      have h1 := ih k hk
      show x + 1000000000 * nval (r.set k d) = x + 1000000000 * nval r + (d - r[k]) * (1000000000 * bp k)
      rw [h1, Int.mul_add, Int.add_assoc]
      congr 2
      rw [← Int.mul_assoc, ← Int.mul_assoc, Int.mul_comm 1000000000]
theorem DigN.set {xs : List Int} (h : DigN xs) (k : Nat) {d : Int} (h0 : 0 ≤ d) (h1 : d ≤ 999999999) : DigN (xs.set k d) := fun x hx => by
  rcases List.mem_or_eq_of_mem_set hx with hx | rfl
  · exact h x hx
  · exact ⟨h0, h1⟩

/-- the last limb is not 0: the number is at least the power below its length -/
theorem nval_ge (xs : List Int) (h : DigN xs) (hl : xs.getLastD 1 ≠ 0) (hn : 0 < xs.length) : bp (xs.length - 1) ≤ nval xs := by
  have hne : xs ≠ [] := fun e => by rw [e] at hn; simp at hn
  have e := (List.dropLast_concat_getLast hne).symm
  have hg : xs.getLastD 1 = xs.getLast hne := by
    rw [List.getLastD_eq_getLast?, List.getLast?_eq_some_getLast hne]
    rfl
  rw [hg] at hl
  have hd := h _ (List.getLast_mem hne)
  rw [e, nval_append]
  have h1 := nval_nonneg xs.dropLast (fun d hd => h d (List.dropLast_subset _ hd))
  have h2 : nval [xs.getLast hne] = xs.getLast hne := by show xs.getLast hne + 1000000000 * 0 = _; omega
  rw [h2, List.length_append, List.length_dropLast]
  simp only [List.length_singleton]
  rw [show xs.length - 1 + 1 - 1 = xs.length - 1 by omega]
  have h3 := bp_pos (xs.length - 1)
  have h4 := Int.mul_le_mul_of_nonneg_left (show 1 ≤ xs.getLast hne by omega) (show 0 ≤ bp (xs.length - 1) by omega)
  omega
/-- the other way: then the limbs are those of their number -/
theorem limbs_of_ge (xs : List Int) (h : DigN xs) (hg : 0 < xs.length → bp (xs.length - 1) ≤ nval xs) : xs = limbs (nval xs).toNat := by
  rw [← trim_limbs xs h]
  symm
  apply trim_last
  intro h0
  by_cases hne : xs = []
  · rw [hne] at h0; exact absurd h0 (by decide)
  · have hn : 0 < xs.length := List.length_pos_iff.2 hne
    have e := (List.dropLast_concat_getLast hne).symm
    have hg2 : xs.getLastD 1 = xs.getLast hne := by
      rw [List.getLastD_eq_getLast?, List.getLast?_eq_some_getLast hne]
      rfl
    have h1 := hg hn
    rw [e, nval_append, ← hg2, h0] at h1
    have h2 := nval_lt xs.dropLast (fun d hd => h d (List.dropLast_subset _ hd))
    have h3 : nval [(0 : Int)] = 0 := rfl
    rw [h3, List.length_append, List.length_dropLast] at h1
    rw [List.length_dropLast] at h2
    simp only [List.length_singleton] at h1
    rw [show xs.length - 1 + 1 - 1 = xs.length - 1 by omega] at h1
    omega
theorem ok_ge {xs : List Int} (h : natOkB xs = true) (hn : 0 < xs.length) : bp (xs.length - 1) ≤ nval xs := nval_ge xs (natOk_parts h).1 (natOk_parts h).2.2 hn

/-- filled up with zeros to a length -/
def padL (xs : List Int) (n : Nat) : List Int := xs ++ List.replicate (n - xs.length) 0
theorem padL_length (xs : List Int) (n : Nat) : (padL xs n).length = max xs.length n := by unfold padL; rw [List.length_append, List.length_replicate]; omega
theorem padL_val (xs : List Int) (n : Nat) : nval (padL xs n) = nval xs := by unfold padL; rw [nval_append, nval_zeros]; omega
theorem padL_dig {xs : List Int} (h : DigN xs) (n : Nat) : DigN (padL xs n) := h.append (dig_zeros _)
theorem padL_at (xs : List Int) (k : Nat) (h : k < (padL xs (k + 1)).length) : (padL xs (k + 1))[k] = xs.getD k 0 := by
  unfold padL at h ⊢
  by_cases hk : k < xs.length
  · rw [List.getElem_append_left hk, List.getD_eq_getElem?_getD, List.getElem?_eq_getElem hk]; rfl
  · rw [List.getElem_append_right (by omega), List.getElem_replicate, List.getD_eq_getElem?_getD, List.getElem?_eq_none (by omega)]; rfl

/-- adding a value at a place: the new limbs; the carry -/
def addAtL (xs : List Int) (p : Nat) (v : Int) : List Int := (padL xs (p + 1)).set p ((v + xs.getD p 0) % 1000000000)
def addAtC (xs : List Int) (p : Nat) (v : Int) : Int := (v + xs.getD p 0) / 1000000000
theorem getD_dig {xs : List Int} (h : DigN xs) (p : Nat) : 0 ≤ xs.getD p 0 ∧ xs.getD p 0 ≤ 999999999 := by
  rw [List.getD_eq_getElem?_getD]
  by_cases hk : p < xs.length
  · rw [List.getElem?_eq_getElem hk]; exact h.at_ p hk
  · rw [List.getElem?_eq_none (by omega)]; show 0 ≤ (0 : Int) ∧ (0 : Int) ≤ 999999999; omega
theorem addAt_length (xs : List Int) (p : Nat) (v : Int) : (addAtL xs p v).length = max xs.length (p + 1) := by unfold addAtL; rw [List.length_set, padL_length]
theorem addAt_dig {xs : List Int} (h : DigN xs) (p : Nat) (v : Int) : DigN (addAtL xs p v) := (padL_dig h _).set p (by omega) (by omega)
theorem addAt_val (xs : List Int) (p : Nat) (v : Int) : nval (addAtL xs p v) + addAtC xs p v * bp (p + 1) = nval xs + v * bp p := by
  have hl : p < (padL xs (p + 1)).length := by rw [padL_length]; omega
  unfold addAtL addAtC
  rw [nval_set _ p _ hl, padL_val, padL_at]
  generalize xs.getD p 0 = d
  show nval xs + ((v + d) % 1000000000 - d) * bp p + (v + d) / 1000000000 * (1000000000 * bp p) = nval xs + v * bp p
  rw [← Int.mul_assoc, Int.add_assoc, ← Int.add_mul]
  rw [show (v + d) % 1000000000 - d + (v + d) / 1000000000 * 1000000000 = v by omega]
/-- a new last limb -/
theorem addAt_new (xs : List Int) (p : Nat) (v : Int) (hp : p = xs.length) (h0 : 0 < v) (h1 : v ≤ 999999999) : addAtC xs p v = 0 ∧ addAtL xs p v = xs ++ [v] := by
  subst hp
  have e : xs.getD xs.length 0 = 0 := by rw [List.getD_eq_getElem?_getD, List.getElem?_eq_none (Nat.le_refl _)]; rfl
  unfold addAtL addAtC padL
  rw [e]
  refine ⟨by omega, ?_⟩
  rw [show xs.length + 1 - xs.length = 1 by omega, List.set_append_right _ _ (Nat.le_refl _), Nat.sub_self]
  show xs ++ [(v + 0) % 1000000000] = xs ++ [v]
  rw [show (v + 0) % 1000000000 = v by omega]

/-- subtracting a value at a place; the borrow -/
def takeAtL (xs : List Int) (p : Nat) (v : Int) : List Int := xs.set p ((xs.getD p 0 - v) % 1000000000)
def takeAtC (xs : List Int) (p : Nat) (v : Int) : Int := -((xs.getD p 0 - v) / 1000000000)
theorem takeAt_length (xs : List Int) (p : Nat) (v : Int) : (takeAtL xs p v).length = xs.length := by unfold takeAtL; rw [List.length_set]
theorem takeAt_dig {xs : List Int} (h : DigN xs) (p : Nat) (v : Int) : DigN (takeAtL xs p v) := h.set p (by omega) (by omega)
theorem takeAt_bound {xs : List Int} (h : DigN xs) (p : Nat) (v : Int) (h0 : 0 ≤ v) (h1 : v ≤ 999999999000000000) : 0 ≤ takeAtC xs p v ∧ takeAtC xs p v ≤ 999999999 := by
  have hd := getD_dig h p
  unfold takeAtC
  omega
theorem takeAt_val (xs : List Int) (p : Nat) (v : Int) (hp : p < xs.length) : nval (takeAtL xs p v) - takeAtC xs p v * bp (p + 1) = nval xs - v * bp p := by
  have hg : xs.getD p 0 = xs[p] := by rw [List.getD_eq_getElem?_getD, List.getElem?_eq_getElem hp]; rfl
  unfold takeAtL takeAtC
  rw [nval_set _ p _ hp, hg]
  generalize xs[p] = d
  show nval xs + ((d - v) % 1000000000 - d) * bp p - -((d - v) / 1000000000) * (1000000000 * bp p) = nval xs - v * bp p
  rw [← Int.mul_assoc, Int.add_sub_assoc, ← Int.sub_mul]
  rw [show (d - v) % 1000000000 - d - -((d - v) / 1000000000) * 1000000000 = -v by omega, Int.neg_mul]
  omega
end Go.Proofs.YtofehcpapdlcnabGreatDoor

namespace Go.Proofs.YtofehcpapdlcnabGreatDoor
open Go.RowKit

/-- one limb more of a division -/
theorem div_step (x N D : Int) (hD : 0 < D) (hx0 : 0 ≤ x) (hx1 : x ≤ 999999999) :
    (x + 1000000000 * N) / D = (N % D * 1000000000 + x) / D + 1000000000 * (N / D) ∧ (x + 1000000000 * N) % D = (N % D * 1000000000 + x) % D ∧
      0 ≤ (N % D * 1000000000 + x) / D ∧ (N % D * 1000000000 + x) / D ≤ 999999999 ∧ 0 ≤ N % D ∧ N % D < D := by
  have h0 := Int.emod_nonneg N (show D ≠ 0 by omega)
  have h1 := Int.emod_lt_of_pos N hD
  have e : x + 1000000000 * N = (N % D * 1000000000 + x) + D * (1000000000 * (N / D)) := by
    have h2 := Int.emod_add_mul_ediv N D
    have h3 : 1000000000 * N = 1000000000 * (N % D) + D * (1000000000 * (N / D)) := by
      conv => lhs; rw [← h2, Int.mul_add, Int.mul_left_comm]
    omega
  refine ⟨?_, ?_, ?_, ?_, h0, h1⟩
  · rw [e, Int.add_mul_ediv_left _ _ (by omega)]
  · rw [e, Int.add_mul_emod_self_left]
  · exact Int.ediv_nonneg (by omega) (by omega)
  · have : (N % D * 1000000000 + x) / D < 1000000000 := Int.ediv_lt_of_lt_mul hD (by
      have h4 : N % D * 1000000000 + x < (N % D + 1) * 1000000000 := by omega
      have h5 : (N % D + 1) * 1000000000 ≤ D * 1000000000 := Int.mul_le_mul_of_nonneg_right (by omega) (by omega)
      omega)
    omega

/-- a division that has come down to limb k -/
def DivR (a : List Int) (D : Int) (k : Nat) (R : Int) (qs : List Int) : Prop :=
  R = nval (a.drop k) % D ∧ nval qs = nval (a.drop k) / D ∧ DigN qs ∧ qs.length + k = a.length
theorem DivR.start (a : List Int) (D : Int) : DivR a D a.length 0 [] := by
  refine ⟨?_, ?_, (fun d hd => by cases hd), by simp⟩
  · rw [List.drop_of_length_le (Nat.le_refl _)]; show (0 : Int) = 0 % D; simp
  · rw [List.drop_of_length_le (Nat.le_refl _)]; show (0 : Int) = 0 / D; simp
theorem DivR.bound {a : List Int} {D : Int} {k : Nat} {R : Int} {qs : List Int} (h : DivR a D k R qs) (hD : 0 < D) : 0 ≤ R ∧ R < D := by
  rw [h.1]
  exact ⟨Int.emod_nonneg _ (by omega), Int.emod_lt_of_pos _ hD⟩
theorem DivR.next {a : List Int} {D : Int} {i : Nat} {R : Int} {qs : List Int} (h : DivR a D (i + 1) R qs) (hD : 0 < D) (hd : DigN a) (hi : i < a.length) :
    DivR a D i ((R * 1000000000 + a[i]) % D) ((R * 1000000000 + a[i]) / D :: qs) := by
  obtain ⟨h1, h2, h3, h4⟩ := h
  have hx := hd.at_ i hi
  obtain ⟨e1, e2, e3, e4, _, _⟩ := div_step a[i] (nval (a.drop (i + 1))) D hD hx.1 hx.2
  subst h1
  refine ⟨by rw [nval_drop a i hi, e2], ?_, DigN.cons e3 e4 h3, by simp; omega⟩
  show _ + 1000000000 * nval qs = _
  rw [nval_drop a i hi, e1, h2]
theorem DivR.digit {a : List Int} {D : Int} {i : Nat} {R : Int} {qs : List Int} (h : DivR a D (i + 1) R qs) (hD : 0 < D) (hd : DigN a) (hi : i < a.length) :
    0 ≤ (R * 1000000000 + a[i]) / D ∧ (R * 1000000000 + a[i]) / D ≤ 999999999 := by
  have hx := hd.at_ i hi
  obtain ⟨_, _, e3, e4, _, _⟩ := div_step a[i] (nval (a.drop (i + 1))) D hD hx.1 hx.2
  rw [h.1]
  exact ⟨e3, e4⟩
theorem DivR.done {a : List Int} {D R : Int} {qs : List Int} (h : DivR a D 0 R qs) : trimL qs = limbs (nval a / D).toNat ∧ R = nval a % D := by
  obtain ⟨h1, h2, h3, h4⟩ := h
  rw [List.drop_zero] at h1 h2
  exact ⟨by rw [trim_limbs qs h3, h2], h1⟩
theorem zeros_set (i : Nat) (q : Int) (qs : List Int) : (List.replicate (i + 1) 0 ++ qs).set i q = List.replicate i 0 ++ (q :: qs) := by
  rw [List.replicate_succ', List.append_assoc, List.set_append_right _ _ (by simp), List.length_replicate, Nat.sub_self]
  rfl
theorem limbs_val (n : Nat) : nval (limbs n) = n := by
  induction n using Nat.strongRecOn with
  | _ n ih =>
    by_cases h0 : n = 0
    · subst h0; rw [limbs, dif_pos rfl]; rfl
    · rw [limbs, dif_neg h0]
      have := ih (n / 1000000000) (by omega)
      show ((n % 1000000000 : Nat) : Int) + 1000000000 * nval (limbs (n / 1000000000)) = n
      rw [this]
      omega
theorem limbs_toNat (N : Int) (h : 0 ≤ N) : nval (limbs N.toNat) = N := by rw [limbs_val]; omega
theorem limbs_digN (n : Nat) : DigN (limbs n) := by
  induction n using Nat.strongRecOn with
  | _ n ih =>
    by_cases h0 : n = 0
    · subst h0; rw [limbs, dif_pos rfl]; exact fun d hd => by cases hd
    · rw [limbs, dif_neg h0]
      exact DigN.cons (by omega) (by omega) (ih _ (by omega))
theorem limbs_lastN (n : Nat) : (limbs n).getLastD 1 ≠ 0 := by
  induction n using Nat.strongRecOn with
  | _ n ih =>
    by_cases h0 : n = 0
    · subst h0; rw [limbs, dif_pos rfl]; decide
    · by_cases hs : n / 1000000000 = 0
      · rw [limbs, dif_neg h0, hs, show limbs 0 = [] from by rw [limbs, dif_pos rfl]]
        show ((n % 1000000000 : Nat) : Int) ≠ 0
        omega
      · have hi := ih (n / 1000000000) (by omega)
        have e : limbs (n / 1000000000) = ((n / 1000000000 % 1000000000 : Nat) : Int) :: limbs (n / 1000000000 / 1000000000) := by rw [limbs, dif_neg hs]
        rw [limbs, dif_neg h0]
        rw [e] at hi ⊢
        simpa using hi
theorem limbs_length_le (n : Nat) (k : Nat) (h : (n : Int) < bp k) : (limbs n).length ≤ k := by
  rcases Nat.lt_or_ge k (limbs n).length with hl | hl
  · have h1 := nval_ge (limbs n) (limbs_digN n) (limbs_lastN n) (by omega)
    have h2 := bp_mono (show k ≤ (limbs n).length - 1 by omega)
    rw [limbs_val] at h1
    omega
  · exact hl
/-- the greatest digit -/
theorem digit_le (q r b : Int) (hb : 0 < b) : q * b ≤ r ↔ q ≤ r / b := (Int.le_ediv_iff_mul_le hb).symm
end Go.Proofs.YtofehcpapdlcnabGreatDoor

namespace Go.Proofs.YtofehcpapdlcnabGreatDoor
open Go.RowKit

/-- a signed number as data: its sign, its limbs -/
abbrev SI : Type := Bool × List Int
def zeroS : SI := (false, [])
/-- what IntOk answers -/
def okS (x : SI) : Bool := natOkB x.2 && (!x.1 || decide (0 < x.2.length))
/-- the number -/
def valS (x : SI) : Int := if x.1 = true then -(nval x.2) else nval x.2
/-- the signed number of an integer; zero where it wants more limbs than there may be -/
def ofZ (z : Int) : SI := if (limbs z.natAbs).length ≤ 50 then (decide (z < 0), limbs z.natAbs) else zeroS
theorem okS_parts {x : SI} (h : okS x = true) : natOkB x.2 = true ∧ (x.1 = true → 0 < x.2.length) := by
  unfold okS at h
  rw [Bool.and_eq_true] at h
  refine ⟨h.1, fun hn => ?_⟩
  rw [hn] at h
  simpa using h.2
theorem zeroS_ok : okS zeroS = true := rfl
theorem zeroS_val : valS zeroS = 0 := rfl
theorem okS_pos {x : SI} (h : okS x = true) (hn : 0 < x.2.length) : 0 < nval x.2 := by
  have h1 := ok_ge (okS_parts h).1 hn
  have h2 := bp_pos (x.2.length - 1)
  omega
theorem nval_ok {xs : List Int} (h : natOkB xs = true) : 0 ≤ nval xs := nval_nonneg xs (natOk_parts h).1
theorem valS_abs (x : SI) (h : natOkB x.2 = true) : (valS x).natAbs = (nval x.2).toNat := by
  have h0 := nval_ok h
  unfold valS
  split <;> omega
theorem limbs_zero_iff (n : Nat) : (limbs n).length = 0 ↔ n = 0 := by
  constructor
  · intro h
    have := limbs_val n
    rw [List.eq_nil_of_length_eq_zero h] at this
    have h2 : nval [] = 0 := rfl
    omega
  · rintro rfl; rw [limbs, dif_pos rfl]; rfl
theorem limbs_okL (n : Nat) (h : (limbs n).length ≤ 50) : natOkB (limbs n) = true := by
  unfold natOkB
  rw [Bool.and_eq_true, Bool.and_eq_true, all_dig]
  exact ⟨limbs_digN n, decide_eq_true h, decide_eq_true (limbs_lastN n)⟩
theorem ofZ_ok (z : Int) : okS (ofZ z) = true := by
  unfold ofZ
  split
  · rename_i h
    unfold okS
    rw [limbs_okL _ h, Bool.true_and]
    by_cases hz : z < 0
    · have : 0 < (limbs z.natAbs).length := by
        rcases Nat.eq_zero_or_pos (limbs z.natAbs).length with h0 | h0
        · rw [limbs_zero_iff] at h0; omega
        · exact h0
      simp [this]
    · simp [hz]
  · exact zeroS_ok
theorem ofZ_val {z : Int} (h : (limbs z.natAbs).length ≤ 50) : valS (ofZ z) = z := by
  unfold ofZ
  rw [if_pos h]
  unfold valS
  by_cases hz : z < 0
  · rw [if_pos (by simpa using hz), limbs_val]; omega
  · rw [if_neg (by simpa using hz), limbs_val]; omega
theorem ofZ_zero : ofZ 0 = zeroS := by unfold ofZ; rw [show (0 : Int).natAbs = 0 from rfl, show limbs 0 = [] by rw [limbs, dif_pos rfl], if_pos (by decide)]; rfl
theorem ofZ_len (z : Int) : (ofZ z).2.length ≤ 50 := (natOk_parts (okS_parts (ofZ_ok z)).1).2.1
/-- what the functions answer -/
def negS (x : SI) : SI := if okS x = true then ofZ (-(valS x)) else zeroS
def absS (x : SI) : SI := if okS x = true then ofZ (valS x).natAbs else zeroS
def addS (x y : SI) : SI := if okS x = true ∧ okS y = true then ofZ (valS x + valS y) else zeroS
def subS (x y : SI) : SI := if okS x = true ∧ okS y = true then ofZ (valS x - valS y) else zeroS
def mulS (x y : SI) : SI := if okS x = true ∧ okS y = true then ofZ (valS x * valS y) else zeroS
def cmpS (x y : SI) : Int := if okS x = true ∧ okS y = true then cmpI (valS x) (valS y) else 0
def sumS (l : List SI) : SI := if l.all okS = true then l.foldl addS zeroS else zeroS
theorem negS_val {x : SI} (h : okS x = true) : valS (negS x) = -(valS x) := by
  unfold negS
  rw [if_pos h]
  have hp := okS_parts h
  have e := valS_abs x hp.1
  refine ofZ_val ?_
  rw [Int.natAbs_neg, e, ← natOk_limbs hp.1]
  exact (natOk_parts hp.1).2.1
theorem negS_ok (x : SI) : okS (negS x) = true := by unfold negS; split; exact ofZ_ok _; exact zeroS_ok
/-- a sign and limbs laid together, as the document's value: the sign falls away where nothing is left -/
def mkS (n : Bool) (xs : List Int) : SI := (n && decide (0 < (capL xs).length), capL xs)
theorem mkS_limbs (n : Bool) (m : Nat) : mkS n (limbs m) = ofZ (if n = true then -(m : Int) else m) := by
  have e : (if n = true then -(m : Int) else (m : Int)).natAbs = m := by split <;> omega
  unfold mkS ofZ
  rw [e]
  unfold capL
  by_cases h : 50 < (limbs m).length
  · rw [if_pos h, if_neg (by omega)]
    cases n <;> rfl
  · rw [if_neg h, if_pos (by omega)]
    have hz := limbs_zero_iff m
    cases n with
    | false => simp
    | true =>
      simp only [Bool.true_and, if_true]
      congr 1
      by_cases h0 : m = 0
      · have := hz.2 h0
        rw [decide_eq_false (by omega), decide_eq_false (by omega)]
      · have : 0 < (limbs m).length := by
          rcases Nat.eq_zero_or_pos (limbs m).length with h1 | h1
          · exact absurd (hz.1 h1) h0
          · exact h1
        rw [decide_eq_true this, decide_eq_true (by omega)]
end Go.Proofs.YtofehcpapdlcnabGreatDoor

namespace Go.Proofs.YtofehcpapdlcnabGreatDoor
open Go.RowKit

/-- a value that stands for it, its limbs of the call's own -/
def OwnS (v : Value) (x : SI) (w : World) : Prop := ∃ u, v = .agg #[.bool x.1, u] ∧ OwnI u x.2 w
def MarkS (v : Value) (x : SI) (m : Int) (w : World) : Prop := ∃ u, v = .agg #[.bool x.1, u] ∧ MarkI u x.2 m w
/-- a value that reads as it -/
def RdS (w : World) (v : Value) (x : SI) : Prop := ∃ u, v = .agg #[.bool x.1, u] ∧ Row w 0 w.heap.size u (intsV x.2)
def szS (x : SI) : Int := szI x.2
theorem ownI_of {w : World} {base : Nat} {u : Value} {xs : List Int} (h : w.ownsRow base 3 1 u xs.length (intsV xs)) : OwnI u xs w := own_zero h
theorem OwnS.mk {u : Value} {x : SI} {w : World} (h : OwnI u x.2 w) : OwnS (.agg #[.bool x.1, u]) x w := ⟨u, rfl, h⟩
theorem OwnS.rd {v : Value} {x : SI} {w : World} (h : OwnS v x w) : RdS w v x := by
  obtain ⟨u, rfl, o⟩ := h
  exact ⟨u, rfl, o.row⟩
theorem row_form {w : World} {lo hi : Nat} {v : Value} {xs : List Value} (h : Row w lo hi v xs) : ∃ A c, v = .slice A xs.length c := by
  obtain ⟨A, c, rfl, _⟩ := h
  exact ⟨A, c, rfl⟩

/-- a new signed number -/
def NewS (x : SI) (w : World) (e : Ending) (w' : World) : Prop := ∃ u, e = .returned (.agg #[.bool x.1, u]) ∧ w'.ownsRow w.heap.size 3 1 u x.2.length (intsV x.2) ∧ Below w.heap.size w w'
theorem own_low {w : World} {base base' n : Nat} {e : TypeId} {v : Value} {xs : List Value} (h : w.ownsRow base e 1 v n xs) (hb : base' ≤ base) : w.ownsRow base' e 1 v n xs := by
  obtain ⟨hl, h | ⟨g, cap, cur, rfl, hg, r⟩⟩ := h
  · exact ⟨hl, .inl h⟩
  · exact ⟨hl, .inr ⟨g, cap, cur, rfl, by omega, r⟩⟩

/-- what is left of a budget -/
def leftI (left n : Int) : Int := if left - n < 0 then -1 else left - n
set_option maxHeartbeats 400000 in
set_option maxRecDepth 100000 in
theorem szIntS_any (v : Value) (xs : List Int) (lo hi : Nat) (left : Int) (w : World) (hl : xs.length ≤ 9223372036854775807) (h0 : 0 ≤ left) (h1 : left ≤ 1048576) (hr : Row w lo hi v (intsV xs)) :
    Calls Tryz.prog 34 #[v, .int .i64 left] w fun e w' => e = .returned (.int .i64 (leftI left (szI xs))) ∧ w = w' := by
  obtain ⟨A, c, rfl⟩ := row_form hr
  rw [intsV_length]
  have HZ := Lib.hid (show szI xs = xs.length from rfl)
  by_cases hc : left - xs.length < 0
  · have HV : Hid (leftI left (szI xs) = -1) := Lib.hid (by unfold leftI; rw [HZ.out, if_pos hc])
    have hc2 : left < (xs.length : Int) := by omega
    go_enter Tryz.func34, Tryz.ntmps34
    go_wp2
    go_ret
    exact ⟨ret_int HV.out.symm, rfl⟩
  · have HV : Hid (leftI left (szI xs) = left - xs.length) := Lib.hid (by unfold leftI; rw [HZ.out, if_neg hc])
    have hc2 : ¬ left < (xs.length : Int) := by omega
    go_enter Tryz.func34, Tryz.ntmps34
    go_wp2
    go_ret
    exact ⟨ret_int HV.out.symm, rfl⟩

set_option maxHeartbeats 400000 in
set_option maxRecDepth 100000 in
theorem eqSigned_at (u v : Value) (x y : SI) (w : World) (hl : x.2.length ≤ 9223372036854775807) (hu : RdS w u x) (hv : RdS w v y) :
    Calls Tryz.prog 14 #[u, v] w fun e w' => e = .returned (.bool (decide (x = y))) ∧ Below w.heap.size w w' := by
  obtain ⟨xn, xs⟩ := x
  obtain ⟨yn, ys⟩ := y
  obtain ⟨p, rfl, hp⟩ := hu
  obtain ⟨q, rfl, hq⟩ := hv
  obtain ⟨A, c, rfl⟩ := row_form hp
  obtain ⟨B, d, rfl⟩ := row_form hq
  rw [intsV_length] at hp hq ⊢
  rw [intsV_length]
  simp only at hl hp hq ⊢
  by_cases hn : xn = yn
  · subst hn
    have HV : Hid (decide ((xn, xs) = (xn, ys)) = decide (xs = ys)) := Lib.hid (by simp)
    have hbn : (xn != xn) = false := by simp
    go_enter Tryz.func14, Tryz.ntmps14
    go_wp2_with fail
    refine (eqIntS_any _ _ xs ys 0 w.heap.size 0 w.heap.size _ hl (hp.below (((Below.refl _ _).alloc (Nat.le_refl _) _).alloc (by simp) _) (Nat.le_refl _)) (hq.below (((Below.refl _ _).alloc (Nat.le_refl _) _).alloc (by simp) _) (Nat.le_refl _))).mono ?_
    rintro e w1 ⟨rfl, n, rfl⟩
    by_cases he : xs = ys
    · rw [decide_eq_true he]
      have HE := Lib.hid he
      clear he
      go_wp2
      go_ret
      exact ⟨ret_bool (by rw [HV.out, decide_eq_true HE.out]), below_drewN (((Below.refl _ _).alloc (Nat.le_refl _) _).alloc (by simp) _) n⟩
    · rw [decide_eq_false he]
      have HE := Lib.hid he
      clear he
      go_wp2
      go_ret
      exact ⟨ret_bool (by rw [HV.out, decide_eq_false HE.out]), below_drewN (((Below.refl _ _).alloc (Nat.le_refl _) _).alloc (by simp) _) n⟩
  · have hbn : (xn != yn) = true := by rw [bne_iff_ne]; exact hn
    have hbe : (xn == yn) = false := by rw [beq_eq_false_iff_ne]; exact hn
    have HV : Hid (decide ((xn, xs) = (yn, ys)) = false) := Lib.hid (decide_eq_false (fun e => hn (by injection e)))
    clear hn
    go_enter Tryz.func14, Tryz.ntmps14
    go_wp2
    go_ret
    exact ⟨ret_bool HV.out.symm, ((Below.refl _ _).alloc (Nat.le_refl _) _).alloc (by simp) _⟩

theorem alloc3 (w : World) (a b c : Obj) : (((w.alloc a).alloc b).alloc c).heap[w.heap.size]? = some a ∧ (((w.alloc a).alloc b).alloc c).heap[w.heap.size + 1]? = some b ∧ (((w.alloc a).alloc b).alloc c).heap[w.heap.size + 1 + 1]? = some c ∧ (((w.alloc a).alloc b).alloc c).heap.size = w.heap.size + 3 := by
  have s1 : (w.alloc a).heap.size = w.heap.size + 1 := by simp
  have s2 : ((w.alloc a).alloc b).heap.size = w.heap.size + 1 + 1 := by simp
  have s3 : (((w.alloc a).alloc b).alloc c).heap.size = w.heap.size + 1 + 1 + 1 := by simp
  have n1 := heap_alloc_new w a
  have n2 := heap_alloc_new (w.alloc a) b
  have n3 := heap_alloc_new ((w.alloc a).alloc b) c
  rw [s1] at n2
  rw [s2] at n3
  refine ⟨?_, ?_, n3, by rw [s3]⟩
  · rw [Below.heap_alloc _ _ _ (by omega), Below.heap_alloc _ _ _ (by omega)]; exact n1
  · rw [Below.heap_alloc _ _ _ (by omega)]; exact n2
theorem below3 (w : World) (a b c : Obj) : Below w.heap.size w (((w.alloc a).alloc b).alloc c) := (((Below.refl _ _).alloc (Nat.le_refl _) _).alloc (by simp) _).alloc (by simp; omega) _
set_option maxHeartbeats 400000 in
set_option maxRecDepth 100000 in
theorem toSigned_at (v : Value) (x : SI) (w : World) (hl : x.2.length ≤ 1048576) (h : RdS w v x) :
    Calls Tryz.prog 10 #[v] w (NewS x w) := by
  obtain ⟨n, xs⟩ := x
  obtain ⟨p, rfl, hp⟩ := h
  obtain ⟨A, c, rfl⟩ := row_form hp
  rw [intsV_length] at hp ⊢
  simp only at hl hp ⊢
  go_enter Tryz.func10, Tryz.ntmps10
  go_wp2_with fail
  have h3 := alloc3 w (.cells #[.bool n, .slice A xs.length c] 24) (.cells #[.bool false, .slice none 0 0] 29) (.cells #[.bool n, .slice none 0 0] 29)
  have hb3 := below3 w (.cells #[.bool n, .slice A xs.length c] 24) (.cells #[.bool false, .slice none 0 0] 29) (.cells #[.bool n, .slice none 0 0] 29)
  refine (toIntS_any _ xs 0 w.heap.size _ (by rw [h3.2.2.2]; omega) hl (hp.below hb3 (Nat.le_refl _))).mono ?_
  rintro e w1 ⟨u, rfl, o1, b1⟩
  have hbb : Below w.heap.size w w1 := Below.next hb3 b1
  have k1 := (b1.block (w.heap.size + 1) (by rw [h3.2.2.2]; omega)).trans h3.2.1
  have k2 := (b1.block (w.heap.size + 1 + 1) (by rw [h3.2.2.2]; omega)).trans h3.2.2.1
  have hsz : w.heap.size + 3 ≤ w1.heap.size := by have := b1.size; rw [h3.2.2.2] at this; exact this
  obtain ⟨Au, cu, rfl⟩ := own_len o1
  have c10 : w1.cell? ⟨w.heap.size + 1, 0, none⟩ = some (.bool false) := by rw [Lib.cell_of_heap k1]; rfl
  have c11 : w1.cell? ⟨w.heap.size + 1, 1, none⟩ = some (.slice none 0 0) := by rw [Lib.cell_of_heap k1]; rfl
  have c20 : w1.cell? ⟨w.heap.size + 1 + 1, 0, none⟩ = some (.bool n) := by rw [Lib.cell_of_heap k2]; rfl
  have c21 : w1.cell? ⟨w.heap.size + 1 + 1, 1, none⟩ = some (.slice none 0 0) := by rw [Lib.cell_of_heap k2]; rfl
  have f10 : w1.frozen? ⟨w.heap.size + 1, 0, none⟩ = false := Lib.frozen_of_heap k1 0
  have f11 : w1.frozen? ⟨w.heap.size + 1, 1, none⟩ = false := Lib.frozen_of_heap k1 1
  have f21 : w1.frozen? ⟨w.heap.size + 1 + 1, 1, none⟩ = false := Lib.frozen_of_heap k2 1
  have HO := Lib.hid o1
  have HB := Lib.hid hbb
  have H3 := Lib.hid h3
  clear k1 k2 o1 hbb b1 hb3 h3 hp
  go_wp2
  have hc : Chg [w.heap.size + 1, w.heap.size + 1 + 1] w1 (((w1.setCell ⟨w.heap.size + 1 + 1, 1, none⟩ (.slice Au xs.length cu)).setCell ⟨w.heap.size + 1, 0, none⟩ (.bool n)).setCell ⟨w.heap.size + 1, 1, none⟩ (.slice Au xs.length cu)) :=
    (((Chg.refl _ _).setCell (by simp) _).setCell (by simp) _).setCell (by simp) _
  have hlo : ∀ g ∈ (Value.slice Au xs.length cu).ownBlock.toList, w.heap.size + 3 ≤ g ∧ g < w1.heap.size := fun g hg => by
    have h := own_within HO.out g hg
    rw [H3.out.2.2.2] at h
    exact h
  exact bodyPost_ret (v := .agg #[.bool n, .slice Au xs.length cu]) (by simp [results, Tryz.results10, go_sem, c10, c11]) rfl
    ⟨.slice Au xs.length cu, rfl, own_stays (own_low HO.out (by rw [H3.out.2.2.2]; omega)) fun g hg => hc.block g (hlo g (by rw [hg]; simp)).2 (fun hm => by have := hlo g (by rw [hg]; simp); simp at hm; omega),
      below_chg HB.out hc (by omega) (fun g hg => by simp at hg; omega)⟩

set_option maxHeartbeats 400000 in
set_option maxRecDepth 100000 in
theorem markSigned_at (v : Value) (x : SI) (S : List Nat) (m : Int) (w : World) (hm : m + szS x ≤ 9223372036854775807) (hm0 : 0 ≤ m) (h : At S (OwnS v x) w) :
    Calls Tryz.prog 19 #[v, .int .i64 m] w fun e w' => e = .returned (.int .i64 (m + szS x)) ∧ At S (MarkS v x m) w' ∧ Chg S w w' := by
  obtain ⟨n, xs⟩ := x
  obtain ⟨u, rfl, o⟩ := h.here
  obtain ⟨A, c, rfl⟩ := own_len o
  simp only at hm ⊢
  have hI : At S (OwnI (.slice A xs.length c) xs) w := ⟨o, h.lt, fun w' hk => by
    obtain ⟨u', e, o'⟩ := h.stays w' hk
    injection e with e
    have e2 : u' = .slice A xs.length c := by simpa using e.symm
    rw [e2] at o'
    exact o'⟩
  have hbx : Below w.heap.size w (w.alloc (.cells #[.bool n, .slice A xs.length c] 29)) := (Below.refl _ _).alloc (Nat.le_refl _) _
  clear h o
  have HZ := Lib.hid (show szS (n, xs) = szI xs from rfl)
  rw [HZ.out] at hm
  go_enter Tryz.func19, Tryz.ntmps19
  go_wp2_with fail
  refine (markIntS_at _ xs S m _ hm hm0 (hI.below hbx)).mono ?_
  rintro e w1 ⟨rfl, o1, c1⟩
  have HC := Lib.hid c1
  have HO := Lib.hid o1
  clear c1 o1 hI
  go_wp2
  go_ret
  exact ⟨ret_int (by rw [HZ.out]), HO.out.imp (fun _ h => ⟨_, rfl, h⟩), (Chg.of_below hbx).trans HC.out⟩


set_option maxHeartbeats 400000 in
set_option maxRecDepth 100000 in
theorem szSigned_at (v : Value) (x : SI) (left : Int) (w : World) (hl : x.2.length ≤ 9223372036854775807) (h0 : 0 ≤ left) (h1 : left ≤ 1048576) (h : RdS w v x) :
    Calls Tryz.prog 7 #[v, .int .i64 left] w fun e w' => e = .returned (.int .i64 (leftI left (szS x))) ∧ Below w.heap.size w w' := by
  obtain ⟨n, xs⟩ := x
  obtain ⟨u, rfl, hp⟩ := h
  obtain ⟨A, c, rfl⟩ := row_form hp
  rw [intsV_length] at hp ⊢
  simp only at hl hp ⊢
  have HZ := Lib.hid (show szS (n, xs) = szI xs from rfl)
  have hbx : Below w.heap.size w (w.alloc (.cells #[.bool n, .slice A xs.length c] 24)) := (Below.refl _ _).alloc (Nat.le_refl _) _
  go_enter Tryz.func7, Tryz.ntmps7
  go_wp2_with fail
  refine (szIntS_any _ xs 0 w.heap.size left _ hl h0 h1 (hp.below hbx (Nat.le_refl _))).mono ?_
  rintro e w1 ⟨rfl, rfl⟩
  have hv : leftI left (szI xs) < 0 ∧ leftI left (szI xs) = -1 ∨ ¬ leftI left (szI xs) < 0 := by unfold leftI; split <;> omega
  have HL := Lib.hid (show leftI left (szS (n, xs)) = leftI left (szI xs) by rw [HZ.out])
  generalize leftI left (szI xs) = z at *
  rcases hv with ⟨h2, h3⟩ | h2
  · have hneg : decide (z < 0) = true := decide_eq_true h2
    have H3 := Lib.hid h3
    clear h2 h3
    go_wp2
    go_ret
    exact ⟨ret_int (by rw [HL.out, H3.out]), hbx⟩
  · have hneg : decide (z < 0) = false := decide_eq_false h2
    clear h2
    go_wp2
    go_ret
    exact ⟨ret_int (by rw [HL.out]), hbx⟩

/-! ### locals of type impl.Signed: a box, and the limbs that it leads to -/
theorem leftI_of {l n : Int} (h : n ≤ l) : leftI l n = l - n := by unfold leftI; rw [if_neg (by omega)]
theorem below_set2 {W0 W : World} {g : Nat} {a b : Value} (h : Below W0.heap.size W0 W) (hg : W0.heap.size ≤ g) : Below W0.heap.size W0 ((W.setCell ⟨g, 0, none⟩ a).setCell ⟨g, 1, none⟩ b) := (h.setCell (p := ⟨g, 0, none⟩) hg _).setCell (p := ⟨g, 1, none⟩) hg _
theorem own_at' {w : World} {base : Nat} {u : Value} {xs : List Int} (h : w.ownsRow base 3 1 u xs.length (intsV xs)) : At u.ownBlock.toList (OwnI u xs) w := own_at h
/-- a local in its box, with the memory that it leads to -/
def LocS (g : Nat) (u : Value) (x : SI) (W : World) : Prop := BoxAt g #[.bool x.1, u] 29 W ∧ OwnI u x.2 W
def locB (g : Nat) (u : Value) : List Nat := g :: u.ownBlock.toList
theorem LocS.at_ {g : Nat} {u : Value} {x : SI} {W : World} (h : LocS g u x W) : At (locB g u) (LocS g u x) W :=
  ⟨h, fun i hi => by
    rcases List.mem_cons.1 hi with rfl | hi
    · exact (Array.getElem?_eq_some_iff.1 h.1).1
    · exact (own_lt h.2 (by simpa using hi)).2,
    fun w' hk => ⟨(hk g (by simp [locB])).trans h.1, own_stays h.2 fun i hi => hk i (by simp [locB, hi])⟩⟩
/-- a parameter's box: what it holds reads as x, whatever is new -/
theorem rdS_below {w W : World} {A : Option Addr} {c : Nat} {x : SI} (h : Row w 0 w.heap.size (.slice A x.2.length c) (intsV x.2)) (hb : Below w.heap.size w W) : RdS W (.agg #[.bool x.1, .slice A x.2.length c]) x :=
  ⟨_, rfl, (h.below hb (Nat.le_refl _)).wide (Nat.le_refl _) hb.size⟩
end Go.Proofs.YtofehcpapdlcnabGreatDoor

namespace Go.Proofs.YtofehcpapdlcnabGreatDoor
open Go.RowKit

/-- a fraction as data -/
abbrev QI : Type := SI × List Int
def zeroQ : QI := (zeroS, [])
/-- what RatOk answers -/
def okQ (q : QI) : Bool := okS q.1 && natOkB q.2 && decide (0 < q.2.length ∧ q.2.length ≤ 18 ∧ q.1.2.length ≤ 18 ∧ Nat.gcd (nval q.1.2).toNat (nval q.2).toNat = 1)
/-- a fraction in lowest terms, with its sign; false where it has too many limbs, or is by 0 -/
def lowQ (n : Bool) (a b : Nat) : QI × Bool :=
  if b ≠ 0 ∧ (limbs (a / Nat.gcd a b)).length ≤ 18 ∧ (limbs (b / Nat.gcd a b)).length ≤ 18 then ((mkS n (limbs (a / Nat.gcd a b)), limbs (b / Nat.gcd a b)), true) else (zeroQ, false)
def numQ (q : QI) : Int := valS q.1
def denQ (q : QI) : Nat := (nval q.2).toNat
theorem okQ_parts {q : QI} (h : okQ q = true) : okS q.1 = true ∧ natOkB q.2 = true ∧ 0 < q.2.length ∧ q.2.length ≤ 18 ∧ q.1.2.length ≤ 18 ∧ Nat.gcd (nval q.1.2).toNat (nval q.2).toNat = 1 := by
  unfold okQ at h
  rw [Bool.and_eq_true, Bool.and_eq_true, decide_eq_true_eq] at h
  exact ⟨h.1.1, h.1.2, h.2.1, h.2.2.1, h.2.2.2.1, h.2.2.2.2⟩
/-- what the functions answer -/
def makeQ (x y : SI) : QI × Bool := if okS x = true ∧ okS y = true then lowQ (x.1 != y.1) (nval x.2).toNat (nval y.2).toNat else (zeroQ, false)
def addQ (r s : QI) : QI × Bool := if okQ r = true ∧ okQ s = true then lowQ (decide (numQ r * denQ s + numQ s * denQ r < 0)) (numQ r * denQ s + numQ s * denQ r).natAbs (denQ r * denQ s) else (zeroQ, false)
def negQ (r : QI) : QI × Bool := if okQ r = true then ((negS r.1, r.2), true) else (zeroQ, false)
def mulQ (r s : QI) : QI × Bool := if okQ r = true ∧ okQ s = true then lowQ (r.1.1 != s.1.1) ((nval r.1.2).toNat * (nval s.1.2).toNat) (denQ r * denQ s) else (zeroQ, false)
def subQ (r s : QI) : QI × Bool := if (negQ s).2 = true then addQ r (negQ s).1 else (zeroQ, false)
def cmpQ (r s : QI) : Int := if okQ r = true ∧ okQ s = true then cmpI (numQ r * denQ s) (numQ s * denQ r) else 0
def oneQ : QI := (zeroS, [1])
theorem denQ_pos {q : QI} (h : okQ q = true) : 0 < denQ q := by
  have hp := okQ_parts h
  have h1 := ok_ge hp.2.1 hp.2.2.1
  have h2 := bp_pos (q.2.length - 1)
  unfold denQ
  omega
theorem oneQ_ok : okQ oneQ = true := by
  have e : nval [1] = 1 := rfl
  unfold okQ oneQ
  rw [e]
  rfl
theorem limbs_18 {n : Bool} {m : Nat} (h : (limbs m).length ≤ 18) : mkS n (limbs m) = (n && decide (0 < (limbs m).length), limbs m) := by
  unfold mkS capL
  rw [if_neg (by omega)]
/-- what comes out in lowest terms is right -/
theorem lowQ_ok (n : Bool) (a b : Nat) (h : (lowQ n a b).2 = true) : okQ (lowQ n a b).1 = true := by
  unfold lowQ at h ⊢
  split
  · rename_i hc
    obtain ⟨hb, h1, h2⟩ := hc
    have hg : 0 < Nat.gcd a b := Nat.gcd_pos_of_pos_right _ (by omega)
    have hbq : b / Nat.gcd a b ≠ 0 := by
      have := Nat.div_pos (Nat.le_of_dvd (by omega) (Nat.gcd_dvd_right a b)) hg
      omega
    have hlb : 0 < (limbs (b / Nat.gcd a b)).length := by
      rcases Nat.eq_zero_or_pos (limbs (b / Nat.gcd a b)).length with h0 | h0
      · exact absurd ((limbs_zero_iff _).1 h0) hbq
      · exact h0
    have hs : okS (mkS n (limbs (a / Nat.gcd a b))) = true := by rw [mkS_limbs]; exact ofZ_ok _
    have e2 : (mkS n (limbs (a / Nat.gcd a b))).2 = limbs (a / Nat.gcd a b) := by rw [limbs_18 h1]
    unfold okQ
    simp only
    rw [hs, limbs_okL _ (by omega), e2, limbs_val, limbs_val, Int.toNat_natCast, Int.toNat_natCast]
    simp only [Bool.true_and, decide_eq_true_eq]
    exact ⟨hlb, h2, h1, Nat.gcd_div_gcd_div_gcd_of_pos_right (by omega)⟩
  · rename_i hc
    rw [if_neg hc] at h
    cases h
end Go.Proofs.YtofehcpapdlcnabGreatDoor

namespace Go.Proofs.YtofehcpapdlcnabGreatDoor
open Go.RowKit

/-- a value that stands for it, its limbs of the call's own, those of the two parts apart -/
def OwnQ (v : Value) (q : QI) (w : World) : Prop := ∃ u d, v = .agg #[.bool q.1.1, u, d] ∧ OwnI u q.1.2 w ∧ OwnI d q.2 w ∧ (∀ g, u.ownBlock = some g → d.ownBlock ≠ some g)
/-- a value that reads as it -/
def RdQ (w : World) (v : Value) (q : QI) : Prop := ∃ u d, v = .agg #[.bool q.1.1, u, d] ∧ Row w 0 w.heap.size u (intsV q.1.2) ∧ Row w 0 w.heap.size d (intsV q.2)
def szQ (q : QI) : Int := szS q.1 + szI q.2
theorem OwnQ.rd {v : Value} {q : QI} {w : World} (h : OwnQ v q w) : RdQ w v q := by
  obtain ⟨u, d, rfl, o, p, _⟩ := h
  exact ⟨u, d, rfl, o.row, p.row⟩
theorem RdQ.below {w W : World} {v : Value} {q : QI} (h : RdQ w v q) (hb : Below w.heap.size w W) : RdQ W v q := by
  obtain ⟨u, d, rfl, o, p⟩ := h
  exact ⟨u, d, rfl, (o.below hb (Nat.le_refl _)).wide (Nat.le_refl _) hb.size, (p.below hb (Nat.le_refl _)).wide (Nat.le_refl _) hb.size⟩
/-- a new fraction -/
def NewQ (q : QI) (w : World) (e : Ending) (w' : World) : Prop :=
  ∃ u d, e = .returned (.agg #[.bool q.1.1, u, d]) ∧ w'.ownsRow w.heap.size 3 1 u q.1.2.length (intsV q.1.2) ∧ w'.ownsRow w.heap.size 3 1 d q.2.length (intsV q.2) ∧ (∀ g, u.ownBlock = some g → d.ownBlock ≠ some g) ∧ Below w.heap.size w w'



/-- the blocks of the limbs of both parts -/
def partsB (u d : Value) : List Nat := u.ownBlock.toList ++ d.ownBlock.toList
theorem At.both {S T : List Nat} {φ ψ : World → Prop} {w : World} (h : At S φ w) (k : At T ψ w) : At (S ++ T) (fun w => φ w ∧ ψ w) w :=
  ⟨⟨h.here, k.here⟩, fun g hg => by rcases List.mem_append.1 hg with hg | hg; exact h.lt g hg; exact k.lt g hg,
    fun w' hk => ⟨h.stays w' fun g hg => hk g (List.mem_append_left _ hg), k.stays w' fun g hg => hk g (List.mem_append_right _ hg)⟩⟩

end Go.Proofs.YtofehcpapdlcnabGreatDoor

namespace Go.Proofs.YtofehcpapdlcnabGreatDoor
open Go.RowKit

/-- a new local of a struct type: its box, and the memory that it leads to -/
def NewLocV (T : TypeId) (φ : Value → World → Prop) (W0 : World) (s : Value) (W : World) : Prop :=
  ∃ (g : Nat) (cs : Array Value) (S : List Nat), s = .pointer (some ⟨g, 0, none⟩) ∧ At [g] (BoxAt g cs T) W ∧ At S (φ (.agg cs)) W ∧ g ∉ S ∧ Within (g :: S) W0.heap.size W.heap.size ∧ Below W0.heap.size W0 W
theorem within_up {S : List Nat} {a b c d : Nat} (h : Within S a b) (ha : c ≤ a) (hb : b ≤ d) : Within S c d := fun g hg => by have := h g hg; omega
theorem newLocV_last {T : TypeId} {φ : Value → World → Prop} {W0 W W1 : World} {cs : Array Value} {S : List Nat} (o : At S (φ (.agg cs)) W) (l : Within S W1.heap.size W.heap.size) (hB : W0.heap.size ≤ W1.heap.size) (hW : Below W0.heap.size W0 W) :
    NewLocV T φ W0 (.pointer (some ⟨W.heap.size, 0, none⟩)) (W.alloc (.cells cs T)) :=
  ⟨W.heap.size, cs, S, rfl, box_new W cs T, o.below (below_al (Below.refl _ _) _), fun h => by have := l _ h; omega, fun i hi => by
    rcases List.mem_cons.1 hi with rfl | hi
    · exact ⟨hW.size, by simp⟩
    · have := l i hi
      simp
      omega, below_al hW _⟩
theorem newLocV_of {T : TypeId} {φ : Value → World → Prop} {W0 W W' : World} {g : Nat} {cs : Array Value} {S : List Nat} {B : Nat} (hb : BoxAt g cs T W') (o : At S (φ (.agg cs)) W) (l : Within S B W.heap.size) (hg : W0.heap.size ≤ g) (hgB : g < B) (hc : Chg [g] W W') (hW : Below W0.heap.size W0 W) :
    NewLocV T φ W0 (.pointer (some ⟨g, 0, none⟩)) W' := by
  have hn : g ∉ S := fun h => by have := l _ h; omega
  have h1 := (Array.getElem?_eq_some_iff.1 hb).1
  have hz := hc.size
  refine ⟨g, cs, S, rfl, box_at hb, o.chg hc (fun i hi hm => by simp at hm; subst hm; exact hn hi), hn, fun i hi => ?_, below_chg hW hc hW.size (fun i hi => by simp at hi; omega)⟩
  rcases List.mem_cons.1 hi with rfl | hi
  · exact ⟨hg, h1⟩
  · have := l i hi
    omega
theorem newLocV_early2 {T : TypeId} {φ : Value → World → Prop} {W0 W W1 : World} {g : Nat} {z0 z1 c0 c1 : Value} {S : List Nat} (hb : BoxAt g #[z0, z1] T W) (o : At S (φ (.agg #[c0, c1])) W) (l : Within S W1.heap.size W.heap.size) (hg : W0.heap.size ≤ g) (hgB : g < W1.heap.size) (hW : Below W0.heap.size W0 W) :
    NewLocV T φ W0 (.pointer (some ⟨g, 0, none⟩)) ((W.setCell ⟨g, 0, none⟩ c0).setCell ⟨g, 1, none⟩ c1) :=
  have hb' : W.heap[g]? = some (.cells #[z0, z1] T (0, 0)) := hb
  newLocV_of (by simp [BoxAt, World.setCell, Array.getElem?_modify, hb']) o l hg hgB (((Chg.refl _ _).setCell (by simp) _).setCell (by simp) _) hW
theorem newLocV_early3 {T : TypeId} {φ : Value → World → Prop} {W0 W W1 : World} {g : Nat} {z0 z1 z2 c0 c1 c2 : Value} {S : List Nat} (hb : BoxAt g #[z0, z1, z2] T W) (o : At S (φ (.agg #[c0, c1, c2])) W) (l : Within S W1.heap.size W.heap.size) (hg : W0.heap.size ≤ g) (hgB : g < W1.heap.size) (hW : Below W0.heap.size W0 W) :
    NewLocV T φ W0 (.pointer (some ⟨g, 0, none⟩)) (((W.setCell ⟨g, 0, none⟩ c0).setCell ⟨g, 1, none⟩ c1).setCell ⟨g, 2, none⟩ c2) :=
  have hb' : W.heap[g]? = some (.cells #[z0, z1, z2] T (0, 0)) := hb
  newLocV_of (by simp [BoxAt, World.setCell, Array.getElem?_modify, hb']) o l hg hgB ((((Chg.refl _ _).setCell (by simp) _).setCell (by simp) _).setCell (by simp) _) hW
theorem At.below_lt {g : Nat} {φ : World → Prop} {w w' : World} (h : At [g] φ w) (hb : Below w.heap.size w w') : At [g] φ w' ∧ g < w.heap.size := ⟨h.below hb, h.lt g (by simp)⟩
theorem below_set3 {W0 W : World} {g : Nat} {a b c : Value} (h : Below W0.heap.size W0 W) (hg : W0.heap.size ≤ g) : Below W0.heap.size W0 (((W.setCell ⟨g, 0, none⟩ a).setCell ⟨g, 1, none⟩ b).setCell ⟨g, 2, none⟩ c) := ((h.setCell (p := ⟨g, 0, none⟩) hg _).setCell (p := ⟨g, 1, none⟩) hg _).setCell (p := ⟨g, 2, none⟩) hg _
theorem At.more {S U : List Nat} {φ : World → Prop} {w : World} (h : At S φ w) (hs : ∀ g ∈ S, g ∈ U) (hl : ∀ g ∈ U, g < w.heap.size) : At U φ w := ⟨h.here, hl, fun w' hk => h.stays w' fun g hg => hk g (hs g hg)⟩
/-- a fact that says what limbs a slice holds leans on their block -/
theorem at_ints_mem {S : List Nat} {φ : World → Prop} {w : World} {u : Value} {xs : List Int} (h : At S φ w) (hi : ∀ w', φ w' → OwnI u xs w') : ∀ g, u.ownBlock = some g → g ∈ S := by
  intro g hg
  rcases Classical.em (g ∈ S) with hin | hout
  · exact hin
  · exfalso
    have hst := hi _ (h.stays { w with heap := w.heap.set! g (.cells #[] 4 (0, 0)) } (fun i hi => by
      have : i ≠ g := fun e => hout (e ▸ hi)
      simp [Ne.symm this]))
    have hlt := (own_lt (hi _ h.here) hg).2
    obtain ⟨_, ⟨rfl, _⟩ | ⟨g', cap, cur, rfl, _, hh, _⟩⟩ := hst
    · cases hg
    · cases hg
      have hlt' : g' < w.heap.size := hlt
      have hh' : (w.heap.setIfInBounds g' (.cells #[] 4 (0, 0)))[g']? = some (.cells cur 3 (0, 0)) := hh
      rw [Array.getElem?_setIfInBounds_self_of_lt hlt'] at hh'
      simp at hh'
/-! ### kind S: impl.Signed -/
def capS (x : SI) : Prop := x.2.length ≤ 9223372036854775807
theorem szS_nonneg (x : SI) : 0 ≤ szS x := by unfold szS szI; omega
theorem capS_of {x : SI} (h : szS x ≤ 1048576) : capS x := by unfold szS szI at h; unfold capS; omega
theorem ownS_form {v : Value} {x : SI} {w : World} (h : OwnS v x w) : ∃ A c, v = .agg #[.bool x.1, .slice A x.2.length c] := by
  obtain ⟨u, rfl, o⟩ := h
  obtain ⟨A, c, rfl⟩ := own_len o
  exact ⟨A, c, rfl⟩
theorem rdS_form {v : Value} {x : SI} {w : World} (h : RdS w v x) : ∃ A c, v = .agg #[.bool x.1, .slice A x.2.length c] := by
  obtain ⟨u, rfl, o⟩ := h
  obtain ⟨A, c, rfl⟩ := row_form o
  rw [intsV_length]
  exact ⟨A, c, rfl⟩
theorem RdS.below {w W : World} {v : Value} {x : SI} (h : RdS w v x) (hb : Below w.heap.size w W) : RdS W v x := by
  obtain ⟨u, rfl, o⟩ := h
  exact ⟨u, rfl, (o.below hb (Nat.le_refl _)).wide (Nat.le_refl _) hb.size⟩
theorem NewS.newV {x : SI} {w w' : World} {e : Ending} (h : NewS x w e w') : NewV (fun v => OwnS v x) w e w' := by
  obtain ⟨u, rfl, o, b⟩ := h
  exact ⟨_, u.ownBlock.toList, rfl, (own_at' o).imp fun _ h => OwnS.mk h, own_within o, b⟩
theorem toS_new (v : Value) (x : SI) (w : World) (hz : szS x ≤ 1048576) (h : RdS w v x) : Calls Tryz.prog 10 #[v] w (NewV (fun u => OwnS u x) w) :=
  (toSigned_at v x w (by unfold szS szI at hz; omega) h).mono fun _ _ h => h.newV
theorem eqS_cal (u v : Value) (x y : SI) (w : World) (hz : capS x) (hu : RdS w u x) (hv : RdS w v y) : Calls Tryz.prog 14 #[u, v] w (Postb (decide (x = y)) w) :=
  eqSigned_at u v x y w hz hu hv
theorem szS_cal (v : Value) (x : SI) (left : Int) (w : World) (hl : capS x) (h0 : 0 ≤ left) (h1 : left ≤ 1048576) (h : RdS w v x) : Calls Tryz.prog 7 #[v, .int .i64 left] w (Postn (leftI left (szS x)) w) :=
  szSigned_at v x left w hl h0 h1 h
theorem markS_cal (v : Value) (x : SI) (S : List Nat) (m : Int) (w : World) (hm : m + szS x ≤ 9223372036854775807) (hm0 : 0 ≤ m) (h : At S (OwnS v x) w) :
    Calls Tryz.prog 19 #[v, .int .i64 m] w fun e w' => e = .returned (.int .i64 (m + szS x)) ∧ At S (MarkS v x m) w' ∧ Chg S w w' := markSigned_at v x S m w hm hm0 h

end Go.Proofs.YtofehcpapdlcnabGreatDoor

namespace Go.Proofs.YtofehcpapdlcnabGreatDoor
open Go.RowKit

/-! ### kind R: impl.Rat -/
theorem szQ_len {x : QI} (h : szQ x ≤ 1048576) : x.1.2.length ≤ 1048576 ∧ x.2.length ≤ 1048576 := by unfold szQ szS szI at h; omega
theorem ownQ_form {v : Value} {x : QI} {w : World} (h : OwnQ v x w) : ∃ A c B d, v = .agg #[.bool x.1.1, .slice A x.1.2.length c, .slice B x.2.length d] := by
  obtain ⟨u, d, rfl, o, p, _⟩ := h
  obtain ⟨A, c, rfl⟩ := own_len o
  obtain ⟨B, d, rfl⟩ := own_len p
  exact ⟨A, c, B, d, rfl⟩
theorem partsQ_at {u d : Value} {x : QI} {B C : Nat} {w : World} (ou : w.ownsRow B 3 1 u x.1.2.length (intsV x.1.2)) (od : w.ownsRow C 3 1 d x.2.length (intsV x.2)) (hap : ∀ g, u.ownBlock = some g → d.ownBlock ≠ some g) :
    At (partsB u d) (OwnQ (.agg #[.bool x.1.1, u, d]) x) w := (At.both (own_at' ou) (own_at' od)).imp fun _ h => ⟨u, d, rfl, h.1, h.2, hap⟩
theorem NewQ.newV {x : QI} {w w' : World} {e : Ending} (h : NewQ x w e w') : NewV (fun v => OwnQ v x) w e w' := by
  obtain ⟨u, d, rfl, o, p, hap, b⟩ := h
  exact ⟨_, partsB u d, rfl, partsQ_at o p hap, fun g hg => by
    rcases List.mem_append.1 hg with hg | hg
    · exact own_within o g hg
    · exact own_within p g hg, b⟩
theorem ownQ_open {u d : Value} {c : Value} {x : QI} {w : World} (h : OwnQ (.agg #[c, u, d]) x w) : c = .bool x.1.1 ∧ OwnI u x.1.2 w ∧ OwnI d x.2 w ∧ (∀ g, u.ownBlock = some g → d.ownBlock ≠ some g) := by
  obtain ⟨u', d', e, hu, hd, hap⟩ := h
  injection e with e
  simp at e
  obtain ⟨e1, e2, e3⟩ := e
  subst e1 e2 e3
  exact ⟨rfl, hu, hd, hap⟩

/-! ### what calls answer: a new fraction or signed number, and scalars with it -/
def PostQb (R0 : QI) (R1 : Bool) (w : World) (e : Ending) (w' : World) : Prop :=
  ∃ (v : Value) (S : List Nat), e = .returned (.tuple #[v, .bool R1]) ∧ At S (OwnQ v R0) w' ∧ Within S w.heap.size w'.heap.size ∧ Below w.heap.size w w'
end Go.Proofs.YtofehcpapdlcnabGreatDoor

namespace Go.Proofs.YtofehcpapdlcnabGreatDoor

/-- place i comes ahead of place j: the greater rest, or the same and earlier -/
def Ah (r : Nat → Nat) (i j : Nat) : Prop := r j < r i ∨ (r j = r i ∧ i < j)
def swp (f : Nat → Nat) (i j : Nat) : Nat → Nat := fun k => if k = i then f j else if k = j then f i else f k
/-- g is f but for the places from a up to b, where it holds the same numbers -/
def Same (a b : Nat) (f g : Nat → Nat) : Prop := (∀ k, ¬ (a ≤ k ∧ k < b) → g k = f k) ∧ (∀ v, (∃ k, a ≤ k ∧ k < b ∧ g k = v) ↔ (∃ k, a ≤ k ∧ k < b ∧ f k = v))
def Srt (r f : Nat → Nat) (a b : Nat) : Prop := ∀ i j, a ≤ i → i < j → j < b → Ah r (f i) (f j)
theorem ah_trans {r : Nat → Nat} {i j k : Nat} (h : Ah r i j) (h2 : Ah r j k) : Ah r i k := by unfold Ah at *; omega
theorem ah_irr {r : Nat → Nat} {i : Nat} (h : Ah r i i) : False := by unfold Ah at *; omega
theorem ah_ne {r : Nat → Nat} {i j : Nat} (h : Ah r i j) : i ≠ j := fun e => by subst e; exact ah_irr h
theorem ah_asymm {r : Nat → Nat} {i j : Nat} (h : Ah r i j) (h2 : Ah r j i) : False := ah_irr (ah_trans h h2)
theorem same_refl (a b : Nat) (f : Nat → Nat) : Same a b f f := ⟨fun _ _ => rfl, fun _ => Iff.rfl⟩
theorem same_trans {a b : Nat} {f g h : Nat → Nat} (h1 : Same a b f g) (h2 : Same a b g h) : Same a b f h :=
  ⟨fun k hk => (h2.1 k hk).trans (h1.1 k hk), fun v => (h2.2 v).trans (h1.2 v)⟩
theorem same_wide {a b c d : Nat} {f g : Nat → Nat} (h : Same a b f g) (h1 : c ≤ a) (h2 : b ≤ d) : Same c d f g := by
  refine ⟨fun k hk => h.1 k (by omega), fun v => ⟨fun ⟨k, hk1, hk2, e⟩ => ?_, fun ⟨k, hk1, hk2, e⟩ => ?_⟩⟩
  · by_cases hk : a ≤ k ∧ k < b
    · obtain ⟨k', x, y, z⟩ := (h.2 v).1 ⟨k, hk.1, hk.2, e⟩
      exact ⟨k', by omega, by omega, z⟩
    · exact ⟨k, hk1, hk2, by rw [← h.1 k hk]; exact e⟩
  · by_cases hk : a ≤ k ∧ k < b
    · obtain ⟨k', x, y, z⟩ := (h.2 v).2 ⟨k, hk.1, hk.2, e⟩
      exact ⟨k', by omega, by omega, z⟩
    · exact ⟨k, hk1, hk2, by rw [h.1 k hk]; exact e⟩
theorem same_swp {a b : Nat} (f : Nat → Nat) {i j : Nat} (hi : a ≤ i ∧ i < b) (hj : a ≤ j ∧ j < b) : Same a b f (swp f i j) := by
  refine ⟨fun k hk => ?_, fun v => ⟨fun ⟨k, hk1, hk2, e⟩ => ?_, fun ⟨k, hk1, hk2, e⟩ => ?_⟩⟩
  · unfold swp; rw [if_neg (by omega), if_neg (by omega)]
  · unfold swp at e
    split at e
    · exact ⟨j, hj.1, hj.2, e⟩
    · split at e
      · exact ⟨i, hi.1, hi.2, e⟩
      · exact ⟨k, hk1, hk2, e⟩
  · by_cases h1 : k = i
    · refine ⟨j, hj.1, hj.2, ?_⟩
      unfold swp
      by_cases h2 : j = i
      · rw [if_pos h2, h2, ← h1]; exact e
      · rw [if_neg h2, if_pos rfl, ← h1]; exact e
    · by_cases h2 : k = j
      · exact ⟨i, hi.1, hi.2, by unfold swp; rw [if_pos rfl, ← h2]; exact e⟩
      · exact ⟨k, hk1, hk2, by unfold swp; rw [if_neg h1, if_neg h2]; exact e⟩

/-- the inner loop of the insertion: place i's number stands at j -/
structure Ins (r f0 f : Nat → Nat) (a i j : Nat) : Prop where
  same : Same a (i + 1) f0 f
  aj : a ≤ j
  ji : j ≤ i
  here : f j = i
  less : ∀ p, a ≤ p → p ≤ i → p ≠ j → f p < i
  rest : ∀ p q, a ≤ p → p < q → q ≤ i → p ≠ j → q ≠ j → Ah r (f p) (f q)
  past : ∀ q, j < q → q ≤ i → Ah r (f j) (f q)
theorem ins_start {r f0 : Nat → Nat} {a i : Nat} (h : Srt r f0 a i) (hi : f0 i = i) (ha : a ≤ i) (hl : ∀ p, a ≤ p → p < i → f0 p < i) : Ins r f0 f0 a i i :=
  ⟨same_refl _ _ _, ha, Nat.le_refl _, hi, fun p h1 h2 h3 => hl p h1 (by omega), fun p q h1 h2 h3 h4 h5 => h p q h1 h2 (by omega), fun q h1 h2 => by omega⟩
theorem ins_step {r f0 f : Nat → Nat} {a i j : Nat} (h : Ins r f0 f a i j) (hj : a < j) (hr : r (f (j - 1)) < r (f j)) : Ins r f0 (swp f j (j - 1)) a i (j - 1) := by
  have ji := h.ji
  have hs : Same a (i + 1) f (swp f j (j - 1)) := same_swp f ⟨by omega, by omega⟩ ⟨by omega, by omega⟩
  have e1 : swp f j (j - 1) (j - 1) = f j := by unfold swp; rw [if_neg (by omega), if_pos rfl]
  have e2 : swp f j (j - 1) j = f (j - 1) := by unfold swp; rw [if_pos rfl]
  have e3 : ∀ p, p ≠ j → p ≠ j - 1 → swp f j (j - 1) p = f p := fun p h1 h2 => by unfold swp; rw [if_neg h1, if_neg h2]
  refine ⟨same_trans h.same hs, by omega, by omega, by rw [e1]; exact h.here, fun p h1 h2 h3 => ?_, fun p q h1 h2 h3 h4 h5 => ?_, fun q h1 h2 => ?_⟩
  · by_cases hp : p = j
    · rw [hp, e2]; exact h.less _ (by omega) (by omega) (by omega)
    · rw [e3 p hp h3]; exact h.less p h1 h2 hp
  · by_cases hp : p = j
    · rw [hp, e2, e3 q (by omega) (by omega)]; exact h.rest _ _ (by omega) (by omega) h3 (by omega) (by omega)
    · rw [e3 p hp h4]
      by_cases hq : q = j
      · rw [hq, e2]; exact h.rest _ _ h1 (by omega) (by omega) hp (by omega)
      · rw [e3 q hq h5]; exact h.rest _ _ h1 h2 h3 hp hq
  · rw [e1]
    by_cases hq : q = j
    · rw [hq, e2]; exact Or.inl hr
    · rw [e3 q hq (by omega)]; exact h.past q (by omega) h2
theorem ins_end {r f0 f : Nat → Nat} {a i j : Nat} (h : Ins r f0 f a i j) (hj : j = a ∨ ¬ r (f (j - 1)) < r (f j)) : Srt r f a (i + 1) := by
  have ji := h.ji
  have aj := h.aj
  intro p q h1 h2 h3
  by_cases hp : p = j
  · rw [hp]; exact h.past q (by omega) (by omega)
  · by_cases hq : q = j
    · have hne : a < j := by omega
      have hr : ¬ r (f (j - 1)) < r (f j) := by omega
      have hl : Ah r (f (j - 1)) (f j) := by
        have := h.less (j - 1) (by omega) (by omega) (by omega)
        rw [← h.here] at this
        unfold Ah; omega
      rw [hq]
      by_cases hp1 : p = j - 1
      · rw [hp1]; exact hl
      · exact ah_trans (h.rest p (j - 1) h1 (by omega) (by omega) hp (by omega)) hl
    · exact h.rest p q h1 h2 (by omega) hp hq
/-- the outer loop -/
structure Insd (r x f : Nat → Nat) (a b i : Nat) : Prop where
  same : Same a i x f
  srt : Srt r f a i
  ai : a < i
  ib : i ≤ b
theorem insd_in {r x f : Nat → Nat} {a b i : Nat} (h : Insd r x f a b i) (hx : ∀ k, a ≤ k → k < b → x k = k) (hi : i < b) : Ins r f f a i i := by
  refine ins_start h.srt ?_ (by have := h.ai; omega) ?_
  · rw [h.same.1 i (by omega)]; exact hx i (by have := h.ai; omega) hi
  · intro p h1 h2
    obtain ⟨k, k1, k2, e⟩ := (h.same.2 (f p)).1 ⟨p, h1, h2, rfl⟩
    rw [hx k k1 (by omega)] at e
    omega
theorem insd_out {r x f g : Nat → Nat} {a b i j : Nat} (h : Insd r x f a b i) (hi : i < b) (h2 : Ins r f g a i j) (hj : j = a ∨ ¬ r (g (j - 1)) < r (g j)) : Insd r x g a b (i + 1) :=
  ⟨same_trans (same_wide h.same (Nat.le_refl _) (by omega)) h2.same, ins_end h2 hj, by have := h.ai; omega, by omega⟩

/-- the two parts from a to m and from m to b, exchanged -/
def rot (f : Nat → Nat) (a m b : Nat) : Nat → Nat := fun k => if a ≤ k ∧ k < a + (b - m) then f (k + (m - a)) else if a + (b - m) ≤ k ∧ k < b then f (k - (b - m)) else f k
/-- n numbers at a and n at b, exchanged -/
def swpR (f : Nat → Nat) (a b n : Nat) : Nat → Nat := fun k => if a ≤ k ∧ k < a + n then f (k - a + b) else if b ≤ k ∧ k < b + n then f (k - b + a) else f k
theorem swpR_zero (f : Nat → Nat) (a b : Nat) : swpR f a b 0 = f := by funext k; unfold swpR; rw [if_neg (by omega), if_neg (by omega)]
theorem swpR_succ (f : Nat → Nat) (a b n : Nat) (h : a + n < b) : swp (swpR f a b n) (a + n) (b + n) = swpR f a b (n + 1) := by
  funext k
  unfold swp swpR
  by_cases h1 : k = a + n
  · subst h1
    rw [if_pos rfl, if_neg (by omega), if_neg (by omega), if_pos (by omega)]; congr 1; omega
  · rw [if_neg h1]
    by_cases h2 : k = b + n
    · subst h2
      rw [if_pos rfl, if_neg (by omega), if_neg (by omega), if_neg (by omega), if_pos (by omega)]; congr 1; omega
    · rw [if_neg h2]
      repeat' split
      all_goals first | rfl | omega
theorem rot_left (f : Nat → Nat) (m i j : Nat) (h : j < i) (hm : i ≤ m) : rot (swpR f (m - i) m j) (m - (i - j)) m (m + j) = rot f (m - i) m (m + j) := by
  funext k
  unfold rot swpR
  repeat' split
  all_goals first | (congr 1; omega) | omega
theorem rot_right (f : Nat → Nat) (m i j : Nat) (h : i < j) (hm : i ≤ m) : rot (swpR f (m - i) (m + j - i) i) (m - i) m (m + (j - i)) = rot f (m - i) m (m + j) := by
  funext k
  unfold rot swpR
  repeat' split
  all_goals first | (congr 1; omega) | omega
theorem rot_end (f : Nat → Nat) (m i : Nat) (hm : i ≤ m) : swpR f (m - i) m i = rot f (m - i) m (m + i) := by
  funext k
  unfold rot swpR
  repeat' split
  all_goals first | (congr 1; omega) | omega
theorem same_rot (f : Nat → Nat) (a m b : Nat) (h1 : a ≤ m) (h2 : m ≤ b) : Same a b f (rot f a m b) := by
  refine ⟨fun k hk => ?_, fun v => ⟨fun ⟨k, hk1, hk2, e⟩ => ?_, fun ⟨k, hk1, hk2, e⟩ => ?_⟩⟩
  · unfold rot; rw [if_neg (by omega), if_neg (by omega)]
  · unfold rot at e
    split at e
    · exact ⟨k + (m - a), by omega, by omega, e⟩
    · rw [if_pos (by omega)] at e
      exact ⟨k - (b - m), by omega, by omega, e⟩
  · by_cases h : k < m
    · refine ⟨k + (b - m), by omega, by omega, ?_⟩
      unfold rot
      rw [if_neg (by omega), if_pos (by omega), ← e]; congr 1; omega
    · refine ⟨k - (m - a), by omega, by omega, ?_⟩
      unfold rot
      rw [if_pos (by omega), ← e]; congr 1; omega

/-- what a merge asks: the left part's numbers are below c, the right part's are not, each part is in order -/
structure Mg (r f : Nat → Nat) (a m b c : Nat) : Prop where
  am : a < m
  mb : m < b
  lo : ∀ k, a ≤ k → k < m → f k < c
  hi : ∀ k, m ≤ k → k < b → c ≤ f k
  ls : Srt r f a m
  rs : Srt r f m b
theorem mg_lt {r f : Nat → Nat} {a m b c i j : Nat} (h : Mg r f a m b c) (hi : a ≤ i ∧ i < m) (hj : m ≤ j ∧ j < b) : (¬ r (f i) < r (f j)) ↔ Ah r (f i) (f j) := by
  have h1 := h.lo i hi.1 hi.2
  have h2 := h.hi j hj.1 hj.2
  unfold Ah; omega
theorem mg_gt {r f : Nat → Nat} {a m b c i j : Nat} (h : Mg r f a m b c) (hi : a ≤ i ∧ i < m) (hj : m ≤ j ∧ j < b) : (r (f i) < r (f j)) ↔ Ah r (f j) (f i) := by
  have h1 := h.lo i hi.1 hi.2
  have h2 := h.hi j hj.1 hj.2
  unfold Ah; omega
theorem rot_id {f : Nat → Nat} {s m e : Nat} (h : s = m ∨ e = m) (h1 : s ≤ m) (h2 : m ≤ e) : rot f s m e = f := by
  funext k
  unfold rot
  repeat' split
  all_goals first | rfl | (congr 1; omega)
theorem rot_up (f : Nat → Nat) (a k : Nat) (h : a ≤ k) : swp (rot f a (a + 1) (k + 1)) k (k + 1) = rot f a (a + 1) (k + 1 + 1) := by
  funext x
  unfold swp rot
  by_cases h1 : x = k
  · subst h1; rw [if_pos rfl, if_neg (by omega), if_neg (by omega), if_pos (by omega)]; congr 1; omega
  · rw [if_neg h1]
    by_cases h2 : x = k + 1
    · subst h2; rw [if_pos rfl, if_neg (by omega), if_pos (by omega), if_neg (by omega), if_pos (by omega)]; congr 1; omega
    · rw [if_neg h2]
      repeat' split
      all_goals first | rfl | omega | (congr 1; omega)
theorem rot_down (f : Nat → Nat) (k m : Nat) (h : k < m) : swp (rot f (k + 1) m (m + 1)) (k + 1) k = rot f k m (m + 1) := by
  funext x
  unfold swp rot
  by_cases h1 : x = k + 1
  · subst h1; rw [if_pos rfl, if_neg (by omega), if_neg (by omega), if_neg (by omega), if_pos (by omega)]; congr 1; omega
  · rw [if_neg h1]
    by_cases h2 : x = k
    · subst h2; rw [if_pos rfl, if_pos (by omega), if_pos (by omega)]; congr 1; omega
    · rw [if_neg h2]
      repeat' split
      all_goals first | rfl | omega | (congr 1; omega)

theorem mg_one_left {r f : Nat → Nat} {a b c i : Nat} (h : Mg r f a (a + 1) b c) (hi : a + 1 ≤ i) (hb : i ≤ b) (hl : ∀ k, a + 1 ≤ k → k < i → r (f a) < r (f k)) (hr : i = b ∨ ¬ r (f a) < r (f i)) : Srt r (rot f a (a + 1) i) a b := by
  have e1 : ∀ k, a ≤ k → k < i - 1 → rot f a (a + 1) i k = f (k + 1) := fun k h1 h2 => by unfold rot; rw [if_pos (by omega)]; congr 1; omega
  have e2 : rot f a (a + 1) i (i - 1) = f a := by unfold rot; rw [if_neg (by omega), if_pos (by omega)]; congr 1; omega
  have e3 : ∀ k, i ≤ k → rot f a (a + 1) i k = f k := fun k h1 => by unfold rot; rw [if_neg (by omega), if_neg (by omega)]
  intro p q h1 h2 h3
  by_cases hp : p < i - 1
  · rw [e1 p h1 hp]
    by_cases hq : q < i - 1
    · rw [e1 q (by omega) hq]; exact h.rs _ _ (by omega) (by omega) (by omega)
    · by_cases hq2 : q = i - 1
      · rw [hq2, e2]; exact (mg_gt h ⟨Nat.le_refl _, by omega⟩ ⟨by omega, by omega⟩).1 (hl _ (by omega) (by omega))
      · rw [e3 q (by omega)]; exact h.rs _ _ (by omega) (by omega) (by omega)
  · rw [e3 q (by omega)]
    by_cases hp2 : p = i - 1
    · rw [hp2, e2]
      have hib : i < b := by omega
      have h5 : Ah r (f a) (f i) := (mg_lt h ⟨Nat.le_refl _, by omega⟩ ⟨by omega, by omega⟩).1 (by omega)
      by_cases hqi : q = i
      · rw [hqi]; exact h5
      · exact ah_trans h5 (h.rs _ _ (by omega) (by omega) (by omega))
    · rw [e3 p (by omega)]; exact h.rs _ _ (by omega) (by omega) (by omega)
theorem mg_one_right {r f : Nat → Nat} {a m c i : Nat} (h : Mg r f a m (m + 1) c) (hi : a ≤ i) (hb : i ≤ m) (hl : ∀ k, a ≤ k → k < i → ¬ r (f k) < r (f m)) (hr : i = m ∨ r (f i) < r (f m)) : Srt r (rot f i m (m + 1)) a (m + 1) := by
  have e1 : ∀ k, k < i → rot f i m (m + 1) k = f k := fun k h1 => by unfold rot; rw [if_neg (by omega), if_neg (by omega)]
  have e2 : rot f i m (m + 1) i = f m := by unfold rot; rw [if_pos (by omega)]; congr 1; omega
  have e3 : ∀ k, i < k → k ≤ m → rot f i m (m + 1) k = f (k - 1) := fun k h1 h2 => by unfold rot; rw [if_neg (by omega), if_pos (by omega)]; congr 1; omega
  intro p q h1 h2 h3
  by_cases hp : p < i
  · rw [e1 p hp]
    by_cases hq : q < i
    · rw [e1 q hq]; exact h.ls _ _ (by omega) (by omega) (by omega)
    · by_cases hq2 : q = i
      · rw [hq2, e2]; exact (mg_lt h ⟨by omega, by omega⟩ ⟨by omega, by omega⟩).1 (hl _ (by omega) (by omega))
      · rw [e3 q (by omega) (by omega)]; exact h.ls _ _ (by omega) (by omega) (by omega)
  · rw [e3 q (by omega) (by omega)]
    by_cases hp2 : p = i
    · rw [hp2, e2]
      have him : i < m := by omega
      have h5 : Ah r (f m) (f i) := (mg_gt h ⟨by omega, by omega⟩ ⟨by omega, by omega⟩).1 (by omega)
      by_cases hqi : q - 1 = i
      · rw [hqi]; exact h5
      · exact ah_trans h5 (h.ls _ _ (by omega) (by omega) (by omega))
    · rw [e3 p (by omega) (by omega)]; exact h.ls _ _ (by omega) (by omega) (by omega)
/-- what a merge's cut gives: two smaller merges, and all of the first half ahead of the second -/
structure Cutd (r g : Nat → Nat) (a s mid e b c : Nat) : Prop where
  le1 : a ≤ s
  le2 : s ≤ mid
  le3 : mid ≤ e
  le4 : e ≤ b
  lo1 : ∀ k, a ≤ k → k < s → g k < c
  hi1 : ∀ k, s ≤ k → k < mid → c ≤ g k
  lo2 : ∀ k, mid ≤ k → k < e → g k < c
  hi2 : ∀ k, e ≤ k → k < b → c ≤ g k
  s1 : Srt r g a s
  s2 : Srt r g s mid
  s3 : Srt r g mid e
  s4 : Srt r g e b
  cr : ∀ i j, a ≤ i → i < mid → mid ≤ j → j < b → Ah r (g i) (g j)
theorem mg_cut {r f : Nat → Nat} {a m b c s e : Nat} (h : Mg r f a m b c) (h1 : a ≤ s) (h2 : s ≤ m) (h3 : m ≤ e) (h4 : e ≤ b)
    (hl : s = a ∨ e = b ∨ ¬ r (f (s - 1)) < r (f e)) (hr : s = m ∨ e = m ∨ r (f s) < r (f (e - 1))) : Cutd r (rot f s m e) a s (s + (e - m)) e b c := by
  have e1 : ∀ k, k < s → rot f s m e k = f k := fun k h1 => by unfold rot; rw [if_neg (by omega), if_neg (by omega)]
  have e2 : ∀ k, s ≤ k → k < s + (e - m) → rot f s m e k = f (k + (m - s)) := fun k h1 h2 => by unfold rot; rw [if_pos (by omega)]
  have e3 : ∀ k, s + (e - m) ≤ k → k < e → rot f s m e k = f (k - (e - m)) := fun k h1 h2 => by unfold rot; rw [if_neg (by omega), if_pos (by omega)]
  have e4 : ∀ k, e ≤ k → rot f s m e k = f k := fun k h1 => by unfold rot; rw [if_neg (by omega), if_neg (by omega)]
  -- the left part's head ahead of the right part's tail
  have c1 : ∀ i j, a ≤ i → i < s → e ≤ j → j < b → Ah r (f i) (f j) := by
    intro i j i1 i2 j1 j2
    have h5 : Ah r (f (s - 1)) (f e) := (mg_lt h ⟨by omega, by omega⟩ ⟨by omega, by omega⟩).1 (by omega)
    have h6 : Ah r (f i) (f e) := by
      by_cases hi : i = s - 1
      · rw [hi]; exact h5
      · exact ah_trans (h.ls _ _ i1 (by omega) (by omega)) h5
    by_cases hj : j = e
    · rw [hj]; exact h6
    · exact ah_trans h6 (h.rs _ _ h3 (by omega) j2)
  -- the right part's head ahead of the left part's tail
  have c2 : ∀ i j, m ≤ i → i < e → s ≤ j → j < m → Ah r (f i) (f j) := by
    intro i j i1 i2 j1 j2
    have h5 : Ah r (f (e - 1)) (f s) := (mg_gt h ⟨by omega, by omega⟩ ⟨by omega, by omega⟩).1 (by omega)
    have h6 : Ah r (f i) (f s) := by
      by_cases hi : i = e - 1
      · rw [hi]; exact h5
      · exact ah_trans (h.rs _ _ i1 (by omega) (by omega)) h5
    by_cases hj : j = s
    · rw [hj]; exact h6
    · exact ah_trans h6 (h.ls _ _ h1 (by omega) j2)
  refine ⟨h1, by omega, by omega, h4, fun k k1 k2 => ?_, fun k k1 k2 => ?_, fun k k1 k2 => ?_, fun k k1 k2 => ?_, fun i j i1 i2 i3 => ?_, fun i j i1 i2 i3 => ?_, fun i j i1 i2 i3 => ?_, fun i j i1 i2 i3 => ?_, fun i j i1 i2 i3 i4 => ?_⟩
  · rw [e1 k k2]; exact h.lo k k1 (by omega)
  · rw [e2 k k1 k2]; exact h.hi _ (by omega) (by omega)
  · rw [e3 k k1 k2]; exact h.lo _ (by omega) (by omega)
  · rw [e4 k k1]; exact h.hi _ (by omega) (by omega)
  · rw [e1 i (by omega), e1 j (by omega)]; exact h.ls _ _ i1 i2 (by omega)
  · rw [e2 i (by omega) (by omega), e2 j (by omega) (by omega)]; exact h.rs _ _ (by omega) (by omega) (by omega)
  · rw [e3 i (by omega) (by omega), e3 j (by omega) (by omega)]; exact h.ls _ _ (by omega) (by omega) (by omega)
  · rw [e4 i (by omega), e4 j (by omega)]; exact h.rs _ _ (by omega) i2 i3
  · by_cases hi : i < s
    · rw [e1 i hi]
      by_cases hj : j < e
      · rw [e3 j i3 hj]; exact h.ls _ _ i1 (by omega) (by omega)
      · rw [e4 j (by omega)]; exact c1 i j i1 hi (by omega) i4
    · rw [e2 i (by omega) i2]
      by_cases hj : j < e
      · rw [e3 j i3 hj]; exact c2 _ _ (by omega) (by omega) (by omega) (by omega)
      · rw [e4 j (by omega)]; exact h.rs _ _ (by omega) (by omega) i4
theorem cutd_left {r g : Nat → Nat} {a s mid e b c : Nat} (h : Cutd r g a s mid e b c) (h1 : a < s) (h2 : s < mid) : Mg r g a s mid c := ⟨h1, h2, h.lo1, h.hi1, h.s1, h.s2⟩
theorem cutd_right {r g : Nat → Nat} {a s mid e b c : Nat} (h : Cutd r g a s mid e b c) (h1 : mid < e) (h2 : e < b) : Mg r g mid e b c := ⟨h1, h2, h.lo2, h.hi2, h.s3, h.s4⟩
theorem cutd_left_done {r g : Nat → Nat} {a s mid e b c : Nat} (h : Cutd r g a s mid e b c) (h1 : ¬ (a < s ∧ s < mid)) : Srt r g a mid := by
  have := h.le1; have := h.le2
  by_cases hs : s = a
  · have := h.s2; rw [hs] at this; exact this
  · have hm : s = mid := by omega
    have := h.s1; rw [hm] at this; exact this
theorem cutd_right_done {r g : Nat → Nat} {a s mid e b c : Nat} (h : Cutd r g a s mid e b c) (h1 : ¬ (mid < e ∧ e < b)) : Srt r g mid b := by
  have := h.le3; have := h.le4
  by_cases hs : e = mid
  · have := h.s4; rw [hs] at this; exact this
  · have hm : e = b := by omega
    have := h.s3; rw [hm] at this; exact this
theorem half_join {r g g1 g2 : Nat → Nat} {a mid b : Nat} (cr : ∀ i j, a ≤ i → i < mid → mid ≤ j → j < b → Ah r (g i) (g j)) (h1 : Same a mid g g1) (s1 : Srt r g1 a mid) (h2 : Same mid b g1 g2) (s2 : Srt r g2 mid b) : Srt r g2 a b := by
  intro p q p1 pq qb
  by_cases hq : q < mid
  · rw [h2.1 p (by omega), h2.1 q (by omega)]; exact s1 p q p1 pq hq
  · by_cases hp : p < mid
    · rw [h2.1 p (by omega)]
      obtain ⟨p', x1, x2, ep⟩ := (h1.2 (g1 p)).1 ⟨p, p1, hp, rfl⟩
      obtain ⟨q', y1, y2, eq⟩ := (h2.2 (g2 q)).1 ⟨q, by omega, qb, rfl⟩
      rw [h1.1 q' (by omega)] at eq
      rw [← ep, ← eq]
      exact cr p' q' x1 x2 y1 y2
    · exact s2 p q (by omega) pq qb
/-- what the first merge leaves of what the second asks -/
theorem mg_kept {r g g1 : Nat → Nat} {a mid e b c : Nat} (h : Mg r g mid e b c) (h1 : Same a mid g g1) : Mg r g1 mid e b c := by
  have am := h.am; have mb := h.mb
  have k : ∀ k, mid ≤ k → g1 k = g k := fun k hk => h1.1 k (by omega)
  refine ⟨am, mb, fun i i1 i2 => by rw [k i i1]; exact h.lo i i1 i2, fun i i1 i2 => by rw [k i (by omega)]; exact h.hi i i1 i2, fun i j i1 i2 i3 => ?_, fun i j i1 i2 i3 => ?_⟩
  · rw [k i i1, k j (by omega)]; exact h.ls i j i1 i2 i3
  · rw [k i (by omega), k j (by omega)]; exact h.rs i j i1 i2 i3
theorem srt_kept {r g g1 : Nat → Nat} {a mid b : Nat} (h : Srt r g mid b) (h1 : Same a mid g g1) : Srt r g1 mid b := by
  have k : ∀ k, mid ≤ k → g1 k = g k := fun k hk => h1.1 k (by omega)
  intro i j i1 i2 i3
  rw [k i i1, k j (by omega)]; exact h i j i1 i2 i3

/-- C holds the places that come ahead of all others -/
structure Top (r : Nat → Nat) (n : Nat) (C : List Nat) : Prop where
  nd : C.Nodup
  lt : ∀ i ∈ C, i < n
  ah : ∀ i ∈ C, ∀ j, j < n → j ∉ C → Ah r i j
theorem nodup_sub : ∀ (l m : List Nat), l.Nodup → (∀ x ∈ l, x ∈ m) → l.length ≤ m.length := by
  intro l
  induction l with
  | nil => intro m _ _; simp
  | cons x l ih =>
    intro m hn hs
    rw [List.nodup_cons] at hn
    have hx := hs x (by simp)
    have h := ih (m.erase x) hn.2 (fun y hy => by
      have : y ≠ x := fun e => hn.1 (e ▸ hy)
      exact (List.mem_erase_of_ne this).2 (hs y (by simp [hy])))
    rw [List.length_erase_of_mem hx] at h
    have : 0 < m.length := List.length_pos_of_mem hx
    simp only [List.length_cons]
    omega
/-- the first m places of a row in order -/
theorem top_srt {r f : Nat → Nat} {n m : Nat} (h : Srt r f 0 n) (hs : Same 0 n (fun k => k) f) (hm : m ≤ n) : Top r n ((List.range m).map f) := by
  have inj : ∀ i j, i < n → j < n → f i = f j → i = j := by
    intro i j hi hj e
    rcases Nat.lt_trichotomy i j with h1 | h1 | h1
    · exact absurd e (ah_ne (h i j (Nat.zero_le _) h1 hj))
    · exact h1
    · exact absurd e.symm (ah_ne (h j i (Nat.zero_le _) h1 hi))
  refine ⟨?_, fun i hi => ?_, fun i hi j hj hn => ?_⟩
  · rw [List.nodup_iff_pairwise_ne, List.pairwise_map]
    exact List.Pairwise.imp_of_mem (fun {a b} ha hb hab => ah_ne (h a b (Nat.zero_le _) hab (by have := List.mem_range.1 hb; omega))) List.pairwise_lt_range
  · obtain ⟨k, hk, rfl⟩ := List.mem_map.1 hi
    have hk := List.mem_range.1 hk
    obtain ⟨k', _, h2, e⟩ := (hs.2 (f k)).1 ⟨k, Nat.zero_le _, by omega, rfl⟩
    rw [← e]; exact h2
  · obtain ⟨k, hk, rfl⟩ := List.mem_map.1 hi
    have hk := List.mem_range.1 hk
    obtain ⟨k', _, h2, e⟩ := (hs.2 j).2 ⟨j, Nat.zero_le _, hj, rfl⟩
    have h3 : m ≤ k' := by
      apply Classical.byContradiction
      intro hlt
      exact hn (List.mem_map.2 ⟨k', List.mem_range.2 (by omega), e⟩)
    rw [← e]
    exact h k k' (Nat.zero_le _) (by omega) h2
theorem top_nil (r : Nat → Nat) (n : Nat) : Top r n [] := ⟨List.nodup_nil, (fun _ h => absurd h List.not_mem_nil), (fun _ h _ _ _ => absurd h List.not_mem_nil)⟩
/-- the best of those that are left, taken in -/
theorem top_cons {r : Nat → Nat} {n : Nat} {C : List Nat} (h : Top r n C) {b : Nat} (hb : b < n) (hn : b ∉ C) (hbest : ∀ j, j < n → j ∉ C → j ≠ b → Ah r b j) : Top r n (b :: C) := by
  refine ⟨List.nodup_cons.2 ⟨hn, h.nd⟩, fun i hi => ?_, fun i hi j hj hnj => ?_⟩
  · rcases List.mem_cons.1 hi with rfl | hi
    · exact hb
    · exact h.lt i hi
  · have h1 : j ≠ b := fun e => hnj (e ▸ List.mem_cons_self ..)
    have h2 : j ∉ C := fun hc => hnj (List.mem_cons_of_mem _ hc)
    rcases List.mem_cons.1 hi with rfl | hi
    · exact hbest j hj h2 h1
    · exact h.ah i hi j hj h2
/-- how many come ahead of a place -/
def rankN (r : Nat → Nat) (n i : Nat) : Nat := ((List.range n).filter fun j => decide (r i < r j ∨ (r i = r j ∧ j < i))).length
theorem top_rank {r : Nat → Nat} {n : Nat} {C : List Nat} (h : Top r n C) {i : Nat} (hi : i < n) : i ∈ C ↔ rankN r n i < C.length := by
  have nd : ((List.range n).filter fun j => decide (r i < r j ∨ (r i = r j ∧ j < i))).Nodup := List.Pairwise.filter _ List.nodup_range
  have hm : ∀ j, j ∈ ((List.range n).filter fun j => decide (r i < r j ∨ (r i = r j ∧ j < i))) ↔ j < n ∧ Ah r j i := by
    intro j
    rw [List.mem_filter, List.mem_range, decide_eq_true_eq]
    unfold Ah
    omega
  constructor
  · intro hc
    have h1 := nodup_sub _ (C.erase i) nd (fun j hj => by
      obtain ⟨h1, h2⟩ := (hm j).1 hj
      have hne : j ≠ i := ah_ne h2
      refine (List.mem_erase_of_ne hne).2 ?_
      exact Classical.byContradiction fun hnc => ah_asymm h2 (h.ah i hc j h1 hnc))
    rw [List.length_erase_of_mem hc] at h1
    have : 0 < C.length := List.length_pos_of_mem hc
    unfold rankN
    omega
  · intro hlt
    apply Classical.byContradiction
    intro hn
    have h1 := nodup_sub C _ h.nd (fun j hj => (hm j).2 ⟨h.lt j hj, h.ah j hj i hi hn⟩)
    unfold rankN at hlt
    omega
end Go.Proofs.YtofehcpapdlcnabGreatDoor

namespace Go.Proofs.YtofehcpapdlcnabGreatDoor

/-- shares rounded down, and what is left of each, over the whole -/
theorem sum_parts (X T : Nat) (w : List Nat) : (w.map fun y => X * y / T).sum * T + (w.map fun y => X * y % T).sum = X * w.sum := by
  induction w with
  | nil => simp
  | cons y w ih =>
    simp only [List.map_cons, List.sum_cons, Nat.add_mul, Nat.mul_add]
    have := Nat.div_add_mod (X * y) T
    rw [Nat.mul_comm] at this
    omega
theorem parts_le {X : Nat} {w : List Nat} (h : 0 < w.sum) : (w.map fun y => X * y / w.sum).sum ≤ X := by
  have h1 := sum_parts X w.sum w
  have h2 : (w.map fun y => X * y / w.sum).sum * w.sum ≤ X * w.sum := by omega
  exact Nat.le_of_mul_le_mul_right h2 h
/-- what is missing, in rests -/
theorem missing_rests {X : Nat} {w : List Nat} : (w.map fun y => X * y % w.sum).sum = (X - (w.map fun y => X * y / w.sum).sum) * w.sum := by
  have h1 := sum_parts X w.sum w
  rw [Nat.sub_mul]
  omega
theorem map_at (w : List Nat) (g : Nat → Nat) : (List.range w.length).map (fun i => g w[i]!) = w.map g := by
  apply List.ext_getElem
  · simp
  · intro i h1 h2
    simp at h1 h2 ⊢
    rw [List.getElem?_eq_getElem h2]
    rfl
theorem sum_few (r : Nat → Nat) (T : Nat) (h : ∀ j, r j < T) (l : List Nat) : (l.map r).sum ≤ (l.filter fun j => decide (0 < r j)).length * (T - 1) := by
  induction l with
  | nil => simp
  | cons x l ih =>
    rw [List.map_cons, List.sum_cons, List.filter_cons]
    have := h x
    split
    · rw [List.length_cons, Nat.succ_mul]; omega
    · rename_i hx
      simp only [decide_eq_true_eq] at hx
      omega
/-- while fewer are taken than are missing, one that is left has a rest -/
theorem one_left {X : Nat} {w : List Nat} (h : 0 < w.sum) {C : List Nat} (hC : C.length < X - (w.map fun y => X * y / w.sum).sum) (hn : ∀ j, j < w.length → j ∉ C → X * w[j]! % w.sum = 0) : False := by
  have h1 := missing_rests (X := X) (w := w)
  rw [← map_at w (fun y => X * y % w.sum)] at h1
  have h2 := sum_few (fun i => X * w[i]! % w.sum) w.sum (fun _ => Nat.mod_lt _ h) (List.range w.length)
  rw [h1] at h2
  have h3 := nodup_sub ((List.range w.length).filter fun j => decide (0 < X * w[j]! % w.sum)) C (List.Pairwise.filter _ List.nodup_range) (fun j hj => by
    rw [List.mem_filter, List.mem_range, decide_eq_true_eq] at hj
    refine Classical.byContradiction fun hc => ?_
    have := hn j hj.1 hc
    omega)
  have h4 := Nat.mul_le_mul_right (w.sum - 1) h3
  have h5 : C.length * (w.sum - 1) < (X - (w.map fun y => X * y / w.sum).sum) * w.sum := by
    have h6 : (C.length + 1) * w.sum ≤ (X - (w.map fun y => X * y / w.sum).sum) * w.sum := Nat.mul_le_mul_right _ hC
    have h7 : C.length * (w.sum - 1) ≤ C.length * w.sum := Nat.mul_le_mul_left _ (by omega)
    rw [Nat.add_mul, Nat.one_mul] at h6
    omega
  omega
theorem missing_le {X : Nat} {w : List Nat} (h : 0 < w.sum) : X - (w.map fun y => X * y / w.sum).sum ≤ w.length := by
  have h1 := missing_rests (X := X) (w := w)
  rw [← map_at w (fun y => X * y % w.sum)] at h1
  have h2 := sum_few (fun i => X * w[i]! % w.sum) w.sum (fun _ => Nat.mod_lt _ h) (List.range w.length)
  rw [h1] at h2
  have h3 : ((List.range w.length).filter fun j => decide (0 < X * w[j]! % w.sum)).length ≤ w.length := by
    have := List.length_filter_le (fun j => decide (0 < X * w[j]! % w.sum)) (List.range w.length)
    rw [List.length_range] at this
    exact this
  have h4 := Nat.mul_le_mul_right (w.sum - 1) h3
  have h5 : w.length * (w.sum - 1) ≤ w.length * w.sum := Nat.mul_le_mul_left _ (by omega)
  exact Nat.le_of_mul_le_mul_right (by omega) h
/-- what a scan for the greatest has found: nothing above 0, or the first of the greatest -/
def Found (k : Nat → Nat) (i : Nat) (b : Int) : Prop := (b = -1 ∧ ∀ j, j < i → k j = 0) ∨ ∃ m : Nat, b = (m : Int) ∧ m < i ∧ 0 < k m ∧ ∀ j, j < i → j ≠ m → (k j < k m ∨ (k j = k m ∧ m < j))
theorem found_none (k : Nat → Nat) : Found k 0 (-1) := Or.inl ⟨rfl, fun _ h => absurd h (Nat.not_lt_zero _)⟩
theorem found_take {k : Nat → Nat} {i : Nat} {b : Int} (h : Found k i b) (h1 : 0 < k i) (h2 : b < 0 ∨ k b.toNat < k i) : Found k (i + 1) i := by
  refine Or.inr ⟨i, rfl, by omega, h1, fun j hj hne => ?_⟩
  rcases h with ⟨rfl, h⟩ | ⟨m, rfl, hm, hp, h⟩
  · have := h j (by omega); omega
  · rw [Int.toNat_natCast] at h2
    by_cases hj2 : j = m
    · subst hj2; omega
    · have := h j (by omega) hj2; omega
theorem found_pass {k : Nat → Nat} {i : Nat} {b : Int} (h : Found k i b) (h1 : ¬ (0 < k i ∧ (b < 0 ∨ k b.toNat < k i))) : Found k (i + 1) b := by
  rcases h with ⟨rfl, h⟩ | ⟨m, rfl, hm, hp, h⟩
  · refine Or.inl ⟨rfl, fun j hj => ?_⟩
    by_cases e : j = i
    · subst e; omega
    · exact h j (by omega)
  · rw [Int.toNat_natCast] at h1
    refine Or.inr ⟨m, rfl, by omega, hp, fun j hj hne => ?_⟩
    by_cases e : j = i
    · subst e; omega
    · exact h j (by omega) hne
end Go.Proofs.YtofehcpapdlcnabGreatDoor

namespace Go.Proofs.YtofehcpapdlcnabGreatDoor
open Go.RowKit

/-- what WeightsOk answers -/
def okW (w : List Int) : Bool := decide (1 ≤ w.length ∧ w.length ≤ 30) && w.all (fun x => decide (0 ≤ x ∧ x ≤ 1000000000)) && decide (0 < w.sum)
/-- the weights as natural numbers -/
def natW (w : List Int) : List Nat := w.map Int.toNat
structure PartsW (w : List Int) : Prop where
  l1 : 1 ≤ w.length
  l2 : w.length ≤ 30
  all : ∀ x ∈ w, 0 ≤ x ∧ x ≤ 1000000000
  pos : 0 < w.sum
theorem okW_parts {w : List Int} (h : okW w = true) : PartsW w := by
  unfold okW at h
  rw [Bool.and_eq_true, Bool.and_eq_true, decide_eq_true_eq, decide_eq_true_eq, List.all_eq_true] at h
  exact ⟨h.1.1.1, h.1.1.2, fun x hx => by simpa using h.1.2 x hx, h.2⟩
theorem sum_nat : ∀ (w : List Int), (∀ x ∈ w, 0 ≤ x ∧ x ≤ 1000000000) → ((natW w).sum : Int) = w.sum ∧ w.sum ≤ 1000000000 * w.length ∧ 0 ≤ w.sum := by
  intro w
  induction w with
  | nil => intro _; exact ⟨rfl, by simp, by simp⟩
  | cons x w ih =>
    intro h
    obtain ⟨h1, h2, h3⟩ := ih fun y hy => h y (List.mem_cons_of_mem _ hy)
    have hx := h x (by simp)
    show (((x.toNat :: natW w).sum : Nat) : Int) = _ ∧ _ ∧ _
    rw [List.sum_cons, List.sum_cons, List.length_cons]
    omega
/-- the whole of the weights -/
theorem PartsW.sum {w : List Int} (h : PartsW w) : ((natW w).sum : Int) = w.sum ∧ 0 < (natW w).sum ∧ (natW w).sum ≤ 30000000000 := by
  obtain ⟨h1, h2, h3⟩ := sum_nat w h.all
  have := h.pos; have := h.l2
  omega
theorem natW_length (w : List Int) : (natW w).length = w.length := by unfold natW; simp
theorem natW_at {w : List Int} {i : Nat} (h : i < w.length) : (natW w)[i]! = (w[i]'h).toNat := by
  unfold natW
  rw [getElem!_pos _ i (by simp; exact h), List.getElem_map]
theorem PartsW.at_ {w : List Int} (h : PartsW w) {i : Nat} (hi : i < w.length) : ((natW w)[i]! : Int) = w[i]'hi ∧ (natW w)[i]! ≤ 1000000000 := by
  have := h.all (w[i]'hi) (List.getElem_mem hi)
  rw [natW_at hi]
  omega
end Go.Proofs.YtofehcpapdlcnabGreatDoor
