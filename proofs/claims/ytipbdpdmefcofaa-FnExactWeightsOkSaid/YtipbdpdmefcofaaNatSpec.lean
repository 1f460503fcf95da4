/-
  What the functions of chapter 3 of package spec return, for slices that read as lists of limbs.
-/
import Derived.Test.YtipbdpdmefcofaaNatPlain
import Derived.Test.YtipbdpdmefcofaaIntS
namespace Go.Proofs.Ytipbdpdmefcofaa
open Go.RowKit

theorem drew_three (w : World) (a b c : Nat) : ∃ q, w.drewN q = ((w.drewN a).drewN b).drewN c := ⟨a + b + c, by rw [World.drewN_drewN, World.drewN_drewN, Nat.add_assoc]⟩
/-- between two bounds -/
def inB (n lo hi : Int) : Bool := decide (lo ≤ n ∧ n ≤ hi)
set_option maxHeartbeats 400000 in
set_option maxRecDepth 100000 in
theorem specIn_any (n lo hi : Int) (b : Bool) (w : World) (hb : inB n lo hi = b) :
    Calls Try.prog 8 #[.int .i64 n, .int .i64 lo, .int .i64 hi] w fun e w' => e = .returned (.bool b) ∧ w = w' := by
  subst hb
  go_enter Try.func8, Try.ntmps8
  go_wp2
  all_goals go_ret
  · exact ⟨by simp [inB, *], rfl⟩
  · exact ⟨by simp [inB]; omega, rfl⟩

theorem all_upto (xs : List Int) (k : Nat) (h : (xs.take k).all digB = true) (hk : ¬ k < xs.length) : xs.all digB = true := by
  rwa [List.take_of_length_le (by omega)] at h
theorem all_succ (xs : List Int) (k : Nat) (hk : k < xs.length) (h : (xs.take k).all digB = true) (hd : digB xs[k] = true) : (xs.take (k + 1)).all digB = true := by
  rw [List.take_succ_eq_append_getElem hk, List.all_append, h]
  simp [hd]
theorem not_all (xs : List Int) (k : Nat) (hk : k < xs.length) (hd : digB xs[k] = false) : natOkB xs = false := by
  have : xs.all digB = false := by
    rw [List.all_eq_false]
    exact ⟨xs[k], List.getElem_mem hk, by simp [hd]⟩
  unfold natOkB
  rw [this]
  rfl
theorem ok_nil : natOkB [] = true := rfl
theorem ok_long (xs : List Int) (h : ¬ xs.length ≤ 50) : natOkB xs = false := by
  unfold natOkB
  rw [decide_eq_false h, Bool.false_and, Bool.and_false]
theorem last_at (xs : List Int) (h : xs.length - 1 < xs.length) : xs.getLastD 1 = xs[xs.length - 1] := by
  rw [List.getLastD_eq_getLast?, List.getLast?_eq_getElem?, List.getElem?_eq_getElem h]
  rfl
theorem ok_last (xs : List Int) (ha : xs.all digB = true) (hl : xs.length ≤ 50) (h : xs.length - 1 < xs.length) : (xs[xs.length - 1] != 0) = natOkB xs := by
  unfold natOkB
  rw [ha, decide_eq_true hl, Bool.true_and, Bool.true_and, last_at xs h]
  by_cases e : xs[xs.length - 1] = 0
  · rw [e]; rfl
  · rw [decide_eq_true e, bne_iff_ne]; exact e


theorem cmp_lt {x y : Int} (h : x < y) : cmpI x y = -1 := by unfold cmpI; rw [if_pos h]
theorem cmp_gt {x y : Int} (h : y < x) : cmpI x y = 1 := by unfold cmpI; rw [if_neg (by omega), if_pos h]
theorem cmp_eq {x y : Int} (h : x = y) : cmpI x y = 0 := by unfold cmpI; rw [if_neg (by omega), if_neg (by omega)]
theorem drop_same (a b : List Int) (k : Nat) (ha : k < a.length) (hb : k < b.length) (h : a.drop (k + 1) = b.drop (k + 1)) (e : a[k] = b[k]) : a.drop k = b.drop k := by
  rw [List.drop_eq_getElem_cons ha, List.drop_eq_getElem_cons hb, h, e]


theorem ok_dig {xs : List Int} (h : natOkB xs = true) : DigN xs ∧ xs.getLastD 1 ≠ 0 := ⟨(natOk_parts h).1, (natOk_parts h).2.2⟩
/-- what NatCmp answers -/
def cmpN (a b : List Int) : Int := if natOkB a = true ∧ natOkB b = true then cmpI (nval a) (nval b) else 0


/-- the first k of a row that the call owns -/
theorem own_take {w : World} {base n : Nat} {e : TypeId} {A : Option Addr} {c : Nat} {xs : List Value} (k : Nat) (hk : k ≤ n) (h : w.ownsRow base e 1 (.slice A n c) n xs) : w.ownsRow base e 1 (.slice A k c) k (xs.take k) := by
  obtain ⟨hl, ⟨h1, h2⟩ | ⟨g, cap, cur, e1, hb, hh, hn, hc, hs, ht⟩⟩ := h
  · cases h1
    obtain rfl : k = 0 := by omega
    exact ⟨by simp, .inl ⟨rfl, rfl⟩⟩
  · obtain ⟨rfl, rfl⟩ : A = some ⟨g, 0, none⟩ ∧ cap = c := by cases e1; exact ⟨rfl, rfl⟩
    refine ⟨by rw [List.length_take]; omega, .inr ⟨g, cap, cur, rfl, hb, hh, by omega, hc, hs, ?_⟩⟩
    rw [← ht, List.take_take]
    congr 1
    omega
theorem intsV_take (xs : List Int) (k : Nat) : (intsV xs).take k = intsV (xs.take k) := by simp [intsV, List.map_take]

/-- the first elements of an own row of ints, handed back -/
def OwnPost (base : Nat) (ys : List Int) (w : World) (e : Ending) (w' : World) : Prop :=
  w = w' ∧ ∃ v, e = .returned v ∧ w.ownsRow base 3 1 v ys.length (intsV ys)

/-- the first elements of an own row of ints, told by its address -/
def TrimPost (A : Option Addr) (c base : Nat) (ys : List Int) (w : World) (e : Ending) (w' : World) : Prop :=
  w = w' ∧ e = .returned (.slice A ys.length c) ∧ w.ownsRow base 3 1 (.slice A ys.length c) ys.length (intsV ys)

theorem trimL_length (xs : List Int) : (trimL xs).length ≤ xs.length := by
  induction xs with
  | nil => exact Nat.le_refl _
  | cons d r ih =>
    unfold trimL
    split
    · simp
    · simp; omega

/-! ### l02Add -/
theorem addL_both (a b : List Int) (i : Nat) (c : Int) (h1 : i < a.length) (h2 : i < b.length) : addL (a.drop i) (b.drop i) c = (c + a[i] + b[i]) % 1000000000 :: addL (a.drop (i + 1)) (b.drop (i + 1)) ((c + a[i] + b[i]) / 1000000000) := by
  rw [List.drop_eq_getElem_cons h1, List.drop_eq_getElem_cons h2, addL]
theorem addL_left (a b : List Int) (i : Nat) (c : Int) (h1 : i < a.length) (h2 : ¬ i < b.length) : addL (a.drop i) (b.drop i) c = (c + a[i]) % 1000000000 :: addL (a.drop (i + 1)) (b.drop (i + 1)) ((c + a[i]) / 1000000000) := by
  rw [List.drop_eq_getElem_cons h1, List.drop_of_length_le (l := b) (by omega), List.drop_of_length_le (l := b) (by omega), addL]
theorem addL_right (a b : List Int) (i : Nat) (c : Int) (h1 : ¬ i < a.length) (h2 : i < b.length) : addL (a.drop i) (b.drop i) c = (c + b[i]) % 1000000000 :: addL (a.drop (i + 1)) (b.drop (i + 1)) ((c + b[i]) / 1000000000) := by
  rw [List.drop_eq_getElem_cons h2, List.drop_of_length_le (l := a) (by omega), List.drop_of_length_le (l := a) (by omega), addL]
theorem addL_end (a b : List Int) (i : Nat) (c : Int) (h1 : ¬ i < a.length) (h2 : ¬ i < b.length) : addL (a.drop i) (b.drop i) c = if 0 < c then [c] else [] := by
  rw [List.drop_of_length_le (by omega), List.drop_of_length_le (by omega), addL]

/-- what the loop of l02Add knows at its head -/
def AddRel (a b : List Int) (w : World) (v c i : Value) (wr : World) : Prop :=
  ∃ (k : Nat) (cr : Int) (out : List Int), k ≤ a.length + b.length + 1 ∧ i = .int .i64 k ∧ c = .int .i64 cr ∧ 0 ≤ cr ∧ cr ≤ 1 ∧ out.length = k ∧ out ++ addL (a.drop k) (b.drop k) cr = addL a b 0 ∧
    wr.ownsRow w.heap.size 3 1 v out.length (intsV out) ∧ Below w.heap.size w wr
theorem add_step {a b out : List Int} {w w1 : World} {v1 : Value} {k : Nat} {n : Int} (hk : k + 1 ≤ a.length + b.length + 1) (h0 : 0 ≤ n / 1000000000) (h1 : n / 1000000000 ≤ 1) (hl : out.length = k) (e : out ++ n % 1000000000 :: addL (a.drop (k + 1)) (b.drop (k + 1)) (n / 1000000000) = addL a b 0)
    (ho : w1.ownsRow w.heap.size 3 1 v1 (out.length + 1) (intsV out ++ [.int .i64 (n % 1000000000)])) (hb : Below w.heap.size w w1) : AddRel a b w v1 (.int .i64 (n / 1000000000)) (.int .i64 ((k : Int) + 1)) w1 := by
  refine ⟨k + 1, n / 1000000000, out ++ [n % 1000000000], hk, by go_num, rfl, h0, h1, by simp [hl], by rw [List.append_assoc]; exact e, ?_, hb⟩
  simpa [intsV] using ho

end Go.Proofs.Ytipbdpdmefcofaa
