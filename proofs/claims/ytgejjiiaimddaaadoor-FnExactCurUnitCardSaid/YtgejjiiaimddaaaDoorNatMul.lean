/-
  Products of limbs, and what l02Mul and NatMul of package spec return.
-/
import Derived.Test.YtgejjiiaimddaaaDoorNatSpec2
namespace Go.Proofs.YtgejjiiaimddaaaDoor
open Go.RowKit

/-- one row of the school method: x times b added into R -/
def rowL (x : Int) : List Int → List Int → Int → List Int
  | [], _ :: R, c => c :: R
  | [], [], _ => []
  | y :: b, r :: R, c => (r + x * y + c) % 1000000000 :: rowL x b R ((r + x * y + c) / 1000000000)
  | _ :: _, [], _ => []
/-- all rows -/
def mulL : List Int → List Int → List Int → List Int
  | [], _, R => R
  | x :: a, b, R => (rowL x b R 0).headD 0 :: mulL a b (rowL x b R 0).tail
theorem mul_bound (x y : Int) (hx0 : 0 ≤ x) (hx1 : x ≤ 999999999) (hy0 : 0 ≤ y) (hy1 : y ≤ 999999999) : 0 ≤ x * y ∧ x * y ≤ 999999998000000001 := by
  refine ⟨Int.mul_nonneg hx0 hy0, ?_⟩
  have h : x * y ≤ 999999999 * 999999999 := Int.mul_le_mul hx1 hy1 hy0 (by omega)
  omega
theorem rowL_val (x : Int) (hx0 : 0 ≤ x) (hx1 : x ≤ 999999999) : ∀ (b R : List Int) (c : Int), DigN b → DigN R → b.length < R.length → (∀ d ∈ R.drop b.length, d = 0) → 0 ≤ c → c ≤ 999999999 →
    nval (rowL x b R c) = nval R + x * nval b + c ∧ DigN (rowL x b R c) ∧ (rowL x b R c).length = R.length ∧ ∀ d ∈ (rowL x b R c).drop (b.length + 1), d = 0 := by
  intro b
  induction b with
  | nil =>
    intro R c _ hR hl hz h0 h1
    cases R with
    | nil => simp at hl
    | cons r R =>
      have hr : r = 0 := hz r (by simp)
      subst hr
      refine ⟨?_, DigN.cons h0 h1 hR.tail, rfl, fun d hd => hz d (by simp at hd ⊢; exact .inr hd)⟩
      show c + 1000000000 * nval R = (0 + 1000000000 * nval R) + x * 0 + c
      omega
  | cons y b ih =>
    intro R c hb hR hl hz h0 h1
    cases R with
    | nil => simp at hl
    | cons r R =>
      have hm := mul_bound x y hx0 hx1 hb.head.1 hb.head.2
      have hr := hR.head
      have hy := hb.head
      obtain ⟨i1, i2, i3, i4⟩ := ih R ((r + x * y + c) / 1000000000) hb.tail hR.tail (by simpa using hl) (fun d hd => hz d (by simpa using hd)) (by omega) (by omega)
      refine ⟨?_, DigN.cons (by omega) (by omega) i2, by simp [rowL, i3], fun d hd => i4 d (by simpa [rowL] using hd)⟩
      show (r + x * y + c) % 1000000000 + 1000000000 * nval (rowL x b R ((r + x * y + c) / 1000000000)) = (r + 1000000000 * nval R) + x * (y + 1000000000 * nval b) + c
      have hd : x * (y + 1000000000 * nval b) = x * y + 1000000000 * (x * nval b) := by rw [Int.mul_add, Int.mul_left_comm]
      rw [hd, i1]
      omega
theorem mulL_val (b : List Int) (hb : DigN b) : ∀ (a R : List Int), DigN a → DigN R → R.length = a.length + b.length → (∀ d ∈ R.drop b.length, d = 0) →
    nval (mulL a b R) = nval R + nval a * nval b ∧ DigN (mulL a b R) ∧ (mulL a b R).length = R.length := by
  intro a
  induction a with
  | nil =>
    intro R _ hR _ _
    refine ⟨?_, hR, rfl⟩
    show nval R = nval R + 0 * nval b
    omega
  | cons x a ih =>
    intro R ha hR hl hz
    obtain ⟨i1, i2, i3, i4⟩ := rowL_val x ha.head.1 ha.head.2 b R 0 hb hR (by simp at hl; omega) hz (by omega) (by omega)
    unfold mulL
    cases hrow : rowL x b R 0 with
    | nil => rw [hrow] at i3; simp at hl i3; omega
    | cons h T =>
      rw [hrow] at i1 i2 i3 i4
      obtain ⟨j1, j2, j3⟩ := ih T ha.tail i2.tail (by simp at i3 hl; omega) (fun d hd => i4 d (by simpa using hd))
      refine ⟨?_, DigN.cons i2.head.1 i2.head.2 j2, by simp [j3]; simpa using i3⟩
      show h + 1000000000 * nval (mulL a b T) = nval R + (x + 1000000000 * nval a) * nval b
      have hd : (x + 1000000000 * nval a) * nval b = x * nval b + 1000000000 * (nval a * nval b) := by rw [Int.add_mul, Int.mul_assoc]
      have i1' : h + 1000000000 * nval T = nval R + x * nval b + 0 := i1
      rw [hd, j1]
      omega

theorem rowL_drop (x : Int) (b O : List Int) (j m : Nat) (c : Int) (hj : j < b.length) (hm : m < O.length) : rowL x (b.drop j) (O.drop m) c = (O[m] + x * b[j] + c) % 1000000000 :: rowL x (b.drop (j + 1)) (O.drop (m + 1)) ((O[m] + x * b[j] + c) / 1000000000) := by
  rw [List.drop_eq_getElem_cons hj, List.drop_eq_getElem_cons hm, rowL]
theorem set_split (O : List Int) (m : Nat) (u : Int) (h : m < O.length) : (O.set m u).take (m + 1) = O.take m ++ [u] ∧ (O.set m u).drop (m + 1) = O.drop (m + 1) ∧ O.set m u = O.take m ++ u :: O.drop (m + 1) := by
  refine ⟨?_, ?_, List.set_eq_take_append_cons_drop .. |>.trans (by rw [if_pos h])⟩
  · rw [List.take_succ_eq_append_getElem (by simpa using h), List.take_set_of_le (Nat.le_refl _), List.getElem_set_self]
  · rw [List.drop_set_of_lt (by omega)]
theorem intsV_set (O : List Int) (m : Nat) (u : Int) : (intsV O).set m (.int .i64 u) = intsV (O.set m u) := by simp [intsV, List.map_set]
theorem DigN.setM {O : List Int} (h : DigN O) (m : Nat) (u : Int) (h0 : 0 ≤ u) (h1 : u ≤ 999999999) : DigN (O.set m u) := by
  intro d hd
  rcases List.mem_or_eq_of_mem_set hd with hd | rfl
  · exact h d hd
  · exact ⟨h0, h1⟩

theorem make_sum (m n : Nat) (hm : m ≤ 1048576) (hn : n ≤ 1048576) (W : World) :
    (Instr.makeSlice 25 (.int .i64 ((m : Int) + (n : Int))) (.int .i64 ((m : Int) + (n : Int)))).run Tryd.prog W = .ok (.slice (some ⟨W.heap.size, 0, none⟩) (m + n) (m + n)) (W.alloc (.cells (madeCells #[.int .i64 0] (m + n)) 3)) := by
  have h := make_ints (m + n) (by omega) W
  rwa [Int.natCast_add] at h

/-- what the outer loop of l02Mul knows: O is what has been written -/
def MulRel (a b : List Int) (w : World) (i : Value) (wr : World) : Prop :=
  ∃ (k : Nat) (O : List Int), k ≤ a.length ∧ i = .int .i64 k ∧ O.length = a.length + b.length ∧ DigN O ∧ O.take k ++ mulL (a.drop k) b (O.drop k) = mulL a b (List.replicate (a.length + b.length) 0) ∧
    wr.ownsRow w.heap.size 3 1 (.slice (some ⟨w.heap.size, 0, none⟩) (a.length + b.length) (a.length + b.length)) (a.length + b.length) (intsV O) ∧ Below w.heap.size w wr
theorem rowL_nil (x : Int) (O : List Int) (m : Nat) (c : Int) (h : m < O.length) : rowL x [] (O.drop m) c = c :: O.drop (m + 1) := by
  rw [List.drop_eq_getElem_cons h, rowL]
/-- what the inner loop knows: T is what the row comes to -/
def RowRel (b : List Int) (x : Int) (k n : Nat) (T : List Int) (w : World) (cr i : Value) (wr : World) : Prop :=
  ∃ (j : Nat) (c : Int) (O : List Int), j ≤ b.length ∧ i = .int .i64 j ∧ cr = .int .i64 c ∧ 0 ≤ c ∧ c ≤ 999999999 ∧ O.length = n ∧ DigN O ∧ O.take (k + j) ++ rowL x (b.drop j) (O.drop (k + j)) c = T ∧
    wr.ownsRow w.heap.size 3 1 (.slice (some ⟨w.heap.size, 0, none⟩) n n) n (intsV O) ∧ Below w.heap.size w wr
theorem mul_next (a b O T : List Int) (k : Nat) (hk : k < a.length) (hO : k < O.length) (hT : O.take k ++ rowL a[k] b (O.drop k) 0 = T) (hr : 0 < (rowL a[k] b (O.drop k) 0).length) :
    T.take (k + 1) ++ mulL (a.drop (k + 1)) b (T.drop (k + 1)) = O.take k ++ mulL (a.drop k) b (O.drop k) := by
  have hlt : (O.take k).length = k := by rw [List.length_take]; omega
  rw [List.drop_eq_getElem_cons hk, mulL]
  cases hrow : rowL a[k] b (O.drop k) 0 with
  | nil => rw [hrow] at hr; simp at hr
  | cons h R =>
    rw [hrow] at hT
    have e1 : (O.take k ++ h :: R).take (k + 1) = O.take k ++ [h] := by
      rw [List.take_append, hlt, show k + 1 - k = 1 from by omega, List.take_of_length_le (l := O.take k) (by omega)]
      rfl
    have e2 : (O.take k ++ h :: R).drop (k + 1) = R := by
      rw [List.drop_append, hlt, show k + 1 - k = 1 from by omega, List.drop_of_length_le (l := O.take k) (by omega)]
      rfl
    rw [← hT, e1, e2, List.append_assoc]
    rfl


theorem limbs_zero : limbs 0 = [] := by rw [limbs, dif_pos rfl]
theorem mul_val' (a b : List Int) (ha : DigN a) (hb : DigN b) : nval (mulL a b (List.replicate (a.length + b.length) 0)) = nval a * nval b ∧ DigN (mulL a b (List.replicate (a.length + b.length) 0)) ∧ (mulL a b (List.replicate (a.length + b.length) 0)).length = a.length + b.length := by
  have hz : ∀ n, nval (List.replicate n 0) = 0 := by
    intro n
    induction n with
    | zero => rfl
    | succ n ih => rw [List.replicate_succ]; show (0 : Int) + 1000000000 * nval (List.replicate n 0) = 0; omega
  have h := mulL_val b hb a (List.replicate (a.length + b.length) 0) ha (fun d hd => by rw [(List.mem_replicate.1 hd).2]; omega) (by simp) (fun d hd => (List.mem_replicate.1 (List.mem_of_mem_drop hd)).2)
  rw [hz, List.length_replicate] at h
  exact ⟨by rw [h.1]; omega, h.2⟩
theorem trim_trim (xs : List Int) (h : DigN xs) : trimL (trimL xs) = trimL xs ∧ DigN (trimL xs) := by
  induction xs with
  | nil => exact ⟨rfl, h⟩
  | cons d r ih =>
    obtain ⟨i1, i2⟩ := ih h.tail
    by_cases hc : trimL r = [] ∧ d = 0
    · have e : trimL (d :: r) = [] := by show (if _ then _ else _) = _; rw [if_pos hc]
      rw [e]
      exact ⟨rfl, fun x hx => by cases hx⟩
    · have e : trimL (d :: r) = d :: trimL r := by show (if _ then _ else _) = _; rw [if_neg hc]
      rw [e]
      refine ⟨?_, DigN.cons h.head.1 h.head.2 i2⟩
      show (if _ then _ else _) = _
      rw [i1, if_neg hc]


end Go.Proofs.YtgejjiiaimddaaaDoor
