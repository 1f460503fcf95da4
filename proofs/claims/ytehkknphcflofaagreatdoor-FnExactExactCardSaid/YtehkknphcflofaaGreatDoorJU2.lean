/-
  NatSpec2, NatMul, NatConv, DivSpec, DivSpec2, DivSpec3, DivSpec4, DecNum, Dec, MoneyFacts, RatePlain, Rate, MarkText, RateS
-/
import Derived.Laws.AppendOwnNone
import Derived.Deep.LoopGhost
import Derived.Deep.RegionHeld3
import Derived.Deep.DeepCutAuto
import Derived.Test.YtehkknphcflofaaGreatDoorJU1
namespace Go.Proofs.YtehkknphcflofaaGreatDoor
open Go.RowKit

/-- what NatAdd, NatSub and NatMul answer -/
def addN (a b : List Int) : List Int := if natOkB a = true ∧ natOkB b = true then natRes (nval a + nval b) else []
def mulN (a b : List Int) : List Int := if natOkB a = true ∧ natOkB b = true then natRes (nval a * nval b) else []
theorem nil_own {w : World} {base : Nat} {e : TypeId} : w.ownsRow base e 1 (.slice none 0 0) 0 [] := ⟨rfl, .inl ⟨rfl, rfl⟩⟩
theorem new_nil {w w' : World} (hb : Below w.heap.size w w') : NewInts [] w (.returned (.slice none 0 0)) w' := ⟨_, rfl, nil_own, hb⟩
/-! ### l02Sub -/
theorem subL_drop (a b : List Int) (i : Nat) (c : Int) (h1 : i < a.length) : subL (a.drop i) (b.drop i) c = if a[i] - c - b.getD i 0 < 0 then (a[i] - c - b.getD i 0 + 1000000000) :: subL (a.drop (i + 1)) (b.drop (i + 1)) 1 else (a[i] - c - b.getD i 0) :: subL (a.drop (i + 1)) (b.drop (i + 1)) 0 := by
  have hh : (b.drop i).headD 0 = b.getD i 0 := by
    rw [List.headD_eq_head?_getD, List.head?_drop, List.getD_eq_getElem?_getD]
  have ht : (b.drop i).tail = b.drop (i + 1) := by rw [List.tail_drop]
  rw [List.drop_eq_getElem_cons h1, subL, hh, ht]
theorem getD_in (b : List Int) (i : Nat) (h : i < b.length) : b.getD i 0 = b[i] := by
  rw [List.getD_eq_getElem?_getD, List.getElem?_eq_getElem h]
  rfl
theorem getD_out (b : List Int) (i : Nat) (h : ¬ i < b.length) : b.getD i 0 = 0 := by
  rw [List.getD_eq_getElem?_getD, List.getElem?_eq_none (by omega)]
  rfl
/-- what the loop of l02Sub knows at its head -/
def SubRel (a b : List Int) (w : World) (v c i : Value) (wr : World) : Prop :=
  ∃ (k : Nat) (cr : Int) (out : List Int), k ≤ a.length ∧ i = .int .i64 k ∧ c = .int .i64 cr ∧ 0 ≤ cr ∧ cr ≤ 1 ∧ out.length = k ∧ out ++ subL (a.drop k) (b.drop k) cr = subL a b 0 ∧
    wr.ownsRow w.heap.size 3 1 v out.length (intsV out) ∧ Below w.heap.size w wr
theorem sub_step {a b out : List Int} {w w1 : World} {v1 : Value} {k : Nat} {n c : Int} (hk : k + 1 ≤ a.length) (h0 : 0 ≤ c) (h1 : c ≤ 1) (hl : out.length = k) (e : out ++ n :: subL (a.drop (k + 1)) (b.drop (k + 1)) c = subL a b 0)
    (ho : w1.ownsRow w.heap.size 3 1 v1 (out.length + 1) (intsV out ++ [.int .i64 n])) (hb : Below w.heap.size w w1) : SubRel a b w v1 (.int .i64 c) (.int .i64 ((k : Int) + 1)) w1 := by
  refine ⟨k + 1, c, out ++ [n], hk, by go_num, rfl, h0, h1, by simp [hl], by rw [List.append_assoc]; exact e, ?_, hb⟩
  simpa [intsV] using ho

set_option maxHeartbeats 2000000 in
set_option maxRecDepth 100000 in
theorem specSub_any (va vb : Value) (a b : List Int) (la ha lb hb : Nat) (w : World) (hal : a.length ≤ 1048576) (hbl : b.length ≤ 1048576) (hha : ha ≤ w.heap.size) (hhb : hb ≤ w.heap.size) (oa : DigN a) (ob : DigN b)
    (hra : Row w la ha va (intsV a)) (hrb : Row w lb hb vb (intsV b)) (hsl : (subL a b 0).length = a.length) :
    Calls Tryz.prog 258 #[va, vb] w (NewInts (trimL (subL a b 0)) w) := by
  obtain ⟨i0, hi, hz0, hz1, hz2⟩ := info_parts intInfo
  obtain ⟨A, c, rfl, hA⟩ := hra
  obtain ⟨B, d, rfl, hB⟩ := hrb
  rw [intsV_length, intsV_length]
  have HA := Lib.hid hA
  have HB := Lib.hid hB
  have OA := Lib.hid oa
  have OB := Lib.hid ob
  have HSL := Lib.hid hsl
  clear hA hB oa ob hsl
  go_enter Tryz.func258, Tryz.ntmps258
  go_wp2
  go_loopw [5, 6, 12] (fun v cr i wr => SubRel a b w v cr i wr) (fun _ _ i _ => a.length - (intOf i).toNat)
  case atStart => exact ⟨0, 0, [], Nat.zero_le _, rfl, rfl, by omega, by omega, rfl, rfl, ⟨rfl, .inr ⟨w.heap.size, 0, #[], rfl, Nat.le_refl _, heap_alloc_new w _, Nat.le_refl _, Nat.zero_le _, rfl, rfl⟩⟩, (Below.refl _ _).alloc (Nat.le_refl _) _⟩
  case round =>
    obtain ⟨k, cr, out, hk, rfl, rfl, hc0, hc1, hol, hev, hown, hb1⟩ := hrel
    have HE := Lib.hid hev
    have HOL := Lib.hid hol
    have holk : out.length ≤ a.length := by omega
    clear hev hol
    by_cases h1 : k < a.length
    · obtain ⟨p, rfl, _, hpb, hca⟩ := HA.out k _ (intsV_at a k h1)
      have hca' : wr.cell? (p.add k) = some (.int .i64 a[k]) := (hb1.cell (by rw [block_add]; omega)).trans hca
      have hda := OA.out.at_ k h1
      clear hca
      have HS := Lib.hid (subL_drop a b k cr h1)
      by_cases h2 : k < b.length
      · obtain ⟨r, rfl, _, hrb, hcb⟩ := HB.out k _ (intsV_at b k h2)
        have hcb' : wr.cell? (r.add k) = some (.int .i64 b[k]) := (hb1.cell (by rw [block_add]; omega)).trans hcb
        have hdb := OB.out.at_ k h2
        clear hcb
        have HG := Lib.hid (getD_in b k h2)
        by_cases h3 : a[k] - cr - b[k] < 0
        · have HS2 : Hid (subL (a.drop k) (b.drop k) cr = (a[k] - cr - b[k] + 1000000000) :: subL (a.drop (k + 1)) (b.drop (k + 1)) 1) := Lib.hid (by rw [HS.out, HG.out, if_pos h3])
          go_wp2_with (at_builtin; refine wpList_append_own _ rfl (.tmp 35) (.tmp 37) 28 rfl w.heap.size 3 i0 (.int .i64 0) 1 8 Tryz.underlying28 hi hz0 hz1 hz2 rfl (by decide) _ _ _ rfl (own_alloc hown _) ⟨wr.heap.size, 0, none⟩ 1 1 [.int .i64 (a[k] - cr - b[k] + 1000000000)] rfl rfl (one_new _ _ _) ?c2 ?c3 ?c4 ?c5 ?_)
          case c2 => first | (intro u hu; simp at hu; subst hu; rfl) | rfl
          case c3 => unfold maxLen; omega
          case c4 => omega
          case c5 => have := hb1.size; simp; omega
          intro v1 w1 hown1 hg1 _
          have hb2 := below_push hb1 (Nat.le_refl _) hown hg1
          go_wp2
          exact ⟨sub_step (by omega) (by omega) (by omega) HOL.out (by rw [← HS2.out]; exact HE.out) hown1 hb2, by simp [intOf]; omega⟩
        · have HS2 : Hid (subL (a.drop k) (b.drop k) cr = (a[k] - cr - b[k]) :: subL (a.drop (k + 1)) (b.drop (k + 1)) 0) := Lib.hid (by rw [HS.out, HG.out, if_neg h3])
          go_wp2_with (at_builtin; refine wpList_append_own _ rfl (.tmp 35) (.tmp 37) 28 rfl w.heap.size 3 i0 (.int .i64 0) 1 8 Tryz.underlying28 hi hz0 hz1 hz2 rfl (by decide) _ _ _ rfl (own_alloc hown _) ⟨wr.heap.size, 0, none⟩ 1 1 [.int .i64 (a[k] - cr - b[k])] rfl rfl (one_new _ _ _) ?c2 ?c3 ?c4 ?c5 ?_)
          case c2 => first | (intro u hu; simp at hu; subst hu; rfl) | rfl
          case c3 => unfold maxLen; omega
          case c4 => omega
          case c5 => have := hb1.size; simp; omega
          intro v1 w1 hown1 hg1 _
          have hb2 := below_push hb1 (Nat.le_refl _) hown hg1
          go_wp2
          exact ⟨sub_step (by omega) (by omega) (by omega) HOL.out (by rw [← HS2.out]; exact HE.out) hown1 hb2, by simp [intOf]; omega⟩
      · have HG := Lib.hid (getD_out b k h2)
        by_cases h3 : a[k] - cr < 0
        · have HS2 : Hid (subL (a.drop k) (b.drop k) cr = (a[k] - cr + 1000000000) :: subL (a.drop (k + 1)) (b.drop (k + 1)) 1) := Lib.hid (by rw [HS.out, HG.out, if_pos (by omega), show a[k] - cr - 0 = a[k] - cr from by omega])
          go_wp2_with (at_builtin; refine wpList_append_own _ rfl (.tmp 35) (.tmp 37) 28 rfl w.heap.size 3 i0 (.int .i64 0) 1 8 Tryz.underlying28 hi hz0 hz1 hz2 rfl (by decide) _ _ _ rfl (own_alloc hown _) ⟨wr.heap.size, 0, none⟩ 1 1 [.int .i64 (a[k] - cr + 1000000000)] rfl rfl (one_new _ _ _) ?c2 ?c3 ?c4 ?c5 ?_)
          case c2 => first | (intro u hu; simp at hu; subst hu; rfl) | rfl
          case c3 => unfold maxLen; omega
          case c4 => omega
          case c5 => have := hb1.size; simp; omega
          intro v1 w1 hown1 hg1 _
          have hb2 := below_push hb1 (Nat.le_refl _) hown hg1
          go_wp2
          exact ⟨sub_step (by omega) (by omega) (by omega) HOL.out (by rw [← HS2.out]; exact HE.out) hown1 hb2, by simp [intOf]; omega⟩
        · have HS2 : Hid (subL (a.drop k) (b.drop k) cr = (a[k] - cr) :: subL (a.drop (k + 1)) (b.drop (k + 1)) 0) := Lib.hid (by rw [HS.out, HG.out, if_neg (by omega), show a[k] - cr - 0 = a[k] - cr from by omega])
          go_wp2_with (at_builtin; refine wpList_append_own _ rfl (.tmp 35) (.tmp 37) 28 rfl w.heap.size 3 i0 (.int .i64 0) 1 8 Tryz.underlying28 hi hz0 hz1 hz2 rfl (by decide) _ _ _ rfl (own_alloc hown _) ⟨wr.heap.size, 0, none⟩ 1 1 [.int .i64 (a[k] - cr)] rfl rfl (one_new _ _ _) ?c2 ?c3 ?c4 ?c5 ?_)
          case c2 => first | (intro u hu; simp at hu; subst hu; rfl) | rfl
          case c3 => unfold maxLen; omega
          case c4 => omega
          case c5 => have := hb1.size; simp; omega
          intro v1 w1 hown1 hg1 _
          have hb2 := below_push hb1 (Nat.le_refl _) hown hg1
          go_wp2
          exact ⟨sub_step (by omega) (by omega) (by omega) HOL.out (by rw [← HS2.out]; exact HE.out) hown1 hb2, by simp [intOf]; omega⟩
    · have HF : Hid (out = subL a b 0) := Lib.hid (by have e1 := HE.out; rwa [List.drop_of_length_le (l := a) (by omega), subL, List.append_nil] at e1)
      have hown2 : wr.ownsRow w.heap.size 3 1 u5 (subL a b 0).length (intsV (subL a b 0)) := by rw [← HF.out]; exact hown
      go_wp2_with fail
      refine (specTrim_any _ _ _ _ (by rw [HSL.out]; exact hal) hown2).mono ?_
      rintro e w' ⟨rfl, v2, rfl, o2⟩
      go_wp2
      go_ret
      exact ⟨v2, rfl, o2, hb1⟩

theorem len_of_le (a b : List Int) (ha : DigN a) (hb : DigN b ∧ b.getLastD 1 ≠ 0) (h : nval b ≤ nval a) : b.length ≤ a.length := by
  rcases Nat.lt_or_ge a.length b.length with hl | hl
  · have := nval_short a b ha hb.1 hl hb.2
    omega
  · exact hl
end Go.Proofs.YtehkknphcflofaaGreatDoor

namespace Go.Proofs.YtehkknphcflofaaGreatDoor
open Go.RowKit

/-- one row of the school method: x times b added into R -/
def rowL (x : Int) : List Int → List Int → Int → List Int
  | [], _ :: R, c => c :: R
  | [], [], _ => []
  | y :: b, r :: R, c => (r + x * y + c) % 1000000000 :: rowL x b R ((r + x * y + c) / 1000000000)
  | _ :: _, [], _ => []
/-- all rows -/
def mulL : List Int → List Int → List Int → List Int
  | [], _, R => R
  | x :: a, b, R => (rowL x b R 0).headD 0 :: mulL a b (rowL x b R 0).tail
theorem mul_bound (x y : Int) (hx0 : 0 ≤ x) (hx1 : x ≤ 999999999) (hy0 : 0 ≤ y) (hy1 : y ≤ 999999999) : 0 ≤ x * y ∧ x * y ≤ 999999998000000001 := by
  refine ⟨Int.mul_nonneg hx0 hy0, ?_⟩
  have h : x * y ≤ 999999999 * 999999999 := Int.mul_le_mul hx1 hy1 hy0 (by omega)
  omega
theorem rowL_val (x : Int) (hx0 : 0 ≤ x) (hx1 : x ≤ 999999999) : ∀ (b R : List Int) (c : Int), DigN b → DigN R → b.length < R.length → (∀ d ∈ R.drop b.length, d = 0) → 0 ≤ c → c ≤ 999999999 →
    nval (rowL x b R c) = nval R + x * nval b + c ∧ DigN (rowL x b R c) ∧ (rowL x b R c).length = R.length ∧ ∀ d ∈ (rowL x b R c).drop (b.length + 1), d = 0 := by
  intro b
  induction b with
  | nil =>
    intro R c _ hR hl hz h0 h1
    cases R with
    | nil => simp at hl
    | cons r R =>
      have hr : r = 0 := hz r (by simp)
      subst hr
      refine ⟨?_, DigN.cons h0 h1 hR.tail, rfl, fun d hd => hz d (by simp at hd ⊢; exact .inr hd)⟩
      show c + 1000000000 * nval R = (0 + 1000000000 * nval R) + x * 0 + c
      omega
  | cons y b ih =>
    intro R c hb hR hl hz h0 h1
    cases R with
    | nil => simp at hl
    | cons r R =>
      have hm := mul_bound x y hx0 hx1 hb.head.1 hb.head.2
      have hr := hR.head
      have hy := hb.head
      obtain ⟨i1, i2, i3, i4⟩ := ih R ((r + x * y + c) / 1000000000) hb.tail hR.tail (by simpa using hl) (fun d hd => hz d (by simpa using hd)) (by omega) (by omega)
      refine ⟨?_, DigN.cons (by omega) (by omega) i2, by simp [rowL, i3], fun d hd => i4 d (by simpa [rowL] using hd)⟩
      show (r + x * y + c) % 1000000000 + 1000000000 * nval (rowL x b R ((r + x * y + c) / 1000000000)) = (r + 1000000000 * nval R) + x * (y + 1000000000 * nval b) + c
      have hd : x * (y + 1000000000 * nval b) = x * y + 1000000000 * (x * nval b) := by rw [Int.mul_add, Int.mul_left_comm]
      rw [hd, i1]
      omega
theorem mulL_val (b : List Int) (hb : DigN b) : ∀ (a R : List Int), DigN a → DigN R → R.length = a.length + b.length → (∀ d ∈ R.drop b.length, d = 0) →
    nval (mulL a b R) = nval R + nval a * nval b ∧ DigN (mulL a b R) ∧ (mulL a b R).length = R.length := by
  intro a
  induction a with
  | nil =>
    intro R _ hR _ _
    refine ⟨?_, hR, rfl⟩
    show nval R = nval R + 0 * nval b
    omega
  | cons x a ih =>
    intro R ha hR hl hz
    obtain ⟨i1, i2, i3, i4⟩ := rowL_val x ha.head.1 ha.head.2 b R 0 hb hR (by simp at hl; omega) hz (by omega) (by omega)
    unfold mulL
    cases hrow : rowL x b R 0 with
    | nil => rw [hrow] at i3; simp at hl i3; omega
    | cons h T =>
      rw [hrow] at i1 i2 i3 i4
      obtain ⟨j1, j2, j3⟩ := ih T ha.tail i2.tail (by simp at i3 hl; omega) (fun d hd => i4 d (by simpa using hd))
      refine ⟨?_, DigN.cons i2.head.1 i2.head.2 j2, by simp [j3]; simpa using i3⟩
      show h + 1000000000 * nval (mulL a b T) = nval R + (x + 1000000000 * nval a) * nval b
      have hd : (x + 1000000000 * nval a) * nval b = x * nval b + 1000000000 * (nval a * nval b) := by rw [Int.add_mul, Int.mul_assoc]
      have i1' : h + 1000000000 * nval T = nval R + x * nval b + 0 := i1
      rw [hd, j1]
      omega

theorem rowL_drop (x : Int) (b O : List Int) (j m : Nat) (c : Int) (hj : j < b.length) (hm : m < O.length) : rowL x (b.drop j) (O.drop m) c = (O[m] + x * b[j] + c) % 1000000000 :: rowL x (b.drop (j + 1)) (O.drop (m + 1)) ((O[m] + x * b[j] + c) / 1000000000) := by
  rw [List.drop_eq_getElem_cons hj, List.drop_eq_getElem_cons hm, rowL]
theorem set_split (O : List Int) (m : Nat) (u : Int) (h : m < O.length) : (O.set m u).take (m + 1) = O.take m ++ [u] ∧ (O.set m u).drop (m + 1) = O.drop (m + 1) ∧ O.set m u = O.take m ++ u :: O.drop (m + 1) := by
  refine ⟨?_, ?_, List.set_eq_take_append_cons_drop .. |>.trans (by rw [if_pos h])⟩
  · rw [List.take_succ_eq_append_getElem (by simpa using h), List.take_set_of_le (Nat.le_refl _), List.getElem_set_self]
  · rw [List.drop_set_of_lt (by omega)]
theorem intsV_set (O : List Int) (m : Nat) (u : Int) : (intsV O).set m (.int .i64 u) = intsV (O.set m u) := by simp [intsV, List.map_set]
theorem DigN.setM {O : List Int} (h : DigN O) (m : Nat) (u : Int) (h0 : 0 ≤ u) (h1 : u ≤ 999999999) : DigN (O.set m u) := by
  intro d hd
  rcases List.mem_or_eq_of_mem_set hd with hd | rfl
  · exact h d hd
  · exact ⟨h0, h1⟩

theorem make_sum (m n : Nat) (hm : m ≤ 1048576) (hn : n ≤ 1048576) (W : World) :
    (Instr.makeSlice 28 (.int .i64 ((m : Int) + (n : Int))) (.int .i64 ((m : Int) + (n : Int)))).run Tryz.prog W = .ok (.slice (some ⟨W.heap.size, 0, none⟩) (m + n) (m + n)) (W.alloc (.cells (madeCells #[.int .i64 0] (m + n)) 3)) := by
  have h := make_ints (m + n) (by omega) W
  rwa [Int.natCast_add] at h

/-- what the outer loop of l02Mul knows: O is what has been written -/
def MulRel (a b : List Int) (w : World) (i : Value) (wr : World) : Prop :=
  ∃ (k : Nat) (O : List Int), k ≤ a.length ∧ i = .int .i64 k ∧ O.length = a.length + b.length ∧ DigN O ∧ O.take k ++ mulL (a.drop k) b (O.drop k) = mulL a b (List.replicate (a.length + b.length) 0) ∧
    wr.ownsRow w.heap.size 3 1 (.slice (some ⟨w.heap.size, 0, none⟩) (a.length + b.length) (a.length + b.length)) (a.length + b.length) (intsV O) ∧ Below w.heap.size w wr
theorem rowL_nil (x : Int) (O : List Int) (m : Nat) (c : Int) (h : m < O.length) : rowL x [] (O.drop m) c = c :: O.drop (m + 1) := by
  rw [List.drop_eq_getElem_cons h, rowL]
/-- what the inner loop knows: T is what the row comes to -/
def RowRel (b : List Int) (x : Int) (k n : Nat) (T : List Int) (w : World) (cr i : Value) (wr : World) : Prop :=
  ∃ (j : Nat) (c : Int) (O : List Int), j ≤ b.length ∧ i = .int .i64 j ∧ cr = .int .i64 c ∧ 0 ≤ c ∧ c ≤ 999999999 ∧ O.length = n ∧ DigN O ∧ O.take (k + j) ++ rowL x (b.drop j) (O.drop (k + j)) c = T ∧
    wr.ownsRow w.heap.size 3 1 (.slice (some ⟨w.heap.size, 0, none⟩) n n) n (intsV O) ∧ Below w.heap.size w wr
theorem mul_next (a b O T : List Int) (k : Nat) (hk : k < a.length) (hO : k < O.length) (hT : O.take k ++ rowL a[k] b (O.drop k) 0 = T) (hr : 0 < (rowL a[k] b (O.drop k) 0).length) :
    T.take (k + 1) ++ mulL (a.drop (k + 1)) b (T.drop (k + 1)) = O.take k ++ mulL (a.drop k) b (O.drop k) := by
  have hlt : (O.take k).length = k := by rw [List.length_take]; omega
  rw [List.drop_eq_getElem_cons hk, mulL]
  cases hrow : rowL a[k] b (O.drop k) 0 with
  | nil => rw [hrow] at hr; simp at hr
  | cons h R =>
    rw [hrow] at hT
    have e1 : (O.take k ++ h :: R).take (k + 1) = O.take k ++ [h] := by
      rw [List.take_append, hlt, show k + 1 - k = 1 from by omega, List.take_of_length_le (l := O.take k) (by omega)]
      rfl
    have e2 : (O.take k ++ h :: R).drop (k + 1) = R := by
      rw [List.drop_append, hlt, show k + 1 - k = 1 from by omega, List.drop_of_length_le (l := O.take k) (by omega)]
      rfl
    rw [← hT, e1, e2, List.append_assoc]
    rfl

set_option maxHeartbeats 4000000 in
set_option maxRecDepth 100000 in
theorem specMul_any (va vb : Value) (a b : List Int) (la ha lb hb : Nat) (w : World) (hal : a.length ≤ 50) (hbl : b.length ≤ 50) (ha0 : 0 < a.length) (hb0 : 0 < b.length) (hha : ha ≤ w.heap.size) (hhb : hb ≤ w.heap.size) (oa : DigN a) (ob : DigN b)
    (hra : Row w la ha va (intsV a)) (hrb : Row w lb hb vb (intsV b)) :
    Calls Tryz.prog 193 #[va, vb] w (NewInts (trimL (mulL a b (List.replicate (a.length + b.length) 0))) w) := by
  obtain ⟨A, c, rfl, hA⟩ := hra
  obtain ⟨B, d, rfl, hB⟩ := hrb
  rw [intsV_length, intsV_length]
  have HA := Lib.hid hA
  have HB := Lib.hid hB
  have OA := Lib.hid oa
  have OB := Lib.hid ob
  have hmk := make_sum a.length b.length (by omega) (by omega)
  have hza : ((a.length : Int) == 0) = false := by rw [beq_eq_false_iff_ne]; omega
  have hzb : ((b.length : Int) == 0) = false := by rw [beq_eq_false_iff_ne]; omega
  clear hA hB oa ob
  go_enter Tryz.func193, Tryz.ntmps193
  go_wp2
  go_loopw [28] (fun i wr => MulRel a b w i wr) (fun i _ => a.length - (intOf i).toNat)
  case atStart =>
    refine ⟨0, List.replicate (a.length + b.length) 0, Nat.zero_le _, rfl, by simp, fun d hd => by rw [(List.mem_replicate.1 hd).2]; omega, by simp, ?_, (Below.refl _ _).alloc (Nat.le_refl _) _⟩
    have h := World.ownsRow_lit (e := 3) (size := 1) (base := w.heap.size) w (madeCells #[.int .i64 0] (a.length + b.length)) (a.length + b.length) (Nat.le_refl _) (by unfold maxLen; omega) (by rw [size_madeCells, Nat.mul_one])
    rw [toList_madeCells_one] at h
    simpa [intsV] using h
  case round =>
    obtain ⟨k, O, hk, rfl, hOl, hOd, hev, hown, hb1⟩ := hrel
    obtain ⟨wo, rfl⟩ : ∃ wo : World, wo = wr := ⟨_, rfl⟩
    have HE := Lib.hid hev
    have HOL := Lib.hid hOl
    have HOD := Lib.hid hOd
    clear hev hOl hOd
    by_cases h1 : k < a.length
    · obtain ⟨p, rfl, _, hpb, hca⟩ := HA.out k _ (intsV_at a k h1)
      have hca' : wo.cell? (p.add k) = some (.int .i64 a[k]) := (hb1.cell (by rw [block_add]; omega)).trans hca
      have hda := OA.out.at_ k h1
      clear hca
      have hOk : k < O.length := by have := HOL.out; omega
      obtain ⟨T, HT⟩ : ∃ T, Hid (O.take k ++ rowL a[k] b (O.drop k) 0 = T) := ⟨_, Lib.hid rfl⟩
      go_wp2
      go_loopw [8, 35] (fun cr i wi => RowRel b a[k] k (a.length + b.length) T w cr i wi) (fun _ i _ => b.length - (intOf i).toNat)
      case atStart => exact ⟨0, 0, O, Nat.zero_le _, rfl, rfl, by omega, by omega, HOL.out, HOD.out, HT.out, hown, hb1⟩
      case round =>
        obtain ⟨j, cr, O1, hj, rfl, rfl, hc0, hc1, hl1, hd1, he1, hown1, hb2⟩ := hrel
        have HL1 := Lib.hid hl1
        have HD1 := Lib.hid hd1
        have HE1 := Lib.hid he1
        clear hl1 hd1 he1 hown
        have hlen1 : O1.length ≤ a.length + b.length := by have := HL1.out; omega
        by_cases h2 : j < b.length
        · obtain ⟨r, rfl, _, hrb, hcb⟩ := HB.out j _ (intsV_at b j h2)
          have hcb' : wr.cell? (r.add j) = some (.int .i64 b[j]) := (hb2.cell (by rw [block_add]; omega)).trans hcb
          have hdb := OB.out.at_ j h2
          clear hcb
          have hm : k + j < O1.length := by have := HL1.out; omega
          have hdo := HD1.out.at_ (k + j) hm
          have hmul := mul_bound a[k] b[j] hda.1 hda.2 hdb.1 hdb.2
          have hcell := hown1.cellAt (k + j) (by omega)
          rw [intsV_at O1 (k + j) hm] at hcell
          have hfr := hown1.frozenAt (k + j)
          obtain ⟨ho2, hg2⟩ := hown1.stored (k + j) (.int .i64 ((O1[k + j] + a[k] * b[j] + cr) % 1000000000))
          rw [intsV_set] at ho2
          have hb3 := hb2.grown hg2 hb2.size (fun g hg => by cases hg; exact Nat.le_refl _)
          have HS := Lib.hid (rowL_drop a[k] b O1 j (k + j) cr h2 hm)
          have HSS := Lib.hid (set_split O1 (k + j) ((O1[k + j] + a[k] * b[j] + cr) % 1000000000) hm)
          clear hown1 hg2
          go_wp2
          refine ⟨⟨j + 1, (O1[k + j] + a[k] * b[j] + cr) / 1000000000, _, by omega, by go_num, rfl, by omega, by omega, by rw [List.length_set]; exact HL1.out, HD1.out.setM (k + j) _ (by omega) (by omega), ?_, ho2, hb3⟩, by simp [intOf]; omega⟩
          rw [show k + (j + 1) = k + j + 1 from by omega, HSS.out.1, HSS.out.2.1, List.append_assoc]
          have e1 := HE1.out
          rw [HS.out] at e1
          exact e1
        · obtain rfl : j = b.length := by omega
          have hm : k + b.length < O1.length := by have := HL1.out; omega
          have hcell := hown1.cellAt (k + b.length) (by omega)
          rw [intsV_at O1 (k + b.length) hm] at hcell
          have hfr := hown1.frozenAt (k + b.length)
          obtain ⟨ho2, hg2⟩ := hown1.stored (k + b.length) (.int .i64 cr)
          rw [intsV_set] at ho2
          have hb3 := hb2.grown hg2 hb2.size (fun g hg => by cases hg; exact Nat.le_refl _)
          have HTT : Hid (O1.set (k + b.length) cr = T) := Lib.hid (by
            have e1 := HE1.out
            rw [List.drop_of_length_le (l := b) (Nat.le_refl _), rowL_nil _ _ _ _ hm] at e1
            rw [(set_split O1 (k + b.length) cr hm).2.2]
            exact e1)
          have HDT := Lib.hid (HD1.out.setM (k + b.length) cr hc0 hc1)
          have HLT : Hid ((O1.set (k + b.length) cr).length = a.length + b.length) := Lib.hid (by rw [List.length_set]; exact HL1.out)
          have HNX : Hid (T.take (k + 1) ++ mulL (a.drop (k + 1)) b (T.drop (k + 1)) = O.take k ++ mulL (a.drop k) b (O.drop k)) := Lib.hid (mul_next a b O T k h1 hOk HT.out (by
            have e1 := congrArg List.length HT.out
            have e2 := HLT.out
            rw [HTT.out] at e2
            have e3 : (O.take k).length = k := by rw [List.length_take]; omega
            rw [List.length_append, e3, e2] at e1
            omega))
          clear hown1 hg2
          go_wp2
          refine ⟨⟨k + 1, _, by omega, by go_num, HLT.out, HDT.out, ?_, ho2, hb3⟩, by simp [intOf]; omega⟩
          rw [HTT.out, HNX.out]
          exact HE.out
    · obtain rfl : k = a.length := by omega
      have HF : Hid (O = mulL a b (List.replicate (a.length + b.length) 0)) := Lib.hid (by
        have e1 := HE.out
        rwa [List.drop_of_length_le (l := a) (Nat.le_refl _), mulL, List.take_append_drop] at e1)
      have hown2 : wo.ownsRow w.heap.size 3 1 (.slice (some ⟨w.heap.size, 0, none⟩) (a.length + b.length) (a.length + b.length)) O.length (intsV O) := by rw [HOL.out]; exact hown
      have hOl : O.length ≤ 1048576 := by have := HOL.out; omega
      go_wp2_with fail
      refine (specTrim_any _ O _ _ hOl hown2).mono ?_
      rintro e w' ⟨rfl, v2, rfl, o2⟩
      go_wp2
      go_ret
      exact ⟨v2, rfl, by rw [← HF.out]; exact o2, hb1⟩

theorem limbs_zero : limbs 0 = [] := by rw [limbs, dif_pos rfl]
theorem mul_val' (a b : List Int) (ha : DigN a) (hb : DigN b) : nval (mulL a b (List.replicate (a.length + b.length) 0)) = nval a * nval b ∧ DigN (mulL a b (List.replicate (a.length + b.length) 0)) ∧ (mulL a b (List.replicate (a.length + b.length) 0)).length = a.length + b.length := by
  have hz : ∀ n, nval (List.replicate n 0) = 0 := by
    intro n
    induction n with
    | zero => rfl
    | succ n ih => rw [List.replicate_succ]; show (0 : Int) + 1000000000 * nval (List.replicate n 0) = 0; omega
  have h := mulL_val b hb a (List.replicate (a.length + b.length) 0) ha (fun d hd => by rw [(List.mem_replicate.1 hd).2]; omega) (by simp) (fun d hd => (List.mem_replicate.1 (List.mem_of_mem_drop hd)).2)
  rw [hz, List.length_replicate] at h
  exact ⟨by rw [h.1]; omega, h.2⟩
set_option maxHeartbeats 400000 in
set_option maxRecDepth 100000 in
theorem specMul_nil (va vb : Value) (a b : List Int) (la ha lb hb : Nat) (w : World) (hal : a.length ≤ 50) (hbl : b.length ≤ 50) (h0 : a.length = 0 ∨ b.length = 0)
    (hra : Row w la ha va (intsV a)) (hrb : Row w lb hb vb (intsV b)) : Calls Tryz.prog 193 #[va, vb] w (NewInts [] w) := by
  obtain ⟨A, c, rfl, _⟩ := hra
  obtain ⟨B, d, rfl, _⟩ := hrb
  rw [intsV_length, intsV_length]
  by_cases hz : a.length = 0
  · have hza : ((a.length : Int) == 0) = true := by rw [beq_iff_eq]; omega
    clear h0 hz
    go_enter Tryz.func193, Tryz.ntmps193
    go_wp2
    go_ret
    exact new_nil (Below.refl _ _)
  · have hza : ((a.length : Int) == 0) = false := by rw [beq_eq_false_iff_ne]; omega
    have hzb : ((b.length : Int) == 0) = true := by rw [beq_iff_eq]; omega
    clear h0 hz
    go_enter Tryz.func193, Tryz.ntmps193
    go_wp2
    go_ret
    exact new_nil (Below.refl _ _)

end Go.Proofs.YtehkknphcflofaaGreatDoor

namespace Go.Proofs.YtehkknphcflofaaGreatDoor
open Go.RowKit

theorem limbs_pos (n : Nat) (h : n ≠ 0) : limbs n = ((n % 1000000000 : Nat) : Int) :: limbs (n / 1000000000) := by rw [limbs, dif_neg h]
theorem limbs_none : limbs 0 = [] := by rw [limbs, dif_pos rfl]
theorem Row.lit (w : World) (cs : Array Value) (t : TypeId) : Row (w.alloc (.cells cs t)) w.heap.size (w.heap.size + 1) (.slice (some ⟨w.heap.size, 0, none⟩) cs.size cs.size) cs.toList := by
  refine ⟨_, _, rfl, fun j u hu => ⟨_, rfl, Nat.le_refl _, Nat.lt_succ_self _, ?_⟩⟩
  have e1 : (Addr.add ⟨w.heap.size, 0, none⟩ j) = ⟨w.heap.size, j, none⟩ := by
    unfold Addr.add
    split
    · simp_all
    · simp
  rw [e1, World.cell?_alloc_at _ _ _ _ rfl]
  simpa using hu

set_option maxHeartbeats 400000 in
set_option maxRecDepth 100000 in
theorem specNatOf_any (n : Int) (w : World) (h1 : n ≤ 9223372036854775807) :
    Calls Tryz.prog 143 #[.int .i64 n] w (NewInts (limbs n.toNat) w) := by
  obtain ⟨i0, hi, hz0, hz1, hz2⟩ := info_parts intInfo
  go_enter Tryz.func143, Tryz.ntmps143
  go_wp2
  go_loopw [0, 3] (fun a v wr => ∃ (m : Int) (out : List Int) (f : Nat), m ≤ 9223372036854775807 ∧ out.length + f ≤ 3 ∧ m < 1000000000 ^ f ∧ a = .int .i64 m ∧ Hid (out ++ limbs m.toNat = limbs n.toNat) ∧ wr.ownsRow w.heap.size 3 1 v out.length (intsV out) ∧ Below w.heap.size w wr) (fun a _ _ => (intOf a).toNat)
  case atStart => exact ⟨n, [], 3, h1, by simp, by omega, rfl, Lib.hid rfl, ⟨rfl, .inr ⟨w.heap.size, 0, #[], rfl, Nat.le_refl _, heap_alloc_new w _, Nat.le_refl _, Nat.zero_le _, rfl, rfl⟩⟩, (Below.refl _ _).alloc (Nat.le_refl _) _⟩
  case round =>
    obtain ⟨m, out, f, hm, hol, hmf, rfl, HE, hown, hb1⟩ := hrel
    by_cases h0 : 0 < m
    · obtain ⟨g, rfl⟩ : ∃ g, f = g + 1 := by
        cases f with
        | zero => simp at hmf; omega
        | succ g => exact ⟨g, rfl⟩
      have hmg : m / 1000000000 < 1000000000 ^ g := by
        rw [Int.pow_succ] at hmf
        exact Int.ediv_lt_of_lt_mul (by omega) hmf
      have HS : Hid (out ++ [m % 1000000000] ++ limbs (m / 1000000000).toNat = limbs n.toNat) := Lib.hid (by
        have e := HE.out
        rw [limbs_pos m.toNat (by omega)] at e
        rw [List.append_assoc, ← e, show ((m.toNat % 1000000000 : Nat) : Int) = m % 1000000000 from by omega, show m.toNat / 1000000000 = (m / 1000000000).toNat from by omega]
        rfl)
      clear hmf
      go_wp2_with (at_builtin; refine wpList_append_own _ rfl (.tmp 7) (.tmp 10) 28 rfl w.heap.size 3 i0 (.int .i64 0) 1 8 Tryz.underlying28 hi hz0 hz1 hz2 rfl (by decide) _ _ _ rfl (own_alloc hown _) ⟨wr.heap.size, 0, none⟩ 1 1 [.int .i64 (m % 1000000000)] rfl rfl (one_new _ _ _) ?c2 ?c3 ?c4 ?c5 ?_)
      case c2 => first | (intro u hu; simp at hu; subst hu; rfl) | rfl
      case c3 => unfold maxLen; omega
      case c4 => omega
      case c5 => have := hb1.size; simp; omega
      intro v1 w1 hown1 hg1 _
      have hb2 := below_push hb1 (Nat.le_refl _) hown hg1
      go_wp2
      exact ⟨⟨m / 1000000000, out ++ [m % 1000000000], g, by omega, by simp; omega, hmg, rfl, HS, by simpa [intsV] using hown1, hb2⟩, by simp [intOf]; omega⟩
    · have HF : Hid (out = limbs n.toNat) := Lib.hid (by have e := HE.out; rwa [show m.toNat = 0 from by omega, limbs_none, List.append_nil] at e)
      go_wp2
      go_ret
      exact ⟨_, rfl, by rw [← HF.out]; exact hown, hb1⟩

end Go.Proofs.YtehkknphcflofaaGreatDoor

namespace Go.Proofs.YtehkknphcflofaaGreatDoor
open Go.RowKit

/-- a new row and a number -/
def RowNum (xs : List Int) (r : Int) (w : World) (e : Ending) (w' : World) : Prop :=
  ∃ v, e = .returned (.tuple #[v, .int .i64 r]) ∧ w'.ownsRow w.heap.size 3 1 v xs.length (intsV xs) ∧ Below w.heap.size w w'

set_option maxHeartbeats 1000000 in
set_option maxRecDepth 100000 in
theorem specSmall_any (va : Value) (a : List Int) (d : Int) (lo hi : Nat) (w : World) (hal : a.length ≤ 1048576) (hhi : hi ≤ w.heap.size) (hd0 : 0 < d) (hd1 : d ≤ 999999999) (oa : DigN a) (hra : Row w lo hi va (intsV a)) :
    Calls Tryz.prog 262 #[va, .int .i64 d] w (RowNum (limbs (nval a / d).toNat) (nval a % d) w) := by
  obtain ⟨A, c, rfl, hA⟩ := hra
  have HA := Lib.hid hA
  have OA := Lib.hid oa
  have hmk := make_ints a.length (by omega)
  rw [intsV_length]
  clear hA oa
  go_enter Tryz.func262, Tryz.ntmps262
  go_wp2
  go_loopw [7, 8] (fun r i wr => ∃ (k : Nat) (R : Int) (qs : List Int), k ≤ a.length ∧ i = .int .i64 ((k : Int) - 1) ∧ r = .int .i64 R ∧ Hid (DivR a d k R qs) ∧ wr.ownsRow w.heap.size 3 1 (.slice (some ⟨w.heap.size, 0, none⟩) a.length a.length) a.length (intsV (List.replicate k 0 ++ qs)) ∧ Below w.heap.size w wr) (fun _ i _ => (intOf i + 1).toNat)
  case atStart =>
    refine ⟨a.length, 0, [], Nat.le_refl _, rfl, rfl, Lib.hid (DivR.start a d), ?_, (Below.refl _ _).alloc (Nat.le_refl _) _⟩
    have h := World.ownsRow_lit (e := 3) (size := 1) (base := w.heap.size) w (madeCells #[.int .i64 0] a.length) a.length (Nat.le_refl _) (by unfold maxLen; omega) (by rw [size_madeCells, Nat.mul_one])
    rw [toList_madeCells_one] at h
    simpa [intsV] using h
  case round =>
    obtain ⟨k, R, qs, hk, rfl, rfl, HR, ho, hb⟩ := hrel
    have hR := HR.out.bound hd0
    have hR0 := hR.1
    have hR1 := hR.2
    clear hR
    by_cases hz : 0 < k
    · obtain ⟨j, rfl⟩ : ∃ j, k = j + 1 := ⟨k - 1, by omega⟩
      have hlt : j < a.length := by omega
      obtain ⟨p, rfl, _, hpb, hca⟩ := HA.out j _ (intsV_at a j hlt)
      have hca' : wr.cell? (p.add j) = some (.int .i64 a[j]) := (hb.cell (by rw [block_add]; omega)).trans hca
      have hda := OA.out.at_ j hlt
      have hda0 := hda.1
      have hda1 := hda.2
      have HN := Lib.hid (HR.out.next hd0 OA.out hlt)
      have hlen : (List.replicate (j + 1) (0 : Int) ++ qs).length = a.length := by have := HR.out.2.2.2; simp; omega
      obtain ⟨cu, hcell⟩ : ∃ u, wr.cell? ⟨w.heap.size, j, none⟩ = some u := ⟨_, (ho.cellAt j (by omega)).trans (List.getElem?_eq_getElem (by rw [intsV_length, hlen]; exact hlt))⟩
      have hfr := ho.frozenAt j
      obtain ⟨ho2, hg2⟩ := ho.stored j (.int .i64 ((R * 1000000000 + a[j]) / d))
      rw [intsV_set, zeros_set] at ho2
      have hb2 := hb.grown hg2 hb.size (fun g hg => by cases hg; exact Nat.le_refl _)
      have hm1 : ((j + 1 : Nat) : Int) - 1 = (j : Int) := by omega
      rw [hm1]
      have hdne : ¬ d = 0 := by omega
      clear hm1 hz hca ho hg2 hlen hda
      go_wp2
      go_roundw
      case rel => exact ⟨j, _, _, by omega, rfl, rfl, HN, ho2, hb2⟩
      case measure => simp [intOf]
    · obtain rfl : k = 0 := by omega
      rw [List.replicate_zero, List.nil_append] at ho
      have hql : qs.length = a.length := by have := HR.out.2.2.2; omega
      rw [← hql] at ho
      have HF := Lib.hid HR.out.done
      rw [hql] at ho
      have HO : Hid (wr.ownsRow w.heap.size 3 1 (.slice (some ⟨w.heap.size, 0, none⟩) a.length a.length) qs.length (intsV qs)) := Lib.hid (by rw [hql]; exact ho)
      clear hql ho
      go_wp2_with fail
      refine (specTrim_any _ qs w.heap.size _ (by have := HR.out.2.2.2; omega) HO.out).mono ?_
      rintro e w2 ⟨rfl, v2, rfl, ho2⟩
      rw [HF.out.1] at ho2
      go_wp2
      go_ret2
      exact ⟨v2, by rw [HF.out.2]; rfl, ho2, hb⟩

theorem specMulV_any (va vb : Value) (a b : List Int) (la ha lb hb : Nat) (w : World) (hal : a.length ≤ 50) (hbl : b.length ≤ 50) (hha : ha ≤ w.heap.size) (hhb : hb ≤ w.heap.size) (oa : DigN a) (ob : DigN b)
    (hra : Row w la ha va (intsV a)) (hrb : Row w lb hb vb (intsV b)) : Calls Tryz.prog 193 #[va, vb] w (NewInts (limbs (nval a * nval b).toNat) w) := by
  by_cases h0 : a.length = 0 ∨ b.length = 0
  · have e : nval a * nval b = 0 := by
      rcases h0 with h | h
      · rw [List.eq_nil_of_length_eq_zero h]; exact Int.zero_mul _
      · rw [List.eq_nil_of_length_eq_zero h]; exact Int.mul_zero _
    rw [e, show limbs (0 : Int).toNat = [] from limbs_none]
    exact specMul_nil va vb a b la ha lb hb w hal hbl h0 hra hrb
  · have h := mul_val' a b oa ob
    have e := trim_limbs _ h.2.1
    rw [h.1] at e
    rw [← e]
    exact specMul_any va vb a b la ha lb hb w hal hbl (by omega) (by omega) hha hhb oa ob hra hrb
theorem specSubV_any (va vb : Value) (a b : List Int) (la ha lb hb : Nat) (w : World) (hal : a.length ≤ 1048576) (hbl : b.length ≤ a.length) (hha : ha ≤ w.heap.size) (hhb : hb ≤ w.heap.size) (oa : DigN a) (ob : DigN b) (hle : nval b ≤ nval a)
    (hra : Row w la ha va (intsV a)) (hrb : Row w lb hb vb (intsV b)) : Calls Tryz.prog 258 #[va, vb] w (NewInts (limbs (nval a - nval b).toNat) w) := by
  have h := subL_val a b 0 oa ob hbl (by omega) (by omega) (by omega)
  have e := trim_limbs _ h.2.1
  rw [h.1, Int.sub_zero] at e
  rw [← e]
  exact specSub_any va vb a b la ha lb hb w hal (by omega) hha hhb oa ob hra hrb h.2.2

set_option maxHeartbeats 1000000 in
set_option maxRecDepth 100000 in
theorem specDigit_any (vr vb : Value) (r b : List Int) (lr hr lb hb_ : Nat) (w : World) (hrl : r.length ≤ 1048576) (hbl : b.length ≤ 50) (hhr : hr ≤ w.heap.size) (hhb : hb_ ≤ w.heap.size) (or_ : DigN r ∧ r.getLastD 1 ≠ 0) (ob : DigN b ∧ b.getLastD 1 ≠ 0)
    (hb0 : 0 < nval b) (hlt : nval r < 1000000000 * nval b) (hrr : Row w lr hr vr (intsV r)) (hrb : Row w lb hb_ vb (intsV b)) :
    Calls Tryz.prog 263 #[vr, vb] w fun e w' => e = .returned (.int .i64 (nval r / nval b)) ∧ Below w.heap.size w w' := by
  have hb1 : 0 < b.length := by
    rcases Nat.eq_zero_or_pos b.length with h | h
    · rw [List.eq_nil_of_length_eq_zero h] at hb0; exact absurd hb0 (by decide)
    · exact h
  have HQ := Lib.hid (show 0 ≤ nval r / nval b ∧ nval r / nval b ≤ 999999999 from ⟨Int.ediv_nonneg (nval_nonneg r or_.1) (by omega), by have := Int.ediv_lt_of_lt_mul hb0 hlt; omega⟩)
  have HL := Lib.hid (fun q : Int => digit_le q (nval r) (nval b) hb0)
  have OR := Lib.hid or_
  have OB := Lib.hid ob
  clear or_ ob hlt hb0
  go_enter Tryz.func263, Tryz.ntmps263
  go_wp2
  go_loopw [5, 6] (fun x y wr => ∃ lo hi : Int, x = .int .i64 lo ∧ y = .int .i64 hi ∧ 0 ≤ lo ∧ hi ≤ 999999999 ∧ lo ≤ hi ∧ Hid (lo ≤ nval r / nval b ∧ nval r / nval b ≤ hi) ∧ Below w.heap.size w wr) (fun x y _ => (intOf y - intOf x).toNat)
  case atStart => exact ⟨0, 999999999, rfl, rfl, by omega, by omega, by omega, HQ, Below.refl _ _⟩
  case round =>
    obtain ⟨lo, hi, rfl, rfl, h0, h9, hlh, HB, hb⟩ := hrel
    by_cases hc : lo < hi
    · have hq0 : 0 < (lo + hi + 1) / 2 := by omega
      have hq9 : (lo + hi + 1) / 2 ≤ 999999999 := by omega
      have hql : lo < (lo + hi + 1) / 2 := by omega
      have hqh : (lo + hi + 1) / 2 ≤ hi := by omega
      obtain ⟨q, HE⟩ : ∃ q, Hid (q = (lo + hi + 1) / 2) := ⟨_, Lib.hid rfl⟩
      have hz := hb.size
      go_wp2_with fail
      rw [← HE.out] at hq0 hq9 hql hqh ⊢
      refine (specNatOf_any q _ (by omega)).mono ?_
      rintro e w1 ⟨v1, rfl, o1, b1⟩
      have HLQ := Lib.hid (show limbs q.toNat = [q] by rw [limbs, dif_neg (by omega), show q.toNat / 1000000000 = 0 by omega, limbs_none, show ((q.toNat % 1000000000 : Nat) : Int) = q by omega])
      rw [HLQ.out] at o1
      go_wp2_with fail
      have bb1 : Below w.heap.size w w1 := Below.next hb b1
      refine (specMulV_any vb v1 b [q] lb hb_ _ _ _ hbl (by simp) (by have := bb1.size; omega) (Nat.le_refl _) OB.out.1 (dig_one (by omega) (by omega)) (hrb.below bb1 hhb) (Row.of_own o1)).mono ?_
      rintro e w2 ⟨v2, rfl, o2, b2⟩
      have HV : Hid (nval b * nval [q] = q * nval b) := Lib.hid (by show nval b * (q + 1000000000 * 0) = _; rw [Int.mul_zero, Int.add_zero, Int.mul_comm])
      have bb2 : Below w.heap.size w w2 := Below.next bb1 b2
      rw [HV.out] at o2
      have hnn : 0 ≤ q * nval b := Int.mul_nonneg (by omega) (nval_nonneg b OB.out.1)
      have HLV := Lib.hid (limbs_toNat (q * nval b) hnn)
      have HLN := Lib.hid (show (limbs (q * nval b).toNat).length ≤ 1048576 from Nat.le_trans (limbs_length_le _ 51 (by
        rw [Int.toNat_of_nonneg hnn]
        have h1 := nval_lt b OB.out.1
        have h2 := bp_mono hbl
        have h3 : bp 51 = 1000000000 * bp 50 := rfl
        have h4 := Int.mul_le_mul (show q ≤ 999999999 from hq9) (show nval b ≤ bp 50 by omega) (nval_nonneg b OB.out.1) (by omega)
        have h5 := bp_pos 50
        omega)) (by decide))
      clear hnn
      go_wp2_with fail
      refine (specCmp_any v2 vr (limbs (q * nval b).toNat) r _ _ lr hr _ HLN.out hrl ⟨limbs_digN _, limbs_lastN _⟩ OR.out (Row.of_own o2) (hrr.below bb2 hhr)).mono ?_
      rintro e w3 ⟨rfl, qd, rfl⟩
      rw [HLV.out]
      have hb3 := below_drewN bb2 qd
      by_cases hle : q * nval b ≤ nval r
      · have hcl : cmpI (q * nval b) (nval r) ≤ 0 := by unfold cmpI; split; omega; split <;> omega
        have HQ2 := Lib.hid ((HL.out q).1 hle)
        clear hle
        go_wp2
        exact ⟨⟨q, hi, rfl, rfl, by omega, h9, hqh, Lib.hid ⟨HQ2.out, HB.out.2⟩, hb3⟩, by simp [intOf]; omega⟩
      · have hcl : ¬ cmpI (q * nval b) (nval r) ≤ 0 := by rw [cmp_gt (by omega)]; omega
        have HQ2 := Lib.hid (Int.not_le.1 (fun h => hle ((HL.out q).2 h)))
        clear hle
        go_wp2
        exact ⟨⟨lo, q - 1, rfl, rfl, h0, by omega, by omega, Lib.hid ⟨HB.out.1, by have := HQ2.out; omega⟩, hb3⟩, by simp [intOf]; omega⟩
    · obtain rfl : lo = hi := by omega
      have HF := Lib.hid (show lo = nval r / nval b by have := HB.out; omega)
      go_wp2
      go_ret
      exact ⟨ret_int HF.out, hb⟩
end Go.Proofs.YtehkknphcflofaaGreatDoor

namespace Go.Proofs.YtehkknphcflofaaGreatDoor
open Go.RowKit

/-- append of a row of the call's own, nil let in -/
theorem append_owned {P : Program} {w : World} {ops : Array Oper} {rest : List Oper} {o : Oper} {a : Act} {Q : Exit → Act → World → Prop} (hgd : o.guard = none) (s x : Operand) (t : TypeId)
    (ho : o.op = .call { callee := .builtin .append, args := #[s, x], argTypes := #[t, t] }) (base : Nat) (e : TypeId) (i : TypeInfo) (z : Value) (bytes : Nat) (ht : P.underlying t = some (.slice e)) (hi : P.info? e = some i)
    (hz : i.zero = some z) (hsize : i.size = 1) (hby : i.bytes = bytes) (hzs : z.cells.size = 1) (v : Value) (n : Nat) (xs : List Value) (hs : a.eval s = v) (hown : w.ownsRow base e 1 v n xs)
    (vx : Value) (m base2 : Nat) (e2 : TypeId) (news : List Value) (hx : a.eval x = vx) (hsrc : w.ownsRow base2 e2 1 vx m news) (h1 : ∀ u ∈ news, u.oneCell' = true) (h63 : n + m ≤ maxLen) (hbytes : (n + m) * bytes ≤ 140737488355328) (hbase : base ≤ w.heap.size)
    (h : ∀ v' w', w'.ownsRow base e 1 v' (n + m) (xs ++ news) → w.grownBy w' v.ownBlock → wpList P ops Q rest (a.put o.dst v') w') : wpList P ops Q (o :: rest) a w := by
  have hm : news.length = m := by have := hsrc.1; omega
  rcases hsrc.2 with ⟨rfl, rfl⟩ | ⟨g, cap, cur, rfl, _⟩
  · obtain rfl : news = [] := List.eq_nil_of_length_eq_zero hm
    exact wpList_append_own_none hgd s x t ho base e i 1 ht hi v n xs hs hown hx (h v w (by simpa using hown) (World.grownBy.refl _ _))
  · refine wpList_append_own _ hgd s x t ho base e i z 1 bytes ht hi hz hsize hby hzs (by omega) v n xs hs hown ⟨g, 0, none⟩ m cap news hx (by omega) (fun j u hu => hsrc.cells (g := g) rfl j u hu) h1 h63 hbytes hbase ?_
    intro v' w' h2 h3 _
    exact h v' w' h2 h3

/-- two new rows apart from each other -/
def TwoRows (xs ys : List Int) (w : World) (e : Ending) (w' : World) : Prop :=
  ∃ v1 v2, e = .returned (.tuple #[v1, v2]) ∧ w'.ownsRow w.heap.size 3 1 v1 xs.length (intsV xs) ∧ w'.ownsRow w.heap.size 3 1 v2 ys.length (intsV ys) ∧
    (∀ x y, v1.ownBlock = some x → v2.ownBlock = some y → x ≠ y) ∧ Below w.heap.size w w'

theorem limbs_mono {m n : Int} (h0 : 0 ≤ m) (h : m ≤ n) : (limbs m.toNat).length ≤ (limbs n.toNat).length := by
  rcases Nat.lt_or_ge (limbs n.toNat).length (limbs m.toNat).length with hl | hl
  · have := nval_short (limbs n.toNat) (limbs m.toNat) (limbs_digN _) (limbs_digN _) hl (limbs_lastN _)
    rw [limbs_toNat m h0, limbs_toNat n (by omega)] at this
    omega
  · exact hl
theorem own_base {w : World} {base base' n : Nat} {e : TypeId} {v : Value} {xs : List Value} (h : w.ownsRow base e 1 v n xs) (hb : base' ≤ base) : w.ownsRow base' e 1 v n xs := by
  obtain ⟨hl, h | ⟨g, cap, cur, rfl, hg, r⟩⟩ := h
  · exact ⟨hl, .inl h⟩
  · exact ⟨hl, .inr ⟨g, cap, cur, rfl, by omega, r⟩⟩
/-- limb k of a division brought down -/
theorem down_limb {x R : Int} (hx0 : 0 ≤ x) (hx1 : x ≤ 999999999) (hR : 0 ≤ R) : trimL (x :: limbs R.toNat) = limbs (R * 1000000000 + x).toNat := by
  have hd : DigN (x :: limbs R.toNat) := DigN.cons hx0 hx1 (limbs_digN _)
  rw [trim_limbs _ hd]
  congr 2
  show x + 1000000000 * nval (limbs R.toNat) = _
  rw [limbs_toNat R hR]
  omega
/-- the state of the loop: the quotient so far, and the rest -/
def DivS (w : World) (a : List Int) (D : Int) (k : Nat) (v : Value) (wr : World) : Prop :=
  ∃ (R : Int) (qs : List Int), DivR a D k R qs ∧ wr.ownsRow w.heap.size 3 1 (.slice (some ⟨w.heap.size, 0, none⟩) a.length a.length) a.length (intsV (List.replicate k 0 ++ qs)) ∧
    wr.ownsRow (w.heap.size + 1) 3 1 v (limbs R.toNat).length (intsV (limbs R.toNat)) ∧ Below w.heap.size w wr

set_option maxHeartbeats 2000000 in
set_option maxRecDepth 100000 in
theorem specDivBig_any (va vb : Value) (a b : List Int) (la ha lb hb_ : Nat) (w : World) (hal : a.length ≤ 50) (hbl : b.length ≤ 50) (hb2 : 2 ≤ b.length) (hha : ha ≤ w.heap.size) (hhb : hb_ ≤ w.heap.size) (oa : DigN a) (ob : DigN b ∧ b.getLastD 1 ≠ 0)
    (hra : Row w la ha va (intsV a)) (hrb : Row w lb hb_ vb (intsV b)) :
    Calls Tryz.prog 216 #[va, vb] w (TwoRows (limbs (nval a / nval b).toNat) (limbs (nval a % nval b).toNat) w) := by
  obtain ⟨i0, hi0, hz0, hz1, hz2⟩ := info_parts intInfo
  have hD : 0 < nval b := by
    have h1 := nval_ge b ob.1 ob.2 (by omega)
    have h2 := bp_pos (b.length - 1)
    omega
  have hra0 := hra
  have hrb0 := hrb
  obtain ⟨A, c, rfl, hA⟩ := hra
  obtain ⟨B, d, rfl, hB⟩ := hrb
  rw [intsV_length] at hra0 hrb0 ⊢
  rw [intsV_length]
  have HA := Lib.hid hA
  have OA := Lib.hid oa
  have OB := Lib.hid ob
  have HDP := Lib.hid hD
  have hmk := make_ints a.length (by omega)
  have hb1 : ((b.length : Int) == 1) = false := by rw [beq_eq_false_iff_ne]; omega
  clear hA hB oa ob hD
  go_enter Tryz.func216, Tryz.ntmps216
  go_wp2
  go_loopw [9, 10] (fun v i wr => ∃ k : Nat, k ≤ a.length ∧ i = .int .i64 ((k : Int) - 1) ∧ DivS w a (nval b) k v wr) (fun _ i _ => (intOf i + 1).toNat)
  case atStart =>
    refine ⟨a.length, Nat.le_refl _, rfl, 0, [], DivR.start a (nval b), ?_, ?_, ((Below.refl _ _).alloc (Nat.le_refl _) _).alloc (by simp) _⟩
    · have h := World.ownsRow_lit (e := 3) (size := 1) (base := w.heap.size) w (madeCells #[.int .i64 0] a.length) a.length (Nat.le_refl _) (by unfold maxLen; omega) (by rw [size_madeCells, Nat.mul_one])
      rw [toList_madeCells_one] at h
      exact own_alloc (by simpa [intsV] using h) _
    · rw [show limbs (0 : Int).toNat = [] from limbs_none]
      have h := World.ownsRow_made (w.alloc (.cells (madeCells #[.int .i64 0] a.length) 3)) (e := 3) (size := 1) (base := w.heap.size + 1) #[] 0 (by simp) (Nat.zero_le _) rfl
      simpa [intsV] using h
  case round =>
    obtain ⟨k, hk, rfl, R, qs, hR, hout, hrest, hb⟩ := hrel
    have hRb := hR.bound HDP.out
    have hR0 := hRb.1
    have HR := Lib.hid hR
    have HRB := Lib.hid hRb
    clear hR hRb
    have hsz := hb.size
    have hsz2 : w.heap.size < wr.heap.size := (own_lt hout (g := w.heap.size) rfl).2
    by_cases hz : 0 < k
    · obtain ⟨j, rfl⟩ : ∃ j, k = j + 1 := ⟨k - 1, by omega⟩
      have hlt : j < a.length := by omega
      obtain ⟨p, rfl, _, hpb, hca⟩ := HA.out j _ (intsV_at a j hlt)
      have hca' : wr.cell? (p.add j) = some (.int .i64 a[j]) := (hb.cell (by rw [block_add]; omega)).trans hca
      have hda := OA.out.at_ j hlt
      have hm1 : ((j + 1 : Nat) : Int) - 1 = (j : Int) := by omega
      rw [hm1]
      have HDN := Lib.hid (down_limb hda.1 hda.2 hR0)
      have hrl : (limbs R.toNat).length ≤ 50 := limbs_length_le _ 50 (by
        have h1 := nval_lt b OB.out.1
        have h2 := bp_mono hbl
        have := HRB.out
        omega)
      have hown0 : (wr.alloc (.cells #[.int .i64 a[j]] 3)).ownsRow (w.heap.size + 1) 3 1 (.slice (some ⟨wr.heap.size, 0, none⟩) 1 1) 1 [.int .i64 a[j]] :=
        ⟨rfl, .inr ⟨wr.heap.size, 1, _, rfl, by omega, heap_alloc_new wr _, Nat.le_refl _, by unfold maxLen; omega, rfl, rfl⟩⟩
      clear hm1 hz hca
      go_wp2_with (at_builtin; refine append_owned rfl _ _ 28 rfl (w.heap.size + 1) 3 i0 (.int .i64 0) 8 Tryz.underlying28 hi0 hz0 hz1 hz2 rfl (.slice (some ⟨wr.heap.size, 0, none⟩) 1 1) 1 [.int .i64 a[j]] rfl hown0 _ _ _ _ _ rfl (own_alloc hrest _) ?c2 ?c3 ?c4 ?c5 ?_)
      case c2 => intro u hu; obtain ⟨x, _, rfl⟩ := List.mem_map.1 hu; rfl
      case c3 => unfold maxLen; omega
      case c4 => omega
      case c5 => simp; omega
      intro v1 w1 hown1 hg1
      have hown2 : w1.ownsRow (w.heap.size + 1) 3 1 v1 (a[j] :: limbs R.toNat).length (intsV (a[j] :: limbs R.toNat)) := by
        rw [List.length_cons, Nat.add_comm (limbs R.toNat).length]
        exact hown1
      have hout1 := own_apart (own_alloc hout _) hg1 (fun g k hg hk => by simp [Value.ownBlock] at hg hk; omega)
      have hbb1 : Below w.heap.size w w1 := (hb.alloc hsz _).grown hg1 (by simp; omega) (fun k hk => by cases hk; exact hsz)
      clear hown0 hown1 hg1 hout hrest
      go_wp2_with fail
      refine (specTrim_any v1 (a[j] :: limbs R.toNat) (w.heap.size + 1) _ (by simp; omega) hown2).mono ?_
      rintro e w2 ⟨rfl, v2, rfl, ho2⟩
      rw [HDN.out] at ho2
      clear hown2
      have hda0 := hda.1
      have hda1 := hda.2
      have HN := Lib.hid (HR.out.next HDP.out OA.out hlt)
      have HDG := Lib.hid (HR.out.digit HDP.out OA.out hlt)
      have hqsl := Lib.hid HR.out.2.2.2
      have HBD : Hid (R * 1000000000 + a[j] < 1000000000 * nval b) := Lib.hid (by have := HRB.out.2; omega)
      obtain ⟨N, HNE⟩ : ∃ N, Hid (N = R * 1000000000 + a[j]) := ⟨_, Lib.hid rfl⟩
      rw [← HNE.out] at ho2 HN HDG HBD
      have hN0 : 0 ≤ N := by rw [HNE.out]; omega
      have HNV := Lib.hid (limbs_toNat N hN0)
      have hnl : (limbs N.toNat).length ≤ 51 := limbs_length_le _ 51 (by
        have h1 := nval_lt b OB.out.1
        have h2 := bp_mono hbl
        have h3 : bp 51 = 1000000000 * bp 50 := rfl
        have := HBD.out
        omega)
      have hsz1 := hbb1.size
      have r2 := Row.of_own ho2
      go_wp2_with fail
      refine (specCmp_any v2 _ (limbs N.toNat) b _ _ lb hb_ _ (by omega) (by omega) ⟨limbs_digN _, limbs_lastN _⟩ OB.out r2 (hrb0.below hbb1 hhb)).mono ?_
      rintro e w3 ⟨rfl, q3, rfl⟩
      rw [HNV.out]
      have hout3 := own_drew hout1 q3
      have ho3 := own_drew ho2 q3
      have hbb3 := below_drewN hbb1 q3
      clear r2 hout1 ho2
      by_cases hless : N < nval b
      · have HC := Lib.hid (cmp_lt hless)
        have HS : Hid (DivS w a (nval b) j v2 (w1.drewN q3)) := Lib.hid (by
          have h := HN.out
          rw [Int.emod_eq_of_lt hN0 hless, Int.ediv_eq_zero_of_lt hN0 hless] at h
          refine ⟨N, 0 :: qs, h, ?_, ho3, hbb3⟩
          rw [show List.replicate j (0 : Int) ++ 0 :: qs = List.replicate (j + 1) 0 ++ qs by rw [List.replicate_succ', List.append_assoc]; rfl]
          exact hout3)
        clear hless
        rw [HC.out]
        go_wp2
        exact ⟨⟨j, by omega, rfl, HS.out⟩, by simp [intOf]⟩
      · have hcd : ¬ cmpI N (nval b) < 0 := by unfold cmpI; rw [if_neg hless]; split <;> omega
        have HG := Lib.hid (show nval b ≤ N by omega)
        clear hless
        go_wp2_with fail
        refine (specDigit_any v2 _ (limbs N.toNat) b _ _ lb hb_ _ (by omega) hbl (Nat.le_refl _) (by have := hbb3.size; omega) ⟨limbs_digN _, limbs_lastN _⟩ OB.out HDP.out (by rw [HNV.out]; exact HBD.out) (Row.of_own ho3) (hrb0.below hbb3 hhb)).mono ?_
        rintro e w4 ⟨rfl, b4⟩
        rw [HNV.out]
        have hout4 := own_below hout3 b4
        have ho4 := own_below ho3 b4
        have hbb4 : Below w.heap.size w w4 := Below.next hbb3 b4
        have hq0 := HDG.out.1
        have hq1 := HDG.out.2
        obtain ⟨q, HQE⟩ : ∃ q, Hid (q = N / nval b) := ⟨_, Lib.hid rfl⟩
        rw [← HQE.out] at hq0 hq1 HN ⊢
        have hlen : (List.replicate (j + 1) (0 : Int) ++ qs).length = a.length := by have := hqsl.out; simp; omega
        obtain ⟨cu, hcell⟩ : ∃ u, w4.cell? ⟨w.heap.size, j, none⟩ = some u := ⟨_, (hout4.cellAt j (by omega)).trans (List.getElem?_eq_getElem (by rw [intsV_length, hlen]; exact hlt))⟩
        have hfr := hout4.frozenAt j
        obtain ⟨hout5, hg5⟩ := hout4.stored j (.int .i64 q)
        rw [intsV_set, zeros_set] at hout5
        have ho5 := own_apart ho4 hg5 (fun g k hg hk => by cases hk; have := (own_lt ho4 hg).1; omega)
        have hbb5 := hbb4.grown hg5 hbb4.size (fun g hg => by cases hg; exact Nat.le_refl _)
        clear hout3 ho3 hbb3 hout4 ho4 hg5 hlen hcd hb hbb1
        go_wp2_with fail
        refine (specNatOf_any q _ (by omega)).mono ?_
        rintro e w6 ⟨v6, rfl, o6, b6⟩
        have hbb6 : Below w.heap.size w w6 := Below.next hbb5 b6
        have hout6 := own_below hout5 b6
        have ho6 := own_below ho5 b6
        clear hout5 ho5 hbb5 hbb4
        go_wp2_with fail
        refine (specMulV_any _ v6 b (limbs q.toNat) lb hb_ _ _ _ hbl (Nat.le_trans (limbs_length_le _ 1 (by show ((q.toNat : Nat) : Int) < 1000000000 * 1; omega)) (by decide)) (by have := hbb6.size; omega) (Nat.le_refl _) OB.out.1 (limbs_digN _) (hrb0.below hbb6 hhb) (Row.of_own o6)).mono ?_
        rintro e w7 ⟨v7, rfl, o7, b7⟩
        rw [limbs_toNat q hq0] at o7
        have hbb7 : Below w.heap.size w w7 := Below.next hbb6 b7
        have hout7 := own_below hout6 b7
        have ho7 := own_below ho6 b7
        clear hout6 ho6 hbb6 o6
        have HP : Hid (0 ≤ nval b * q ∧ nval b * q ≤ N ∧ N - nval b * q = N % nval b) := Lib.hid (by
          have h1 := Int.emod_add_mul_ediv N (nval b)
          have h2 := Int.emod_nonneg N (show nval b ≠ 0 by have := HDP.out; omega)
          rw [← HQE.out] at h1
          exact ⟨Int.mul_nonneg (by have := HDP.out; omega) hq0, by omega, by omega⟩)
        go_wp2_with fail
        refine (specSubV_any v2 v7 (limbs N.toNat) (limbs (nval b * q).toNat) _ _ _ _ _ (by omega) (limbs_mono HP.out.1 HP.out.2.1) (Nat.le_refl _) (Nat.le_refl _) (limbs_digN _) (limbs_digN _) (by rw [HNV.out, limbs_toNat _ HP.out.1]; exact HP.out.2.1) (Row.of_own ho7) (Row.of_own o7)).mono ?_
        rintro e w8 ⟨v8, rfl, o8, b8⟩
        rw [HNV.out, limbs_toNat _ HP.out.1, HP.out.2.2] at o8
        have HS : Hid (DivS w a (nval b) j v8 w8) := Lib.hid ⟨_, _, HN.out, own_below hout7 b8, own_base o8 (by have := (own_lt hout7 (g := w.heap.size) rfl).2; omega), Below.next hbb7 b8⟩
        clear hout7 ho7 o7 o8
        go_wp2
        exact ⟨⟨j, by omega, rfl, HS.out⟩, by simp [intOf]⟩
    · obtain rfl : k = 0 := by omega
      have HF := Lib.hid HR.out.done
      have hql : qs.length = a.length := by have := HR.out.2.2.2; omega
      have hqb : qs.length ≤ 50 := by omega
      have HT := Lib.hid (fun W : World => specTrim_at (some ⟨w.heap.size, 0, none⟩) a.length qs w.heap.size W (by omega))
      have HO : Hid (wr.ownsRow w.heap.size 3 1 (.slice (some ⟨w.heap.size, 0, none⟩) a.length a.length) a.length (intsV qs)) := Lib.hid (by simpa using hout)
      rw [hql] at HT
      clear hql hout hqb
      go_wp2_with fail
      refine (HT.out _ HO.out).mono ?_
      rintro e w2 ⟨rfl, rfl, ho2⟩
      rw [HF.out.1] at ho2 ⊢
      go_wp2
      go_ret2
      refine ⟨_, _, rfl, ho2, ?_, ?_, hb⟩
      · rw [← HF.out.2]
        exact own_base hrest (by omega)
      · intro x y hx hy
        have h1 := (own_lt hrest hy).1
        have h2 : w.heap.size = x := by simpa [Value.ownBlock] using hx
        omega
end Go.Proofs.YtehkknphcflofaaGreatDoor

namespace Go.Proofs.YtehkknphcflofaaGreatDoor
open Go.RowKit

/-- a nil slice of the call's own, or an argument, has no capacity -/
def NoCap (v : Value) : Prop := ∀ n c, v = .slice none n c → c = 0
theorem own_noCap {w : World} {base n : Nat} {e : TypeId} {v : Value} {xs : List Value} (h : w.ownsRow base e 1 v n xs) : NoCap v := by
  intro m c e1
  rcases h.2 with ⟨rfl, _⟩ | ⟨g, cap, cur, rfl, _⟩
  · injection e1 with _ _ e3
    exact e3.symm
  · cases e1
/-- append of a slice that reads as a list, nil let in -/
theorem append_row {P : Program} {w : World} {ops : Array Oper} {rest : List Oper} {o : Oper} {a : Act} {Q : Exit → Act → World → Prop} (hgd : o.guard = none) (s x : Operand) (t : TypeId)
    (ho : o.op = .call { callee := .builtin .append, args := #[s, x], argTypes := #[t, t] }) (base : Nat) (e : TypeId) (i : TypeInfo) (z : Value) (bytes : Nat) (ht : P.underlying t = some (.slice e)) (hi : P.info? e = some i)
    (hz : i.zero = some z) (hsize : i.size = 1) (hby : i.bytes = bytes) (hzs : z.cells.size = 1) (v : Value) (n : Nat) (xs : List Value) (hs : a.eval s = v) (hown : w.ownsRow base e 1 v n xs)
    (vx : Value) (lo hi' : Nat) (news : List Value) (hx : a.eval x = vx) (hr : Row w lo hi' vx news) (hnc : NoCap vx) (h1 : ∀ u ∈ news, u.oneCell' = true) (h63 : n + news.length ≤ maxLen) (hbytes : (n + news.length) * bytes ≤ 140737488355328) (hbase : base ≤ w.heap.size)
    (h : ∀ v' w', w'.ownsRow base e 1 v' (n + news.length) (xs ++ news) → w.grownBy w' v.ownBlock → wpList P ops Q rest (a.put o.dst v') w') : wpList P ops Q (o :: rest) a w := by
  obtain ⟨A, c, rfl, hA⟩ := hr
  cases A with
  | none =>
    obtain rfl : news = [] := by
      cases news with
      | nil => rfl
      | cons y r => obtain ⟨_, e, _⟩ := hA 0 y rfl; cases e
    obtain rfl : c = 0 := hnc _ _ rfl
    exact wpList_append_own_none hgd s x t ho base e i 1 ht hi v n xs hs hown hx (h v w (by simpa using hown) (World.grownBy.refl _ _))
  | some ad =>
    refine wpList_append_own _ hgd s x t ho base e i z 1 bytes ht hi hz hsize hby hzs (by omega) v n xs hs hown ad news.length c news hx (by omega) (fun j u hu => ?_) h1 h63 hbytes hbase ?_
    · obtain ⟨p, e, _, _, hc⟩ := hA j u hu
      cases e
      exact hc
    · intro v' w' h2 h3 _
      exact h v' w' h2 h3

set_option maxHeartbeats 400000 in
set_option maxRecDepth 100000 in
theorem specDivOne_any (va vb : Value) (a : List Int) (d : Int) (la ha lb hb_ : Nat) (w : World) (hal : a.length ≤ 1048576) (hha : ha ≤ w.heap.size) (oa : DigN a) (hd0 : 0 < d) (hd1 : d ≤ 999999999)
    (hra : Row w la ha va (intsV a)) (hrb : Row w lb hb_ vb (intsV [d])) :
    Calls Tryz.prog 216 #[va, vb] w (TwoRows (limbs (nval a / d).toNat) (limbs (nval a % d).toNat) w) := by
  obtain ⟨B, c, rfl, hB⟩ := hrb
  obtain ⟨p, rfl, _, _, hcb⟩ := hB 0 _ rfl
  have hcb0 : w.cell? p = some (.int .i64 d) := hcb
  rw [intsV_length]
  have OA := Lib.hid oa
  have hm := Lib.hid (show 0 ≤ nval a % d ∧ nval a % d < d from ⟨Int.emod_nonneg _ (by omega), Int.emod_lt_of_pos _ hd0⟩)
  clear hB oa
  go_enter Tryz.func216, Tryz.ntmps216
  go_wp2_with fail
  refine (specSmall_any va a d la ha _ hal hha hd0 hd1 OA.out hra).mono ?_
  rintro e w1 ⟨v1, rfl, o1, b1⟩
  go_wp2_with fail
  refine (specNatOf_any _ _ (by have := hm.out; omega)).mono ?_
  rintro e w2 ⟨v2, rfl, o2, b2⟩
  go_wp2
  go_ret2
  exact ⟨v1, v2, rfl, own_below o1 b2, own_base o2 b1.size, (Lies.of o1).apart (Lies.of o2) (.inl (Nat.le_refl _)), Below.next b1 b2⟩

theorem one_of_len {b : List Int} (h : b.length = 1) : b = [b[0]] := by
  match b, h with
  | [x], _ => rfl
theorem specDiv_any (va vb : Value) (a b : List Int) (la ha lb hb_ : Nat) (w : World) (hal : a.length ≤ 50) (hbl : b.length ≤ 50) (hb0 : 0 < b.length) (hha : ha ≤ w.heap.size) (hhb : hb_ ≤ w.heap.size) (oa : DigN a) (ob : DigN b ∧ b.getLastD 1 ≠ 0)
    (hra : Row w la ha va (intsV a)) (hrb : Row w lb hb_ vb (intsV b)) :
    Calls Tryz.prog 216 #[va, vb] w (TwoRows (limbs (nval a / nval b).toNat) (limbs (nval a % nval b).toNat) w) := by
  by_cases h1 : b.length = 1
  · have hv : nval b = b[0] := by
      conv => lhs; rw [one_of_len h1]
      show b[0] + 1000000000 * 0 = _
      omega
    have hd := ob.1.at_ 0 hb0
    have hne : b[0] ≠ 0 := by
      have := ob.2
      rw [one_of_len h1] at this
      simpa using this
    rw [hv]
    exact specDivOne_any va vb a b[0] la ha lb hb_ w (by omega) hha oa (by omega) hd.2 hra (by rw [← one_of_len h1]; exact hrb)
  · exact specDivBig_any va vb a b la ha lb hb_ w hal hbl (by omega) hha hhb oa ob hra hrb

/-- what NatDiv answers -/
def divN (a b : List Int) : List Int × List Int := if natOkB a = true ∧ natOkB b = true ∧ 0 < b.length then (limbs (nval a / nval b).toNat, limbs (nval a % nval b).toNat) else ([], [])
theorem two_nil {w w' : World} (hb : Below w.heap.size w w') : TwoRows [] [] w (.returned (.tuple #[.slice none 0 0, .slice none 0 0])) w' := ⟨_, _, rfl, nil_own, nil_own, (fun x y hx _ => by cases hx), hb⟩

end Go.Proofs.YtehkknphcflofaaGreatDoor

namespace Go.Proofs.YtehkknphcflofaaGreatDoor
open Go.RowKit

/-- what NatGcd answers -/
def gcdN (a b : List Int) : List Int := if natOkB a = true ∧ natOkB b = true then limbs (Nat.gcd (nval a).toNat (nval b).toNat) else []
theorem gcd_step (X Y : Nat) : Nat.gcd Y (X % Y) = Nat.gcd X Y := by
  rw [Nat.gcd_comm Y, ← Nat.gcd_rec, Nat.gcd_comm]
theorem limbs_empty {n : Nat} (h : ¬ 0 < (limbs n).length) : n = 0 := by
  rcases Nat.eq_zero_or_pos n with h0 | h0
  · exact h0
  · rw [limbs, dif_neg (by omega)] at h
    simp at h
theorem limbs_some {n : Nat} (h : 0 < (limbs n).length) : 0 < n := by
  rcases Nat.eq_zero_or_pos n with h0 | h0
  · subst h0; rw [limbs, dif_pos rfl] at h; simp at h
  · exact h0
theorem limbs_mod_len (X Y : Nat) (h : (limbs Y).length ≤ 50) (h0 : 0 < Y) : (limbs (X % Y)).length ≤ 50 := by
  have hm := Nat.mod_lt X h0
  have := limbs_mono (m := ((X % Y : Nat) : Int)) (n := (Y : Int)) (by omega) (by omega)
  rw [Int.toNat_natCast, Int.toNat_natCast] at this
  omega
/-- the state of NatGcd's loop -/
def GcdS (w : World) (G : Nat) (n : Nat) (x y : Value) (wr : World) : Prop :=
  ∃ X Y : Nat, n = Y ∧ Nat.gcd X Y = G ∧ (limbs X).length ≤ 50 ∧ (limbs Y).length ≤ 50 ∧ wr.ownsRow w.heap.size 3 1 x (limbs X).length (intsV (limbs X)) ∧ wr.ownsRow w.heap.size 3 1 y (limbs Y).length (intsV (limbs Y)) ∧ Below w.heap.size w wr

set_option maxHeartbeats 1000000 in
set_option maxRecDepth 100000 in
theorem specNatGcd_any (va vb : Value) (a b : List Int) (la ha lb hb_ : Nat) (w : World) (hal : a.length ≤ 1048576) (hbl : b.length ≤ 1048576) (hha : ha ≤ w.heap.size) (hhb : hb_ ≤ w.heap.size) (hna : NoCap va) (hnb : NoCap vb)
    (hra : Row w la ha va (intsV a)) (hrb : Row w lb hb_ vb (intsV b)) :
    Calls Tryz.prog 158 #[va, vb] w (NewInts (gcdN a b) w) := by
  obtain ⟨i0, hi0, hz0, hz1, hz2⟩ := info_parts intInfo
  by_cases oa : natOkB a = true
  · by_cases ob : natOkB b = true
    · have HV := Lib.hid (show gcdN a b = limbs (Nat.gcd (nval a).toNat (nval b).toNat) by unfold gcdN; rw [if_pos ⟨oa, ob⟩])
      have LA := Lib.hid (natOk_limbs oa)
      have LB := Lib.hid (natOk_limbs ob)
      have ha50 := (natOk_parts oa).2.1
      have hb50 := (natOk_parts ob).2.1
      go_enter Tryz.func158, Tryz.ntmps158
      go_wp2_with fail
      refine (specNatOk_any va a la ha _ hal hra).mono ?_
      rintro e w' ⟨rfl, rfl⟩
      rw [oa]
      go_wp2_with fail
      refine (specNatOk_any vb b lb hb_ _ hbl hrb).mono ?_
      rintro e w' ⟨rfl, rfl⟩
      rw [ob]
      clear oa ob
      have hone : ∀ l : List Int, ∀ u ∈ intsV l, u.oneCell' = true := fun l u hu => by obtain ⟨x, _, rfl⟩ := List.mem_map.1 hu; rfl
      have HONE := Lib.hid hone
      clear hone
      go_wp2_with (at_builtin; refine append_row rfl _ _ 28 rfl w.heap.size 3 i0 (.int .i64 0) 8 Tryz.underlying28 hi0 hz0 hz1 hz2 rfl _ 0 [] rfl (World.ownsRow_made w #[] 0 (Nat.le_refl _) (Nat.zero_le _) rfl) va la ha (intsV a) rfl (hra.below ((Below.refl _ _).alloc (Nat.le_refl _) _) hha) hna (HONE.out a) ?c3 ?c4 ?c5 ?_)
      case c3 => rw [intsV_length]; unfold maxLen; omega
      case c4 => rw [intsV_length]; omega
      case c5 => simp
      intro v1 w1 o1 g1
      have b1 : Below w.heap.size w w1 := ((Below.refl _ w).alloc (Nat.le_refl _) _).grown g1 (by simp) (fun k hk => by cases hk; exact Nat.le_refl _)
      rw [intsV_length] at o1
      clear g1
      have z1 := b1.size
      have r1 := hrb.below b1 hhb
      go_wp2_with (at_builtin; refine append_row rfl _ _ 28 rfl w1.heap.size 3 i0 (.int .i64 0) 8 Tryz.underlying28 hi0 hz0 hz1 hz2 rfl _ 0 [] rfl (World.ownsRow_made w1 #[] 0 (Nat.le_refl _) (Nat.zero_le _) rfl) vb lb hb_ (intsV b) rfl (r1.below ((Below.refl _ _).alloc (Nat.le_refl _) _) (by omega)) hnb (HONE.out b) ?d3 ?d4 ?d5 ?_)
      case d3 => rw [intsV_length]; unfold maxLen; omega
      case d4 => rw [intsV_length]; omega
      case d5 => simp
      intro v2 w2 o2 g2
      have b2 : Below w1.heap.size w1 w2 := ((Below.refl _ w1).alloc (Nat.le_refl _) _).grown g2 (by simp) (fun k hk => by cases hk; exact Nat.le_refl _)
      rw [intsV_length] at o2
      clear g2 r1
      have HS : Hid (GcdS w (Nat.gcd (nval a).toNat (nval b).toNat) (nval b).toNat v1 v2 w2) := Lib.hid ⟨(nval a).toNat, (nval b).toNat, rfl, rfl, by rw [← LA.out]; exact ha50, by rw [← LB.out]; exact hb50, by rw [← LA.out]; exact own_below o1 b2, by rw [← LB.out]; exact own_base o2 z1, Below.next b1 b2⟩
      clear o1 o2
      go_wp2
      go_loopg [5, 6] (nval b).toNat (fun n x y wr => GcdS w (Nat.gcd (nval a).toNat (nval b).toNat) n x y wr)
      case atStart => exact HS.out
      case round =>
        clear HS b1 b2 z1
        obtain ⟨X, Y, hn, hG, hX, hY, ox, oy, hb⟩ := hrel
        have HNE := Lib.hid hn
        have HG := Lib.hid hG
        clear hn hG
        have oy0 := oy
        obtain ⟨B, c, rfl⟩ := own_len oy
        by_cases hpos : 0 < (limbs Y).length
        · have hY0 := limbs_some hpos
          go_wp2_with fail
          refine (specDiv_any _ _ (limbs X) (limbs Y) _ _ _ _ _ hX hY hpos (Nat.le_refl _) (Nat.le_refl _) (limbs_digN _) ⟨limbs_digN _, limbs_lastN _⟩ (Row.of_own ox) (Row.of_own oy0)).mono ?_
          rintro e w3 ⟨v3, v4, rfl, o3, o4, _, b3⟩
          rw [limbs_val, limbs_val, show ((X : Int) % (Y : Int)).toNat = X % Y by omega] at o4
          have HS2 : Hid (GcdS w (Nat.gcd (nval a).toNat (nval b).toNat) (X % Y) (.slice B (limbs Y).length c) v4 w3) := Lib.hid ⟨Y, X % Y, rfl, by rw [gcd_step]; exact HG.out, hY, limbs_mod_len X Y hY hY0, own_below oy0 b3, own_base o4 hb.size, Below.next hb b3⟩
          clear ox oy oy0 o3 o4
          go_wp2
          go_roundg (X % Y)
          case measure => rw [HNE.out]; exact Nat.mod_lt X hY0
          case rel => exact HS2.out
        · have hY0 := Lib.hid (limbs_empty hpos)
          have HF : Hid (X = Nat.gcd (nval a).toNat (nval b).toNat) := Lib.hid (by have := HG.out; rw [hY0.out, Nat.gcd_zero_right] at this; exact this)
          go_wp2
          go_ret
          exact ⟨_, rfl, by rw [HV.out, ← HF.out]; exact ox, hb⟩
    · have ob' : natOkB b = false := by simpa using ob
      have HN := Lib.hid (show gcdN a b = [] by unfold gcdN; rw [if_neg (fun h => ob h.2)])
      clear ob
      go_enter Tryz.func158, Tryz.ntmps158
      go_wp2_with fail
      refine (specNatOk_any va a la ha _ hal hra).mono ?_
      rintro e w' ⟨rfl, rfl⟩
      rw [oa]
      go_wp2_with fail
      refine (specNatOk_any vb b lb hb_ _ hbl hrb).mono ?_
      rintro e w' ⟨rfl, rfl⟩
      rw [ob']
      go_wp2
      go_ret
      rw [HN.out]
      exact new_nil (Below.refl _ _)
  · have oa' : natOkB a = false := by simpa using oa
    have HN := Lib.hid (show gcdN a b = [] by unfold gcdN; rw [if_neg (fun h => oa h.1)])
    clear oa
    go_enter Tryz.func158, Tryz.ntmps158
    go_wp2_with fail
    refine (specNatOk_any va a la ha _ hal hra).mono ?_
    rintro e w' ⟨rfl, rfl⟩
    rw [oa']
    go_wp2
    go_ret
    rw [HN.out]
    exact new_nil (Below.refl _ _)

/-- powers of ten -/
def tenN (k : Int) : List Int := if 0 ≤ k ∧ k ≤ 449 then limbs (10 ^ k.toNat) else []
theorem bp_ten (m : Nat) : bp m = 10 ^ (9 * m) := by
  induction m with
  | zero => rfl
  | succ m ih =>
    show 1000000000 * bp m = _
    rw [ih, show 9 * (m + 1) = 9 * m + 9 by omega, Int.pow_add, Int.mul_comm]
    rfl
theorem ten_pos (k : Nat) : (0 : Int) < 10 ^ k := Int.pow_pos (by omega)
theorem ten_eight (k : Nat) (h : k ≤ 8) : (10 : Int) ^ k ≤ 100000000 := by
  match k, h with
  | 0, _ => decide
  | 1, _ => decide
  | 2, _ => decide
  | 3, _ => decide
  | 4, _ => decide
  | 5, _ => decide
  | 6, _ => decide
  | 7, _ => decide
  | 8, _ => decide
theorem ten_limbs (k : Nat) : limbs (10 ^ k) = List.replicate (k / 9) 0 ++ [(10 : Int) ^ (k % 9)] := by
  have h8 := ten_eight (k % 9) (by omega)
  have hp := ten_pos (k % 9)
  have hd : DigN (List.replicate (k / 9) 0 ++ [(10 : Int) ^ (k % 9)]) := (dig_zeros _).append (dig_one (by omega) (by omega))
  have hl : (List.replicate (k / 9) 0 ++ [(10 : Int) ^ (k % 9)]).getLastD 1 ≠ 0 := by
    rw [List.getLastD_eq_getLast?, List.getLast?_append]
    simp
    omega
  have hv : nval (List.replicate (k / 9) 0 ++ [(10 : Int) ^ (k % 9)]) = 10 ^ k := by
    rw [nval_append, nval_zeros, List.length_replicate, bp_ten]
    show 0 + 10 ^ (9 * (k / 9)) * (10 ^ (k % 9) + 1000000000 * 0) = _
    rw [Int.mul_zero, Int.add_zero, Int.zero_add, ← Int.pow_add, Nat.div_add_mod]
  rw [← trim_last _ hl, trim_limbs _ hd, hv]
  congr 1

set_option maxHeartbeats 1000000 in
set_option maxRecDepth 100000 in
theorem specNatTen_any (k : Int) (w : World) : Calls Tryz.prog 252 #[.int .i64 k] w (NewInts (tenN k) w) := by
  obtain ⟨i0, hi0, hz0, hz1, hz2⟩ := info_parts intInfo
  by_cases hin : inB k 0 449 = true
  · have hk : 0 ≤ k ∧ k ≤ 449 := of_decide_eq_true hin
    obtain ⟨n, rfl⟩ := Int.eq_ofNat_of_zero_le hk.1
    have hn : n ≤ 449 := by omega
    have HV : Hid (tenN n = List.replicate (n / 9) 0 ++ [(10 : Int) ^ (n % 9)]) := Lib.hid (by unfold tenN; rw [if_pos hk, Int.toNat_natCast, ten_limbs])
    have hmk := make_ints (n / 9) (by omega)
    rw [show ((n / 9 : Nat) : Int) = (n : Int) / 9 by omega] at hmk
    clear hk
    go_enter Tryz.func252, Tryz.ntmps252
    go_wp2_with fail
    refine (specIn_any _ _ _ true _ hin).mono ?_
    rintro e w' ⟨rfl, rfl⟩
    clear hin
    go_wp2
    go_loop [4, 5] (fun f i => ∃ (j : Nat) (p : Int), j ≤ n % 9 ∧ i = .int .i64 j ∧ f = .int .i64 p ∧ 0 < p ∧ p ≤ 100000000 ∧ Hid (p = 10 ^ j)) (fun _ i => n % 9 - (intOf i).toNat)
    case atStart => exact ⟨0, 1, Nat.zero_le _, rfl, rfl, by omega, by omega, Lib.hid rfl⟩
    case round =>
      obtain ⟨j, p, hj, rfl, rfl, hp0, hp1, HP⟩ := hrel
      by_cases hlt : (j : Int) < (n : Int) % 9
      · have HN : Hid (p * 10 = 10 ^ (j + 1) ∧ p * 10 ≤ 100000000) := Lib.hid (by
          have h1 : p * 10 = (10 : Int) ^ (j + 1) := by rw [HP.out, Int.pow_succ]
          exact ⟨h1, by rw [h1]; exact ten_eight (j + 1) (by omega)⟩)
        go_wp2
        go_round
        case rel => exact ⟨j + 1, p * 10, by omega, by go_num, rfl, by omega, HN.out.2, Lib.hid HN.out.1⟩
        case measure => simp [intOf]; omega
      · have HJ := Lib.hid (show j = n % 9 by omega)
        have hown : (w.alloc (.cells (madeCells #[.int .i64 0] (n / 9)) 3)).ownsRow w.heap.size 3 1 (.slice (some ⟨w.heap.size, 0, none⟩) (n / 9) (n / 9)) (n / 9) (intsV (List.replicate (n / 9) 0)) := by
          have h := World.ownsRow_lit (e := 3) (size := 1) (base := w.heap.size) w (madeCells #[.int .i64 0] (n / 9)) (n / 9) (Nat.le_refl _) (by unfold maxLen; omega) (by rw [size_madeCells, Nat.mul_one])
          rw [toList_madeCells_one] at h
          simpa [intsV] using h
        go_wp2_with (at_builtin; refine wpList_append_own _ rfl _ _ 28 rfl w.heap.size 3 i0 (.int .i64 0) 1 8 Tryz.underlying28 hi0 hz0 hz1 hz2 rfl (by decide) _ _ _ rfl (own_alloc hown _) ⟨w.heap.size + 1, 0, none⟩ 1 1 [.int .i64 p] rfl rfl ?c1 ?c2 ?c3 ?c4 ?c5 ?_)
        case c2 => first | (intro u hu; simp at hu; subst hu; rfl) | rfl
        case c3 => unfold maxLen; omega
        case c4 => omega
        case c5 => first | omega | (simp; omega)
        intro v1 w1 hown1 hg1 _
        have hb2 : Below w.heap.size w w1 := (((Below.refl _ w).alloc (Nat.le_refl _) _).alloc (by simp) _).grown hg1 (by simp; omega) (fun k hk => by cases hk; exact Nat.le_refl _)
        go_wp2
        go_ret
        refine ⟨_, rfl, ?_, hb2⟩
        rw [HV.out, ← HJ.out, ← HP.out]
        simpa [intsV] using hown1
  · have hin' : inB k 0 449 = false := by simpa using hin
    have HV : Hid (tenN k = []) := Lib.hid (by unfold tenN; rw [if_neg (of_decide_eq_false hin')])
    clear hin
    go_enter Tryz.func252, Tryz.ntmps252
    go_wp2_with fail
    refine (specIn_any _ _ _ false _ hin').mono ?_
    rintro e w' ⟨rfl, rfl⟩
    go_wp2
    go_ret
    rw [HV.out]
    exact new_nil (Below.refl _ _)

theorem tenN_len (k : Int) : (tenN k).length ≤ 50 := by
  unfold tenN
  split
  · rename_i h
    rw [ten_limbs]
    simp
    omega
  · simp

/-- what NatEven answers -/
def evenB (a : List Int) : Bool := natOkB a && decide (a.headD 0 % 2 = 0)
set_option maxHeartbeats 400000 in
set_option maxRecDepth 100000 in
theorem specNatEven_any (va : Value) (a : List Int) (la ha : Nat) (w : World) (hal : a.length ≤ 1048576) (hra : Row w la ha va (intsV a)) :
    Calls Tryz.prog 320 #[va] w fun e w' => e = .returned (.bool (evenB a)) ∧ w = w' := by
  have hra0 := hra
  obtain ⟨A, c, rfl, hA⟩ := hra
  rw [intsV_length] at hra0 ⊢
  by_cases oa : natOkB a = true
  · by_cases h0 : a.length = 0
    · have HV := Lib.hid (show evenB a = true by unfold evenB; rw [oa, List.eq_nil_of_length_eq_zero h0]; rfl)
      have H0 := Lib.hid h0
      clear h0 hA
      go_enter Tryz.func320, Tryz.ntmps320
      go_wp2_with fail
      refine (specNatOk_any _ a la ha _ hal hra0).mono ?_
      rintro e w' ⟨rfl, rfl⟩
      rw [oa]
      have h0 := H0.out
      go_wp2
      go_ret
      exact ⟨ret_bool HV.out.symm, rfl⟩
    · have hz : ((a.length : Int) == 0) = false := by rw [beq_eq_false_iff_ne]; omega
      have hpos : 0 < a.length := by omega
      obtain ⟨p, rfl, _, _, hc⟩ := hA 0 _ (intsV_at a 0 hpos)
      have hc0 : w.cell? p = some (.int .i64 a[0]) := hc
      have hda := (natOk_parts oa).1.at_ 0 hpos
      have hda0 := hda.1
      have hda1 := hda.2
      have HV := Lib.hid (show evenB a = (a[0] % 2 == 0) by
        unfold evenB
        rw [oa, Bool.true_and]
        have : a.headD 0 = a[0] := by cases a with | nil => simp at hpos | cons x r => rfl
        rw [this, Bool.eq_iff_iff, decide_eq_true_eq, beq_iff_eq])
      clear h0 hA hc hda
      generalize a[0] = x at *
      go_enter Tryz.func320, Tryz.ntmps320
      go_wp2_with fail
      refine (specNatOk_any _ a la ha _ hal hra0).mono ?_
      rintro e w' ⟨rfl, rfl⟩
      rw [oa]
      go_wp2
      go_ret
      exact ⟨ret_bool HV.out.symm, rfl⟩
  · have oa' : natOkB a = false := by simpa using oa
    have HV := Lib.hid (show evenB a = false by unfold evenB; rw [oa']; rfl)
    clear oa hA
    go_enter Tryz.func320, Tryz.ntmps320
    go_wp2_with fail
    refine (specNatOk_any _ a la ha _ hal hra0).mono ?_
    rintro e w' ⟨rfl, rfl⟩
    rw [oa']
    go_wp2
    go_ret
    exact ⟨ret_bool HV.out.symm, rfl⟩
end Go.Proofs.YtehkknphcflofaaGreatDoor

namespace Go.Proofs.YtehkknphcflofaaGreatDoor
open Go.RowKit

/-- a decimal number as data: its number, its scale -/
abbrev DI : Type := SI × Int
/-- DecOk -/
def okD (d : DI) : Bool := okS d.1 && (decide (d.1.2.length ≤ 6) && decide (0 ≤ d.2 ∧ d.2 ≤ 30))
def numD (d : DI) : Int := valS d.1
structure PartsD (d : DI) : Prop where
  ok : okS d.1 = true
  len : d.1.2.length ≤ 6
  lo : 0 ≤ d.2
  hi : d.2 ≤ 30
theorem partsD {d : DI} (h : okD d = true) : PartsD d := by
  unfold okD at h
  rw [Bool.and_eq_true, Bool.and_eq_true, decide_eq_true_eq, decide_eq_true_eq] at h
  exact ⟨h.1, h.2.1, h.2.2.1, h.2.2.2⟩
/-- ten to the power k -/
def pt (k : Int) : Int := 10 ^ k.toNat
def tenS (k : Int) : SI := (false, tenN k)
theorem pt_pos (k : Int) : 0 < pt k := ten_pos k.toNat
theorem pt_nat (k : Int) : ((10 ^ k.toNat : Nat) : Int) = pt k := by unfold pt; rw [Int.natCast_pow]; rfl
theorem bp_four : (10 : Int) ^ 30 < bp 4 := by decide
theorem pt_mono {j k : Int} (h : j ≤ k) : pt j ≤ pt k := by
  rw [← pt_nat, ← pt_nat]
  exact Int.ofNat_le.2 (Nat.pow_le_pow_right (by omega) (by omega))
theorem pt_lt {k : Int} (h : k ≤ 30) : pt k < bp 4 := by
  have h1 := pt_mono h
  have h2 : pt 30 < bp 4 := bp_four
  omega
theorem tenN_pt {k : Int} (h0 : 0 ≤ k) (h1 : k ≤ 30) : tenN k = limbs (10 ^ k.toNat) ∧ (tenN k).length ≤ 4 ∧ natOkB (tenN k) = true ∧ nval (tenN k) = pt k := by
  have e : tenN k = limbs (10 ^ k.toNat) := by unfold tenN; rw [if_pos ⟨h0, by omega⟩]
  have hl : (limbs (10 ^ k.toNat)).length ≤ 4 := limbs_length_le _ 4 (by rw [pt_nat]; exact pt_lt h1)
  refine ⟨e, by rw [e]; exact hl, by rw [e]; exact limbs_okL _ (by omega), ?_⟩
  rw [e, limbs_val, pt_nat]
theorem tenS_ok {k : Int} (h0 : 0 ≤ k) (h1 : k ≤ 30) : okS (tenS k) = true ∧ valS (tenS k) = pt k ∧ (tenS k).2.length ≤ 4 := by
  obtain ⟨_, h2, h3, h4⟩ := tenN_pt h0 h1
  exact ⟨by unfold okS tenS; rw [h3]; rfl, h4, h2⟩
/-- a right number of few limbs is small -/
theorem few_lt {x : SI} {k : Nat} (ok : okS x = true) (hl : x.2.length ≤ k) : ((valS x).natAbs : Int) < bp k := by
  have hp := okS_parts ok
  have ha := valS_abs x hp.1
  have h3 := nval_lt x.2 (natOk_parts hp.1).1
  have h4 := nval_ok hp.1
  have h5 : bp x.2.length ≤ bp k := bp_mono hl
  omega
theorem num_lt {d : DI} (h : PartsD d) : ((numD d).natAbs : Int) < bp 6 := few_lt h.ok h.len
def szD (q : DI) : Int := szS q.1
/-! ### the smallest scale -/
end Go.Proofs.YtehkknphcflofaaGreatDoor

namespace Go.Proofs.YtehkknphcflofaaGreatDoor
open Go.RowKit

/-- a value that stands for it, its limbs of the call's own -/
def OwnD (v : Value) (q : DI) (w : World) : Prop := ∃ u, v = .agg #[.bool q.1.1, u, .int .i64 q.2] ∧ OwnI u q.1.2 w
/-- a value that reads as it -/
def RdD (w : World) (v : Value) (q : DI) : Prop := ∃ u, v = .agg #[.bool q.1.1, u, .int .i64 q.2] ∧ Row w 0 w.heap.size u (intsV q.1.2)
theorem OwnD.rd {v : Value} {q : DI} {w : World} (h : OwnD v q w) : RdD w v q := by
  obtain ⟨u, rfl, o⟩ := h
  exact ⟨u, rfl, o.row⟩
theorem OwnD.mk {u : Value} {q : DI} {w : World} (h : OwnI u q.1.2 w) : OwnD (.agg #[.bool q.1.1, u, .int .i64 q.2]) q w := ⟨u, rfl, h⟩
theorem OwnD.below {w W : World} {v : Value} {q : DI} (h : OwnD v q w) (hb : Below w.heap.size w W) : OwnD v q W := by
  obtain ⟨u, rfl, o⟩ := h
  exact ⟨u, rfl, own_below o hb⟩
theorem RdD.below {w W : World} {v : Value} {q : DI} (h : RdD w v q) (hb : Below w.heap.size w W) : RdD W v q := by
  obtain ⟨u, rfl, o⟩ := h
  exact ⟨u, rfl, (o.below hb (Nat.le_refl _)).wide (Nat.le_refl _) hb.size⟩
def capD (q : DI) : Prop := q.1.2.length ≤ 9223372036854775807
theorem szD_nonneg (q : DI) : 0 ≤ szD q := by unfold szD szS szI; omega
theorem szD_len {q : DI} (h : szD q ≤ 1048576) : q.1.2.length ≤ 1048576 := by unfold szD szS szI at h; omega
theorem ownD_form {v : Value} {q : DI} {w : World} (h : OwnD v q w) : ∃ A c, v = .agg #[.bool q.1.1, .slice A q.1.2.length c, .int .i64 q.2] := by
  obtain ⟨u, rfl, o⟩ := h
  obtain ⟨A, c, rfl⟩ := own_len o
  exact ⟨A, c, rfl⟩
theorem ownD_open {u c s : Value} {q : DI} {w : World} (h : OwnD (.agg #[c, u, s]) q w) : OwnI u q.1.2 w := by
  obtain ⟨u', e, hu⟩ := h
  injection e with e
  simp at e
  obtain ⟨_, e2, _⟩ := e
  subst e2
  exact hu
/-- a value whose blocks stay while others are written -/
theorem newV_chg {φ : Value → World → Prop} {S T : List Nat} {v : Value} {w W : World} (o : At S (φ v) W) (hd : ∀ i ∈ S, i ∉ T) (hT : ∀ i ∈ T, w.heap.size ≤ i) (l : ∀ i ∈ S, w.heap.size ≤ i) (hW : Below w.heap.size w W) :
    ∀ W', Chg T W W' → NewV φ w (.returned v) W' :=
  fun _ hc => ⟨v, S, rfl, o.chg hc hd, fun i hi => ⟨l i hi, Nat.lt_of_lt_of_le (o.lt i hi) hc.size⟩, below_chg hW hc hW.size hT⟩
set_option maxHeartbeats 400000 in
set_option maxRecDepth 100000 in
theorem eqD_cal (u v : Value) (x y : DI) (w : World) (hz : capD x) (hu : RdD w u x) (hv : RdD w v y) : Calls Tryz.prog 254 #[u, v] w (Postb (decide (x = y)) w) := by
  obtain ⟨p, rfl, hp⟩ := hu
  obtain ⟨q, rfl, hq⟩ := hv
  obtain ⟨Ap, cp, rfl⟩ := row_form hp
  obtain ⟨Aq, cq, rfl⟩ := row_form hq
  simp only [intsV_length] at hp hq ⊢
  have hb : Below w.heap.size w ((w.alloc (.cells #[.bool x.1.1, .slice Ap x.1.2.length cp, .int .i64 x.2] 52)).alloc (.cells #[.bool y.1.1, .slice Aq y.1.2.length cq, .int .i64 y.2] 52)) := below_al (below_al (Below.refl _ _) _) _
  have kx := (box_new w #[.bool x.1.1, .slice Ap x.1.2.length cp, .int .i64 x.2] 52).below (below_al (Below.refl _ _) (.cells #[.bool y.1.1, .slice Aq y.1.2.length cq, .int .i64 y.2] 52))
  have ky := box_new (w.alloc (.cells #[.bool x.1.1, .slice Ap x.1.2.length cp, .int .i64 x.2] 52)) #[.bool y.1.1, .slice Aq y.1.2.length cq, .int .i64 y.2] 52
  rw [show (w.alloc (.cells #[.bool x.1.1, .slice Ap x.1.2.length cp, .int .i64 x.2] 52)).heap.size = w.heap.size + 1 by simp] at ky
  go_enter Tryz.func254, Tryz.ntmps254
  go_wp2_with fail
  refine (eqSigned_at _ _ x.1 y.1 _ hz (rdS_below hp hb) (rdS_below hq hb)).mono ?_
  rintro e w1 ⟨rfl, b1⟩
  have bb1 := Below.next hb b1
  replace kx := kx.below b1
  replace ky := ky.below b1
  have cx2 := kx.here.cell 2 _ rfl
  have cy2 := ky.here.cell 2 _ rfl
  clear hp hq kx ky
  by_cases h1 : x.1 = y.1
  · rw [decide_eq_true h1]
    have H1 := Lib.hid h1
    clear h1
    by_cases h2 : x.2 = y.2
    · have HV := Lib.hid (show decide (x = y) = true from decide_eq_true (Prod.ext H1.out h2))
      have hq2 : (x.2 != y.2) = false := by rw [h2]; exact bne_self_eq_false _
      clear h2
      go_wp2
      go_ret
      exact ⟨ret_bool HV.out.symm, bb1⟩
    · have HV := Lib.hid (show decide (x = y) = false from decide_eq_false (fun e => h2 (by rw [e])))
      have hq2 : (x.2 != y.2) = true := by rw [bne_iff_ne]; exact h2
      clear h2
      go_wp2
      go_ret
      exact ⟨ret_bool HV.out.symm, bb1⟩
  · rw [decide_eq_false h1]
    have HV := Lib.hid (show decide (x = y) = false from decide_eq_false (fun e => h1 (by rw [e])))
    clear h1
    go_wp2
    go_ret
    exact ⟨ret_bool HV.out.symm, bb1⟩
set_option maxHeartbeats 400000 in
set_option maxRecDepth 100000 in
theorem szD_cal (v : Value) (x : DI) (left : Int) (w : World) (hl : capD x) (h0 : 0 ≤ left) (h1 : left ≤ 1048576) (h : RdD w v x) : Calls Tryz.prog 247 #[v, .int .i64 left] w (Postn (leftI left (szD x)) w) := by
  obtain ⟨p, rfl, hp⟩ := h
  obtain ⟨Ap, cp, rfl⟩ := row_form hp
  simp only [intsV_length] at hp ⊢
  have hb := below_al (Below.refl w.heap.size w) (.cells #[.bool x.1.1, .slice Ap x.1.2.length cp, .int .i64 x.2] 226)
  have kx := box_new w #[.bool x.1.1, .slice Ap x.1.2.length cp, .int .i64 x.2] 226
  have kx_c0 := kx.here.cell 0 _ rfl
  have kx_c1 := kx.here.cell 1 _ rfl
  go_enter Tryz.func247, Tryz.ntmps247
  go_wp2_with fail
  clear kx_c0 kx_c1 kx
  refine (szSigned_at _ x.1 left _ hl h0 h1 (rdS_below hp hb)).mono ?_
  rintro e w1 ⟨rfl, b1⟩
  have bb1 := Below.next hb b1
  have hq : leftI left (szS x.1) < 0 ∧ leftI left (szS x.1) = -1 ∨ ¬ leftI left (szS x.1) < 0 := by unfold leftI; split <;> omega
  obtain ⟨z, hz⟩ : ∃ z, leftI left (szS x.1) = z := ⟨_, rfl⟩
  have HL := Lib.hid (show leftI left (szD x) = z from hz)
  rw [hz] at hq ⊢
  clear hp hz
  rcases hq with ⟨h2, h3⟩ | h2
  · have hneg : decide (z < 0) = true := decide_eq_true h2
    have H3 := Lib.hid h3
    clear h2 h3
    go_wp2
    go_ret
    exact ⟨ret_int (H3.out.symm.trans HL.out.symm), bb1⟩
  · have hneg : decide (z < 0) = false := decide_eq_false h2
    clear h2
    go_wp2
    go_ret
    exact ⟨ret_int HL.out.symm, bb1⟩
set_option maxHeartbeats 1000000 in
set_option maxRecDepth 100000 in
theorem toD_new (v : Value) (x : DI) (w : World) (hz : szD x ≤ 1048576) (h : RdD w v x) : Calls Tryz.prog 253 #[v] w (NewV (fun u => OwnD u x) w) := by
  have hl := szD_len hz
  obtain ⟨p, rfl, hp⟩ := h
  obtain ⟨Ap, cp, rfl⟩ := row_form hp
  simp only [intsV_length] at hp ⊢
  have h3 := alloc3 w (.cells #[.bool x.1.1, .slice Ap x.1.2.length cp, .int .i64 x.2] 226) (.cells #[.bool false, .slice none 0 0, .int .i64 0] 52) (.cells #[.bool false, .slice none 0 0, .int .i64 0] 52)
  have hb3 := below3 w (.cells #[.bool x.1.1, .slice Ap x.1.2.length cp, .int .i64 x.2] 226) (.cells #[.bool false, .slice none 0 0, .int .i64 0] 52) (.cells #[.bool false, .slice none 0 0, .int .i64 0] 52)
  obtain ⟨W0, hW0⟩ : ∃ W0, W0 = (((w.alloc (.cells #[.bool x.1.1, .slice Ap x.1.2.length cp, .int .i64 x.2] 226)).alloc (.cells #[.bool false, .slice none 0 0, .int .i64 0] 52)).alloc (.cells #[.bool false, .slice none 0 0, .int .i64 0] 52)) := ⟨_, rfl⟩
  rw [← hW0] at h3 hb3
  have kb : At [w.heap.size] (BoxAt w.heap.size #[.bool x.1.1, .slice Ap x.1.2.length cp, .int .i64 x.2] 226) W0 := box_at h3.1
  have kr : At [w.heap.size + 1] (BoxAt (w.heap.size + 1) #[.bool false, .slice none 0 0, .int .i64 0] 52) W0 := box_at h3.2.1
  have ko : At [w.heap.size + 1 + 1] (BoxAt (w.heap.size + 1 + 1) #[.bool false, .slice none 0 0, .int .i64 0] 52) W0 := box_at h3.2.2.1
  have hz0 : W0.heap.size = w.heap.size + 3 := h3.2.2.2
  have HW := Lib.hid hW0
  clear h3 hW0
  have cb0 := kb.here.cell 0 _ rfl
  have cb1 := kb.here.cell 1 _ rfl
  go_enter Tryz.func253, Tryz.ntmps253
  go_wp2_with fail
  rw [← HW.out]
  refine (toSigned_at _ x.1 _ hl (rdS_below hp hb3)).mono ?_
  rintro e w1 ⟨u, rfl, o1, b1⟩
  obtain ⟨Au, cu, rfl⟩ := own_len o1
  have bb1 := Below.next hb3 b1
  replace kb := kb.below b1
  replace kr := kr.below b1
  replace ko := ko.below b1
  have HR := Lib.hid (newV_chg (φ := fun u => OwnD u x) (v := .agg #[.bool x.1.1, .slice Au x.1.2.length cu, .int .i64 x.2]) (T := [w.heap.size + 1, w.heap.size + 1 + 1]) ((own_at' o1).imp fun _ h => (OwnD.mk h : OwnD _ x _)) (fun i hi hm => by have := own_within o1 i hi; simp at hm; omega) (fun i hi => by simp at hi; omega) (fun i hi => by have := own_within o1 i hi; omega) bb1)
  have cb2 := kb.here.cell 2 _ rfl
  have co0 := ko.here.cell 0 _ rfl
  have co1 := ko.here.cell 1 _ rfl
  have co2 := ko.here.cell 2 _ rfl
  have fo0 := Lib.frozen_of_heap ko.here 0
  have fo1 := Lib.frozen_of_heap ko.here 1
  have fo2 := Lib.frozen_of_heap ko.here 2
  have cr0 := kr.here.cell 0 _ rfl
  have cr1 := kr.here.cell 1 _ rfl
  have cr2 := kr.here.cell 2 _ rfl
  have fr0 := Lib.frozen_of_heap kr.here 0
  have fr1 := Lib.frozen_of_heap kr.here 1
  have fr2 := Lib.frozen_of_heap kr.here 2
  clear kb kr ko o1 b1 bb1 hp cb0 cb1
  go_wp2
  refine bodyPost_ret (v := .agg #[.bool x.1.1, .slice Au x.1.2.length cu, .int .i64 x.2]) (by simp [results, Tryz.results253, go_sem, cr0, cr1, cr2]) rfl ?_
  exact HR.out _ ((((((Chg.refl _ _).setCell (by simp) _).setCell (by simp) _).setCell (by simp) _).setCell (by simp) _).setCell (by simp) _ |>.setCell (by simp) _)
end Go.Proofs.YtehkknphcflofaaGreatDoor

namespace Go.Proofs.YtehkknphcflofaaGreatDoor
open Go.RowKit

theorem okM_parts {m : MI} (h : okM m = true) : knownC m.1 = true ∧ okS m.2 = true ∧ m.2.2.length ≤ 4 := by
  unfold okM at h
  rw [Bool.and_eq_true, Bool.and_eq_true, decide_eq_true_eq] at h
  exact ⟨h.1.1, h.1.2, h.2⟩
theorem okM_size {m : MI} (h : okM m = true) : m.1.size ≤ 3 := by
  obtain ⟨r, hr, e, _⟩ := known_row (okM_parts h).1
  rw [← e]
  have h : (specT.all fun r => decide (r.1.size ≤ 3)) = true := by decide +kernel
  exact of_decide_eq_true (List.all_eq_true.1 h r hr)
end Go.Proofs.YtehkknphcflofaaGreatDoor

namespace Go.Proofs.YtehkknphcflofaaGreatDoor
open Go.RowKit

abbrev EI : Type := ByteArray × ByteArray × DI
def szE (r : EI) : Int := r.1.size + r.2.1.size + szD r.2.2
def okE (r : EI) : Bool := knownC r.1 && (knownC r.2.1 && (decide (¬ r.1 = r.2.1) && (okD r.2.2 && (decide (0 < cmpS r.2.2.1 zeroS) && decide (r.2.2.1.2.length ≤ 2)))))
theorem okE_parts {r : EI} (h : okE r = true) : knownC r.1 = true ∧ knownC r.2.1 = true ∧ ¬ r.1 = r.2.1 ∧ okD r.2.2 = true ∧ 0 < cmpS r.2.2.1 zeroS ∧ r.2.2.1.2.length ≤ 2 := by
  unfold okE at h
  rw [Bool.and_eq_true, Bool.and_eq_true, Bool.and_eq_true, Bool.and_eq_true, Bool.and_eq_true, decide_eq_true_eq, decide_eq_true_eq, decide_eq_true_eq] at h
  exact h
/-- a table: its pivot and its list -/
abbrev TI : Type := ByteArray × List EI
/-- where the rate of a pair stands, or the list's length -/
def atE (l : List EI) (a b : ByteArray) : Nat := l.findIdx fun r => decide (r.1 = a) && decide (r.2.1 = b)
/-- the same, as spec answers it: -1 for none -/
def posE (l : List EI) (a b : ByteArray) : Int := if atE l a b < l.length then atE l a b else -1
def okT (t : TI) : Bool := knownC t.1 && (decide (t.2.length ≤ 12) && (List.range t.2.length).all fun i => match t.2[i]? with
  | some r => okE r && decide (posE t.2 r.1 r.2.1 = i)
  | none => true)
/-- how one step goes: 2 stored, 3 the other way round, 0 not at all -/
def legT (l : List EI) (a b : ByteArray) : Int := if 0 ≤ posE l a b then 2 else if 0 ≤ posE l b a then 3 else 0
def howT (t : TI) (a b : ByteArray) : Int :=
  if okT t = true ∧ knownC a = true ∧ knownC b = true then
    (if a = b then 1 else if legT t.2 a b ≠ 0 then legT t.2 a b
     else if ¬ a = t.1 ∧ ¬ b = t.1 ∧ legT t.2 a t.1 ≠ 0 ∧ legT t.2 t.1 b ≠ 0 then 4 else 0)
  else 0
theorem atE_next {l : List EI} {a b : ByteArray} {k : Nat} {x : EI} (hk : k ≤ atE l a b) (hx : l[k]? = some x) (hn : ¬ (x.1 = a ∧ x.2.1 = b)) : k + 1 ≤ atE l a b := by
  obtain ⟨h1, h2⟩ := List.getElem?_eq_some_iff.1 hx
  rcases Nat.lt_or_eq_of_le hk with h | h
  · exact h
  · exfalso
    have hw : l.findIdx (fun r => decide (r.1 = a) && decide (r.2.1 = b)) < l.length := by show atE l a b < _; omega
    have hp := List.findIdx_getElem (w := hw)
    have he : l[l.findIdx (fun r => decide (r.1 = a) && decide (r.2.1 = b))]? = some x := by rw [← hx]; congr 1; exact h.symm
    rw [(List.getElem?_eq_some_iff.1 he).2] at hp
    simp at hp
    exact hn hp
theorem posE_hit {l : List EI} {a b : ByteArray} {k : Nat} {x : EI} (hk : k ≤ atE l a b) (hx : l[k]? = some x) (hn : x.1 = a ∧ x.2.1 = b) : posE l a b = k := by
  obtain ⟨h1, h2⟩ := List.getElem?_eq_some_iff.1 hx
  rcases Nat.lt_or_eq_of_le hk with h | h
  · exfalso
    have hp := List.not_of_lt_findIdx (xs := l) (p := fun r => decide (r.1 = a) && decide (r.2.1 = b)) h
    rw [h2] at hp
    simp at hp
    exact hp hn.1 hn.2
  · unfold posE
    rw [← h, if_pos h1]
theorem posE_none {l : List EI} {a b : ByteArray} (hk : l.length ≤ atE l a b) : posE l a b = -1 := by
  unfold posE
  rw [if_neg (by omega)]
theorem posE_at {l : List EI} {a b : ByteArray} (h : 0 ≤ posE l a b) : ∃ (n : Nat) (x : EI), posE l a b = n ∧ l[n]? = some x ∧ atE l a b = n := by
  unfold posE at h ⊢
  split at h
  · rename_i hn
    rw [if_pos hn]
    exact ⟨_, _, rfl, List.getElem?_eq_getElem hn, rfl⟩
  · omega
/-- what RatesOk asks of the element at i -/
def rowT (l : List EI) (i : Nat) : Bool := match l[i]? with
  | some r => okE r && decide (posE l r.1 r.2.1 = i)
  | none => true
theorem rowT_at {l : List EI} {i : Nat} {x : EI} (h : l[i]? = some x) : rowT l i = (okE x && decide (posE l x.1 x.2.1 = i)) := by unfold rowT; rw [h]
theorem okT_rows (t : TI) : okT t = (knownC t.1 && (decide (t.2.length ≤ 12) && (List.range t.2.length).all (rowT t.2))) := rfl
theorem rows_next {l : List EI} {k : Nat} (h : (List.range k).all (rowT l) = true) (hk : rowT l k = true) : (List.range (k + 1)).all (rowT l) = true := by
  rw [List.range_succ, List.all_append, h]
  simp [hk]
theorem rows_bad {l : List EI} {k : Nat} (hl : k < l.length) (hk : ¬ rowT l k = true) : (List.range l.length).all (rowT l) = false := by
  rw [Bool.eq_false_iff]
  intro h
  exact hk (List.all_eq_true.1 h k (List.mem_range.2 hl))
end Go.Proofs.YtehkknphcflofaaGreatDoor

namespace Go.Proofs.YtehkknphcflofaaGreatDoor
open Go.RowKit

/-- a value that stands for it, its limbs of the call's own -/
def OwnE (v : Value) (q : EI) (w : World) : Prop := ∃ u, v = .agg #[.string q.1, .string q.2.1, .bool q.2.2.1.1, u, .int .i64 q.2.2.2] ∧ OwnI u q.2.2.1.2 w
/-- a value that reads as it -/
def RdE (w : World) (v : Value) (q : EI) : Prop := ∃ u, v = .agg #[.string q.1, .string q.2.1, .bool q.2.2.1.1, u, .int .i64 q.2.2.2] ∧ Row w 0 w.heap.size u (intsV q.2.2.1.2)
theorem OwnE.rd {v : Value} {q : EI} {w : World} (h : OwnE v q w) : RdE w v q := by
  obtain ⟨u, rfl, o⟩ := h
  exact ⟨u, rfl, o.row⟩
theorem OwnE.mk {u : Value} {q : EI} {w : World} (h : OwnI u q.2.2.1.2 w) : OwnE (.agg #[.string q.1, .string q.2.1, .bool q.2.2.1.1, u, .int .i64 q.2.2.2]) q w := ⟨u, rfl, h⟩
theorem OwnE.below {w W : World} {v : Value} {q : EI} (h : OwnE v q w) (hb : Below w.heap.size w W) : OwnE v q W := by
  obtain ⟨u, rfl, o⟩ := h
  exact ⟨u, rfl, own_below o hb⟩
theorem RdE.below {w W : World} {v : Value} {q : EI} (h : RdE w v q) (hb : Below w.heap.size w W) : RdE W v q := by
  obtain ⟨u, rfl, o⟩ := h
  exact ⟨u, rfl, (o.below hb (Nat.le_refl _)).wide (Nat.le_refl _) hb.size⟩
def capE (q : EI) : Prop := q.1.size ≤ 9223372036854775807 ∧ q.2.1.size ≤ 9223372036854775807 ∧ q.2.2.1.2.length ≤ 9223372036854775807
theorem szE_nonneg (q : EI) : 0 ≤ szE q := by have := szD_nonneg q.2.2; unfold szE; omega
theorem szE_len {q : EI} (h : szE q ≤ 1048576) : q.1.size ≤ 1048576 ∧ q.2.1.size ≤ 1048576 ∧ q.2.2.1.2.length ≤ 1048576 := by
  have h0 := szD_nonneg q.2.2
  unfold szE at h
  exact ⟨by omega, by omega, szD_len (by omega)⟩
theorem capE_of {q : EI} (h : szE q ≤ 1048576) : capE q := by have := szE_len h; unfold capE; omega
theorem ownE_form {v : Value} {q : EI} {w : World} (h : OwnE v q w) : ∃ A c, v = .agg #[.string q.1, .string q.2.1, .bool q.2.2.1.1, .slice A q.2.2.1.2.length c, .int .i64 q.2.2.2] := by
  obtain ⟨u, rfl, o⟩ := h
  obtain ⟨A, c, rfl⟩ := own_len o
  exact ⟨A, c, rfl⟩
theorem rdE_form {v : Value} {q : EI} {w : World} (h : RdE w v q) : ∃ A c, v = .agg #[.string q.1, .string q.2.1, .bool q.2.2.1.1, .slice A q.2.2.1.2.length c, .int .i64 q.2.2.2] := by
  obtain ⟨u, rfl, o⟩ := h
  obtain ⟨A, c, rfl⟩ := row_form o
  rw [intsV_length]
  exact ⟨A, c, rfl⟩
theorem ownE_open {u c s n k : Value} {q : EI} {w : World} (h : OwnE (.agg #[c, s, n, u, k]) q w) : OwnI u q.2.2.1.2 w := by
  obtain ⟨u', e, hu⟩ := h
  injection e with e
  simp at e
  obtain ⟨_, _, _, e2, _⟩ := e
  subst e2
  exact hu
set_option maxHeartbeats 1000000 in
set_option maxRecDepth 100000 in
theorem eqE_cal (u v : Value) (x y : EI) (w : World) (hz : capE x) (hu : RdE w u x) (hv : RdE w v y) : Calls Tryz.prog 197 #[u, v] w (Postb (decide (x = y)) w) := by
  obtain ⟨p, rfl, hp⟩ := hu
  obtain ⟨q, rfl, hq⟩ := hv
  obtain ⟨Ap, cp, rfl⟩ := row_form hp
  obtain ⟨Aq, cq, rfl⟩ := row_form hq
  simp only [intsV_length] at hp hq ⊢
  have hb : Below w.heap.size w ((w.alloc (.cells #[.string x.1, .string x.2.1, .bool x.2.2.1.1, .slice Ap x.2.2.1.2.length cp, .int .i64 x.2.2.2] 54)).alloc (.cells #[.string y.1, .string y.2.1, .bool y.2.2.1.1, .slice Aq y.2.2.1.2.length cq, .int .i64 y.2.2.2] 54)) := below_al (below_al (Below.refl _ _) _) _
  have kx := (box_new w #[.string x.1, .string x.2.1, .bool x.2.2.1.1, .slice Ap x.2.2.1.2.length cp, .int .i64 x.2.2.2] 54).below (below_al (Below.refl _ _) (.cells #[.string y.1, .string y.2.1, .bool y.2.2.1.1, .slice Aq y.2.2.1.2.length cq, .int .i64 y.2.2.2] 54))
  have ky := box_new (w.alloc (.cells #[.string x.1, .string x.2.1, .bool x.2.2.1.1, .slice Ap x.2.2.1.2.length cp, .int .i64 x.2.2.2] 54)) #[.string y.1, .string y.2.1, .bool y.2.2.1.1, .slice Aq y.2.2.1.2.length cq, .int .i64 y.2.2.2] 54
  rw [show (w.alloc (.cells #[.string x.1, .string x.2.1, .bool x.2.2.1.1, .slice Ap x.2.2.1.2.length cp, .int .i64 x.2.2.2] 54)).heap.size = w.heap.size + 1 by simp] at ky
  have kx_c0 := kx.here.cell 0 _ rfl
  have kx_c1 := kx.here.cell 1 _ rfl
  have kx_c2 := kx.here.cell 2 _ rfl
  have kx_c3 := kx.here.cell 3 _ rfl
  have kx_c4 := kx.here.cell 4 _ rfl
  have ky_c0 := ky.here.cell 0 _ rfl
  have ky_c1 := ky.here.cell 1 _ rfl
  have ky_c2 := ky.here.cell 2 _ rfl
  have ky_c3 := ky.here.cell 3 _ rfl
  have ky_c4 := ky.here.cell 4 _ rfl
  have HE := Lib.hid (eqD_cal (.agg #[.bool x.2.2.1.1, .slice Ap x.2.2.1.2.length cp, .int .i64 x.2.2.2]) (.agg #[.bool y.2.2.1.1, .slice Aq y.2.2.1.2.length cq, .int .i64 y.2.2.2]) x.2.2 y.2.2 _ hz.2.2 (RdD.below ⟨_, rfl, hp⟩ hb) (RdD.below ⟨_, rfl, hq⟩ hb))
  have HB := Lib.hid hb
  clear kx ky hp hq hb hz
  by_cases h1 : x.1 = y.1
  · by_cases h2 : x.2.1 = y.2.1
    · have HV := Lib.hid (show decide (x = y) = decide (x.2.2 = y.2.2) from decide_eq_decide.2 ⟨fun e => by rw [e], fun e => Prod.ext h1 (Prod.ext h2 e)⟩)
      rw [← h1] at ky_c0 HE HB
      rw [← h2] at ky_c1 HE HB
      have H1 := Lib.hid h1
      have H2 := Lib.hid h2
      clear h1 h2
      go_enter Tryz.func197, Tryz.ntmps197
      rw [← H1.out, ← H2.out]
      go_wp2_with fail
      refine HE.out.mono ?_
      rintro e w1 ⟨rfl, b1⟩
      have bb1 := Lib.hid (Below.next HB.out b1)
      clear kx_c0 kx_c1 kx_c2 kx_c3 kx_c4 ky_c0 ky_c1 ky_c2 ky_c3 ky_c4 b1
      by_cases h3 : x.2.2 = y.2.2
      · rw [decide_eq_true h3] at HV ⊢
        clear h3
        go_wp2
        go_ret
        exact ⟨ret_bool HV.out.symm, bb1.out⟩
      · rw [decide_eq_false h3] at HV ⊢
        clear h3
        go_wp2
        go_ret
        exact ⟨ret_bool HV.out.symm, bb1.out⟩
    · have hne := bytes_neC h2
      have hne2 : (x.2.1.toList != y.2.1.toList) = true := by rw [bne, hne]; rfl
      have HV := Lib.hid (show decide (x = y) = false from decide_eq_false (fun e => h2 (by rw [e])))
      rw [← h1] at ky_c0 HB
      have H1 := Lib.hid h1
      clear h1 h2 HE
      go_enter Tryz.func197, Tryz.ntmps197
      rw [← H1.out]
      go_wp2
      go_ret
      exact ⟨ret_bool HV.out.symm, HB.out⟩
  · have hne := bytes_neC h1
    have hne2 : (x.1.toList != y.1.toList) = true := by rw [bne, hne]; rfl
    have HV := Lib.hid (show decide (x = y) = false from decide_eq_false (fun e => h1 (by rw [e])))
    clear h1 HE
    go_enter Tryz.func197, Tryz.ntmps197
    go_wp2
    go_ret
    exact ⟨ret_bool HV.out.symm, HB.out⟩
set_option maxHeartbeats 1000000 in
set_option maxRecDepth 100000 in
theorem szE_cal (v : Value) (x : EI) (left : Int) (w : World) (hl : capE x) (h0 : 0 ≤ left) (h1 : left ≤ 1048576) (h : RdE w v x) : Calls Tryz.prog 189 #[v, .int .i64 left] w (Postn (leftI left (szE x)) w) := by
  obtain ⟨p, rfl, hp⟩ := h
  obtain ⟨Ap, cp, rfl⟩ := row_form hp
  simp only [intsV_length] at hp ⊢
  have hb := below_al (Below.refl w.heap.size w) (.cells #[.string x.1, .string x.2.1, .bool x.2.2.1.1, .slice Ap x.2.2.1.2.length cp, .int .i64 x.2.2.2] 228)
  have kx := box_new w #[.string x.1, .string x.2.1, .bool x.2.2.1.1, .slice Ap x.2.2.1.2.length cp, .int .i64 x.2.2.2] 228
  have kx_c0 := kx.here.cell 0 _ rfl
  have kx_c1 := kx.here.cell 1 _ rfl
  have kx_c2 := kx.here.cell 2 _ rfl
  have kx_c3 := kx.here.cell 3 _ rfl
  have kx_c4 := kx.here.cell 4 _ rfl
  obtain ⟨hl1, hl2, hl3⟩ := hl
  have hd0 := szD_nonneg x.2.2
  have HSD := Lib.hid (fun (z : Int) (hz0 : 0 ≤ z) (hz1 : z ≤ 1048576) => szD_cal (.agg #[.bool x.2.2.1.1, .slice Ap x.2.2.1.2.length cp, .int .i64 x.2.2.2]) x.2.2 z _ hl3 hz0 hz1 (RdD.below ⟨_, rfl, hp⟩ hb))
  by_cases hs : left - x.1.size < 0
  · have HV := Lib.hid (show leftI left (szE x) = -1 by unfold leftI szE; rw [if_pos (by omega)])
    have hw : IntKind.i64.wrap (left - (x.1.size : Int)) = left - x.1.size := IntWalk.i64_in _ (by omega)
    have hneg : decide (left - (x.1.size : Int) < 0) = true := decide_eq_true hs
    clear hs kx HSD
    go_enter Tryz.func189, Tryz.ntmps189
    go_wp2
    go_ret
    exact ⟨ret_int HV.out.symm, hb⟩
  · obtain ⟨z0, hz0⟩ : ∃ z0 : Int, left - x.1.size = z0 := ⟨_, rfl⟩
    have hw : IntKind.i64.wrap (left - (x.1.size : Int)) = z0 := by rw [IntWalk.i64_in _ (by omega)]; exact hz0
    have hneg0 : decide (z0 < 0) = false := decide_eq_false (by omega)
    have HZ := Lib.hid (show 0 ≤ z0 ∧ z0 ≤ 1048576 by omega)
    by_cases hs2 : z0 - x.2.1.size < 0
    · have HV := Lib.hid (show leftI left (szE x) = -1 by unfold leftI szE; rw [if_pos (by omega)])
      have hw2 : IntKind.i64.wrap (z0 - (x.2.1.size : Int)) = z0 - x.2.1.size := IntWalk.i64_in _ (by omega)
      have hneg : decide (z0 - (x.2.1.size : Int) < 0) = true := decide_eq_true hs2
      clear hs hs2 hz0 kx HSD
      go_enter Tryz.func189, Tryz.ntmps189
      go_wp2
      go_ret
      exact ⟨ret_int HV.out.symm, hb⟩
    · obtain ⟨z1, hz1⟩ : ∃ z1 : Int, z0 - x.2.1.size = z1 := ⟨_, rfl⟩
      have hw2 : IntKind.i64.wrap (z0 - (x.2.1.size : Int)) = z1 := by rw [IntWalk.i64_in _ (by omega)]; exact hz1
      have hneg1 : decide (z1 < 0) = false := decide_eq_false (by omega)
      have HZ1 := Lib.hid (show 0 ≤ z1 ∧ z1 ≤ 1048576 by omega)
      have HLL := Lib.hid (show leftI left (szE x) = leftI z1 (szD x.2.2) by unfold leftI szE; rw [show left - ((x.1.size : Int) + x.2.1.size + szD x.2.2) = z1 - szD x.2.2 by omega])
      clear hs hs2 hz0 hz1
      go_enter Tryz.func189, Tryz.ntmps189
      go_wp2_with fail
      clear kx_c0 kx_c1 kx_c2 kx_c3 kx_c4 kx
      refine (HSD.out z1 HZ1.out.1 HZ1.out.2).mono ?_
      rintro e w1 ⟨rfl, b1⟩
      have bb1 := Lib.hid (Below.next hb b1)
      have hq : leftI z1 (szD x.2.2) < 0 ∧ leftI z1 (szD x.2.2) = -1 ∨ ¬ leftI z1 (szD x.2.2) < 0 := by unfold leftI; split <;> omega
      generalize leftI z1 (szD x.2.2) = z at *
      clear hp hb b1 HZ HZ1 HSD
      rcases hq with ⟨h2, h3⟩ | h2
      · have hneg : decide (z < 0) = true := decide_eq_true h2
        have H3 := Lib.hid h3
        clear h2 h3
        go_wp2
        go_ret
        exact ⟨ret_int (H3.out.symm.trans HLL.out.symm), bb1.out⟩
      · have hneg : decide (z < 0) = false := decide_eq_false h2
        clear h2
        go_wp2
        go_ret
        exact ⟨ret_int HLL.out.symm, bb1.out⟩
set_option maxHeartbeats 2000000 in
set_option maxRecDepth 100000 in
theorem toE_new (v : Value) (x : EI) (w : World) (hz : szE x ≤ 1048576) (h : RdE w v x) : Calls Tryz.prog 196 #[v] w (NewV (fun u => OwnE u x) w) := by
  have hl : szD x.2.2 ≤ 1048576 := by have := szD_nonneg x.2.2; unfold szE at hz; omega
  obtain ⟨p, rfl, hp⟩ := h
  obtain ⟨Ap, cp, rfl⟩ := row_form hp
  simp only [intsV_length] at hp ⊢
  have h3 := alloc3 w (.cells #[.string x.1, .string x.2.1, .bool x.2.2.1.1, .slice Ap x.2.2.1.2.length cp, .int .i64 x.2.2.2] 228) (.cells #[.string ⟨#[]⟩, .string ⟨#[]⟩, .bool false, .slice none 0 0, .int .i64 0] 54) (.cells #[.string x.1, .string x.2.1, .bool false, .slice none 0 0, .int .i64 0] 54)
  have hb3 := below3 w (.cells #[.string x.1, .string x.2.1, .bool x.2.2.1.1, .slice Ap x.2.2.1.2.length cp, .int .i64 x.2.2.2] 228) (.cells #[.string ⟨#[]⟩, .string ⟨#[]⟩, .bool false, .slice none 0 0, .int .i64 0] 54) (.cells #[.string x.1, .string x.2.1, .bool false, .slice none 0 0, .int .i64 0] 54)
  obtain ⟨W0, hW0⟩ : ∃ W0, W0 = (((w.alloc (.cells #[.string x.1, .string x.2.1, .bool x.2.2.1.1, .slice Ap x.2.2.1.2.length cp, .int .i64 x.2.2.2] 228)).alloc (.cells #[.string ⟨#[]⟩, .string ⟨#[]⟩, .bool false, .slice none 0 0, .int .i64 0] 54)).alloc (.cells #[.string x.1, .string x.2.1, .bool false, .slice none 0 0, .int .i64 0] 54)) := ⟨_, rfl⟩
  rw [← hW0] at h3 hb3
  have kb : At [w.heap.size] (BoxAt w.heap.size #[.string x.1, .string x.2.1, .bool x.2.2.1.1, .slice Ap x.2.2.1.2.length cp, .int .i64 x.2.2.2] 228) W0 := box_at h3.1
  have kr : At [w.heap.size + 1] (BoxAt (w.heap.size + 1) #[.string ⟨#[]⟩, .string ⟨#[]⟩, .bool false, .slice none 0 0, .int .i64 0] 54) W0 := box_at h3.2.1
  have ko : At [w.heap.size + 1 + 1] (BoxAt (w.heap.size + 1 + 1) #[.string x.1, .string x.2.1, .bool false, .slice none 0 0, .int .i64 0] 54) W0 := box_at h3.2.2.1
  have hz0 : W0.heap.size = w.heap.size + 3 := h3.2.2.2
  have HW := Lib.hid hW0
  clear h3 hW0
  have kb_c0 := kb.here.cell 0 _ rfl
  have kb_c1 := kb.here.cell 1 _ rfl
  have kb_c2 := kb.here.cell 2 _ rfl
  have kb_c3 := kb.here.cell 3 _ rfl
  have kb_c4 := kb.here.cell 4 _ rfl
  go_enter Tryz.func196, Tryz.ntmps196
  go_wp2_with fail
  rw [← HW.out]
  refine (toD_new (.agg #[.bool x.2.2.1.1, .slice Ap x.2.2.1.2.length cp, .int .i64 x.2.2.2]) x.2.2 _ hl (RdD.below ⟨_, rfl, hp⟩ hb3)).mono ?_
  rintro e w1 ⟨u, Su, rfl, o1, l1, b1⟩
  obtain ⟨Au, cu, rfl⟩ := ownD_form o1.here
  have bb1 := Below.next hb3 b1
  replace kb := kb.below b1
  replace kr := kr.below b1
  replace ko := ko.below b1
  have HR := Lib.hid (newV_chgM (φ := fun u => OwnE u x) (v := .agg #[.string x.1, .string x.2.1, .bool x.2.2.1.1, .slice Au x.2.2.1.2.length cu, .int .i64 x.2.2.2]) (T := [w.heap.size + 1, w.heap.size + 1 + 1]) (o1.imp fun _ h => (OwnE.mk (ownD_open h) : OwnE _ x _)) (fun i hi hm => by have := (l1 i hi).1; simp at hm; omega) (fun i hi => by simp at hi; omega) (fun i hi => by have := (l1 i hi).1; omega) bb1)
  have ko_c0 := ko.here.cell 0 _ rfl
  have ko_c1 := ko.here.cell 1 _ rfl
  have ko_c2 := ko.here.cell 2 _ rfl
  have ko_c3 := ko.here.cell 3 _ rfl
  have ko_c4 := ko.here.cell 4 _ rfl
  have ko_f0 := Lib.frozen_of_heap ko.here 0
  have ko_f1 := Lib.frozen_of_heap ko.here 1
  have ko_f2 := Lib.frozen_of_heap ko.here 2
  have ko_f3 := Lib.frozen_of_heap ko.here 3
  have ko_f4 := Lib.frozen_of_heap ko.here 4
  have kr_c0 := kr.here.cell 0 _ rfl
  have kr_c1 := kr.here.cell 1 _ rfl
  have kr_c2 := kr.here.cell 2 _ rfl
  have kr_c3 := kr.here.cell 3 _ rfl
  have kr_c4 := kr.here.cell 4 _ rfl
  have kr_f0 := Lib.frozen_of_heap kr.here 0
  have kr_f1 := Lib.frozen_of_heap kr.here 1
  have kr_f2 := Lib.frozen_of_heap kr.here 2
  have kr_f3 := Lib.frozen_of_heap kr.here 3
  have kr_f4 := Lib.frozen_of_heap kr.here 4
  clear kb kr ko o1 b1 bb1 hp kb_c0 kb_c1 kb_c2 kb_c3 kb_c4
  go_wp2
  refine bodyPost_ret (v := .agg #[.string x.1, .string x.2.1, .bool x.2.2.1.1, .slice Au x.2.2.1.2.length cu, .int .i64 x.2.2.2]) (by simp [results, Tryz.results196, go_sem, kr_c0, kr_c1, kr_c2, kr_c3, kr_c4]) rfl ?_
  refine HR.out _ ?_
  repeat (first | with_reducible exact Chg.refl _ _ | with_reducible refine Chg.setCell ?_ (by simp) _)
end Go.Proofs.YtehkknphcflofaaGreatDoor

namespace Go.Proofs.YtehkknphcflofaaGreatDoor
open Go.RowKit

/-- the decimal digits of k ahead of acc, at most f of them -/
def digGo : Nat → Nat → List UInt8 → List UInt8
  | 0, _, acc => acc
  | f + 1, k, acc => if k = 0 then acc else digGo f (k / 10) ((48 + UInt8.ofNat (k % 10)) :: acc)
def markB (k : Int) : ByteArray := if k ≤ 0 then ⟨#[109, 48]⟩ else ⟨(109 :: digGo 19 k.toNat []).toArray⟩

theorem digGo_step {f m : Nat} {acc : List UInt8} {D : List UInt8} (h : digGo f m acc = D ∧ m < 10 ^ f) (hm : 0 < m) : ∃ g, f = g + 1 ∧ digGo g (m / 10) ((48 + UInt8.ofNat (m % 10)) :: acc) = D ∧ m / 10 < 10 ^ g := by
  cases f with
  | zero => have := h.2; simp at this; omega
  | succ g =>
    refine ⟨g, rfl, ?_, ?_⟩
    · rw [← h.1, digGo, if_neg (by omega)]
    · have := h.2; rw [Nat.pow_succ] at this; omega
theorem digGo_zero (f : Nat) (acc : List UInt8) : digGo f 0 acc = acc := by cases f <;> simp [digGo]
theorem push_one (c : UInt8) (acc : List UInt8) : (⟨#[c]⟩ : ByteArray) ++ ⟨acc.toArray⟩ = ⟨(c :: acc).toArray⟩ := by
  apply ByteArray.ext
  simp
theorem mark_done {n m f : Nat} {acc : List UInt8} (h0 : 0 < (n : Int)) (hz : ¬ 0 < m) (h : digGo f m acc = digGo 19 n [] ∧ m < 10 ^ f) : (⟨#[109]⟩ : ByteArray) ++ ⟨acc.toArray⟩ = markB n := by
  obtain rfl : m = 0 := by omega
  rw [markB, if_neg (by omega), push_one, Int.toNat_natCast, ← h.1, digGo_zero]

/-- string([]byte{c}) -/
theorem conv_byte (W : World) (c : Int) : (convert 22 9 (.slice (some ⟨W.heap.size, 0, none⟩) 1 1)).run Tryz.prog (W.alloc (.cells #[.int .u8 c] 5)) = .ok (.string ⟨#[UInt8.ofNat c.toNat]⟩) (W.alloc (.cells #[.int .u8 c] 5)) := by
  rw [run_convert_bytes_string _ 22 9 5 _ _ _ Tryz.underlying22 Tryz.underlying5 Tryz.underlying9]
  rw [run_bytesToString _ _ 1 1 [c] ?_]
  · rfl
  · simp [loadCells, go_sem]

set_option maxHeartbeats 400000 in
set_option maxRecDepth 100000 in
theorem markText_any (k : Int) (w : World) (hk : k ≤ 9223372036854775807) :
    Calls Tryz.prog 135 #[.int .i64 k] w fun e w' => e = .returned (.string (markB k)) ∧ Below w.heap.size w w' := by
  by_cases h0 : k ≤ 0
  · go_enter Tryz.func135, Tryz.ntmps135
    go_wp2
    go_ret
    exact ⟨ret_str (by rw [markB, if_pos h0]), Below.refl _ _⟩
  · obtain ⟨n, rfl⟩ := Int.eq_ofNat_of_zero_le (show 0 ≤ k by omega)
    have hcv := conv_byte
    go_enter Tryz.func135, Tryz.ntmps135
    go_wp2
    go_loopw [0, 3] (fun a o wr => ∃ (m f : Nat) (acc : List UInt8), m ≤ 9223372036854775807 ∧ acc.length + f ≤ 19 ∧ a = .int .i64 m ∧ o = .string ⟨acc.toArray⟩ ∧ Hid (digGo f m acc = digGo 19 n [] ∧ m < 10 ^ f) ∧ Below w.heap.size w wr) (fun a _ _ => (intOf a).toNat)
    case atStart => exact ⟨n, 19, [], by omega, by simp, rfl, rfl, Lib.hid ⟨rfl, by omega⟩, Below.refl _ _⟩
    case round =>
      obtain ⟨m, f, acc, hm, hf, rfl, rfl, HD, hb⟩ := hrel
      by_cases hz : 0 < m
      · obtain ⟨g, rfl, h1, h2⟩ := digGo_step HD.out hz
        have H1 := Lib.hid (And.intro h1 h2)
        clear h1 h2 HD
        go_wp2
        go_roundw
        case rel => exact ⟨m / 10, g, _, by omega, by simp; omega, by go_num, by rw [push_one], H1, hb.alloc hb.size _⟩
        case measure => simp [intOf]; omega
      · go_wp2
        go_ret
        exact ⟨ret_str (mark_done (by omega) hz HD.out), hb⟩
end Go.Proofs.YtehkknphcflofaaGreatDoor

namespace Go.Proofs.YtehkknphcflofaaGreatDoor
open Go.RowKit

/-- a slice that reads as these, an element 5 cells -/
def RdEL (w : World) (v : Value) (l : List EI) : Prop :=
  ∃ A c, v = .slice A l.length c ∧ ∀ (j : Nat) x, l[j]? = some x → ∃ a u, A = some a ∧ a.block < w.heap.size ∧ w.cell? (a.add (j * 5)) = some (.string x.1) ∧ w.cell? ⟨(a.add (j * 5)).block, (a.add (j * 5)).off + 1, none⟩ = some (.string x.2.1) ∧ w.cell? ⟨(a.add (j * 5)).block, (a.add (j * 5)).off + 2, none⟩ = some (.bool x.2.2.1.1) ∧ w.cell? ⟨(a.add (j * 5)).block, (a.add (j * 5)).off + 3, none⟩ = some u ∧ w.cell? ⟨(a.add (j * 5)).block, (a.add (j * 5)).off + 4, none⟩ = some (.int .i64 x.2.2.2) ∧ Row w 0 w.heap.size u (intsV x.2.2.1.2)
theorem cell_keep5 {w w' : World} {a : Addr} (hb : Below w.heap.size w w') (h : a.block < w.heap.size) (j i : Nat) : w'.cell? ⟨(a.add (j * 5)).block, (a.add (j * 5)).off + i, none⟩ = w.cell? ⟨(a.add (j * 5)).block, (a.add (j * 5)).off + i, none⟩ :=
  hb.cell (by show (a.add (j * 5)).block < _; rw [block_add]; exact h)
theorem cell_keep5' {w w' : World} {a : Addr} (hb : Below w.heap.size w w') (h : a.block < w.heap.size) (j : Nat) : w'.cell? (a.add (j * 5)) = w.cell? (a.add (j * 5)) := hb.cell (by rw [block_add]; exact h)
theorem RdEL.below {w w' : World} {v : Value} {l : List EI} (h : RdEL w v l) (hb : Below w.heap.size w w') : RdEL w' v l := by
  obtain ⟨A, c, rfl, h⟩ := h
  refine ⟨A, c, rfl, fun j x hj => ?_⟩
  obtain ⟨a, u, rfl, h1, h2, h3, h4, h5, h6, hr⟩ := h j x hj
  exact ⟨a, u, rfl, Nat.lt_of_lt_of_le h1 hb.size, (cell_keep5' hb h1 j).trans h2, (cell_keep5 hb h1 j 1).trans h3, (cell_keep5 hb h1 j 2).trans h4, (cell_keep5 hb h1 j 3).trans h5, (cell_keep5 hb h1 j 4).trans h6, (hr.below hb (Nat.le_refl _)).wide (Nat.le_refl _) hb.size⟩
/-- how much there is to read -/
def szEL : List EI → Int
  | [] => 0
  | x :: l => szE x + szEL l
theorem szEL_nonneg (l : List EI) : 0 ≤ szEL l := by
  induction l with
  | nil => exact Int.le_refl _
  | cons x l ih => show 0 ≤ szE x + szEL l; have := szE_nonneg x; omega
theorem szEL_append (l r : List EI) : szEL (l ++ r) = szEL l + szEL r := by
  induction l with
  | nil => show szEL r = 0 + szEL r; omega
  | cons x l ih => show szE x + szEL (l ++ r) = szE x + szEL l + szEL r; rw [ih]; omega
theorem szEL_take {l : List EI} {j : Nat} {x : EI} (h : l[j]? = some x) : szEL (l.take (j + 1)) = szEL (l.take j) + szE x := by
  have hj := (List.getElem?_eq_some_iff.1 h).1
  have e : l[j] = x := (List.getElem?_eq_some_iff.1 h).2
  rw [List.take_succ_eq_append_getElem hj, szEL_append, e]
  show _ + (szE x + 0) = _
  omega
theorem szEL_take_le (l : List EI) (j : Nat) : szEL (l.take j) ≤ szEL l := by
  have := szEL_append (l.take j) (l.drop j)
  rw [List.take_append_drop] at this
  have := szEL_nonneg (l.drop j)
  omega
theorem szEL_mem {l : List EI} {x : EI} (h : x ∈ l) : szE x ≤ szEL l := by
  induction l with
  | nil => exact absurd h List.not_mem_nil
  | cons y l ih =>
    show szE x ≤ szE y + szEL l
    have h1 := szE_nonneg y
    have h2 := szEL_nonneg l
    rcases List.mem_cons.1 h with rfl | h
    · omega
    · have := ih h
      omega
set_option maxHeartbeats 2000000 in
set_option maxRecDepth 100000 in
theorem szRateS_any (v : Value) (l : List EI) (left : Int) (w : World) (hl : l.length ≤ 9223372036854775807) (hx : ∀ x ∈ l, capE x) (h0 : 0 ≤ left) (h1 : left ≤ 1048576) (h : RdEL w v l) :
    Calls Tryz.prog 113 #[v, .int .i64 left] w fun e w' => e = .returned (.int .i64 (leftI left (l.length + szEL l))) ∧ Below w.heap.size w w' := by
  obtain ⟨A, c, rfl, hc⟩ := h
  by_cases hn : left - l.length < 0
  · have hp := szEL_nonneg l
    have HV := Lib.hid (show leftI left (l.length + szEL l) = -1 by unfold leftI; rw [if_pos (by omega)])
    clear hp
    go_enter Tryz.func113, Tryz.ntmps113
    go_wp2
    go_ret
    exact ⟨ret_int HV.out.symm, Below.refl _ _⟩
  · go_enter Tryz.func113, Tryz.ntmps113
    go_wp2
    go_loopw [1, 5] (fun a i wr => ∃ (j : Nat) (z : Int), j ≤ l.length ∧ i = .int .i64 j ∧ a = .int .i64 z ∧ 0 ≤ z ∧ z ≤ 1048576 ∧ Hid (z = left - l.length - szEL (l.take j)) ∧ Below w.heap.size w wr) (fun _ i _ => l.length - (intOf i).toNat)
    case atStart => exact ⟨0, left - l.length, by omega, rfl, rfl, by omega, by omega, Lib.hid (by rw [List.take_zero]; show _ = _ - (0 : Int); omega), Below.refl _ _⟩
    case round =>
      obtain ⟨j, z, hj, rfl, rfl, hz0, hz1, HZ, hb⟩ := hrel
      by_cases hlt : j < l.length
      · obtain ⟨x, hxj⟩ : ∃ x, l[j]? = some x := ⟨_, List.getElem?_eq_getElem hlt⟩
        obtain ⟨a, u, rfl, ha, hc0, hc1, hc2, hc3, hc4, hr⟩ := hc j x hxj
        have hxl := hx x (List.mem_of_getElem? hxj)
        have k0 := (cell_keep5' hb ha j).trans hc0
        have k1 := (cell_keep5 hb ha j 1).trans hc1
        have k2 := (cell_keep5 hb ha j 2).trans hc2
        have k3 := (cell_keep5 hb ha j 3).trans hc3
        have k4 := (cell_keep5 hb ha j 4).trans hc4
        obtain ⟨A1, c1, rfl⟩ := row_form hr
        rw [intsV_length] at hc3 k3 hr
        go_wp2_with fail
        refine (szE_cal _ x z _ hxl hz0 hz1 (RdE.below ⟨_, rfl, hr⟩ hb)).mono ?_
        rintro e w1 ⟨rfl, b1⟩
        have bb1 := Below.next hb b1
        have hs0 := szE_nonneg x
        have HT := Lib.hid (szEL_take hxj)
        have HTL := Lib.hid (szEL_take_le l (j + 1))
        clear hc0 hc1 hc2 hc3 hc4 k0 k1 k2 k3 k4 hc hxl hr
        by_cases hv : z - szE x < 0
        · have HV := Lib.hid (show leftI left (l.length + szEL l) = -1 by
            have h1 := HT.out
            have h2 := HTL.out
            have h3 := HZ.out
            unfold leftI; rw [if_pos (by omega)])
          rw [show leftI z (szE x) = -1 by unfold leftI; rw [if_pos hv]]
          clear hv hs0
          go_wp2
          go_ret
          exact ⟨ret_int HV.out.symm, bb1⟩
        · rw [show leftI z (szE x) = z - szE x by unfold leftI; rw [if_neg hv]]
          have hnb : decide (z - szE x < 0) = false := decide_eq_false hv
          obtain ⟨z1, hz1e⟩ : ∃ z1, z1 = z - szE x := ⟨_, rfl⟩
          rw [← hz1e] at hnb ⊢
          have HE := Lib.hid (show z1 = left - l.length - szEL (l.take (j + 1)) ∧ 0 ≤ z1 ∧ z1 ≤ 1048576 by
            have h1 := HT.out
            have h3 := HZ.out
            omega)
          clear hv hs0 hz1e
          go_wp2
          go_roundw
          case rel => exact ⟨j + 1, z1, by omega, by go_num, rfl, HE.out.2.1, HE.out.2.2, Lib.hid HE.out.1, bb1⟩
          case measure => simp [intOf]; omega
      · obtain rfl : j = l.length := by omega
        have HV := Lib.hid (show leftI left (l.length + szEL l) = z by
          have h3 := HZ.out
          rw [List.take_length] at h3
          unfold leftI; rw [if_neg (by omega)]; omega)
        clear hc
        go_wp2
        go_ret
        exact ⟨ret_int HV.out.symm, hb⟩
theorem add_ownE (g m : Nat) : (⟨g, 0, none⟩ : Addr).add m = ⟨g, m, none⟩ := by
  unfold Addr.add
  split
  · rename_i h; rw [h]
  · simp
/-- the cells of such a slice -/
def flatE : List (ByteArray × ByteArray × Bool × Value × Int) → List Value
  | [] => []
  | p :: r => .string p.1 :: .string p.2.1 :: .bool p.2.2.1 :: p.2.2.2.1 :: .int .i64 p.2.2.2.2 :: flatE r
theorem flatE_append (e f : List (ByteArray × ByteArray × Bool × Value × Int)) : flatE (e ++ f) = flatE e ++ flatE f := by
  induction e with
  | nil => rfl
  | cons p r ih => show _ :: _ :: _ :: _ :: _ :: flatE (r ++ f) = _; rw [ih]; rfl
theorem flatE_get {e : List (ByteArray × ByteArray × Bool × Value × Int)} {j : Nat} {p : ByteArray × ByteArray × Bool × Value × Int} (h : e[j]? = some p) : (flatE e)[j * 5]? = some (.string p.1) ∧ (flatE e)[j * 5 + 1]? = some (.string p.2.1) ∧ (flatE e)[j * 5 + 2]? = some (.bool p.2.2.1) ∧ (flatE e)[j * 5 + 3]? = some (p.2.2.2.1) ∧ (flatE e)[j * 5 + 4]? = some (.int .i64 p.2.2.2.2) := by
  induction e generalizing j with
  | nil => simp at h
  | cons q r ih =>
    cases j with
    | zero =>
      have : q = p := by simpa using h
      subst this
      exact ⟨rfl, rfl, rfl, rfl, rfl⟩
    | succ j =>
      have := ih (j := j) (by simpa using h)
      rw [show (j + 1) * 5 = j * 5 + 1 + 1 + 1 + 1 + 1 by omega]
      exact this
theorem set_cellsE (xs : List Value) (k : Nat) (v0 v1 v2 v3 v4 : Value) (h : k * 5 + 4 < xs.length) : (((((xs.set (k * 5) v0).set (k * 5 + 1) v1).set (k * 5 + 2) v2).set (k * 5 + 3) v3).set (k * 5 + 4) v4).take ((k + 1) * 5) = xs.take (k * 5) ++ [v0, v1, v2, v3, v4] := by
  rw [show (k + 1) * 5 = k * 5 + 1 + 1 + 1 + 1 + 1 by omega, List.take_succ_eq_append_getElem (by simp; omega), List.take_succ_eq_append_getElem (by simp; omega), List.take_succ_eq_append_getElem (by simp; omega), List.take_succ_eq_append_getElem (by simp; omega), List.take_succ_eq_append_getElem (by simp; omega),
    List.take_set_of_le (by omega), List.take_set_of_le (by omega), List.take_set_of_le (by omega), List.take_set_of_le (by omega), List.take_set_of_le (by omega), List.append_assoc, List.append_assoc, List.append_assoc, List.append_assoc]
  simp
/-- the limbs of these, each on blocks of its own, between lo and hi -/
def OwnEG (w : World) : Nat → List EI → List (ByteArray × ByteArray × Bool × Value × Int) → Nat → Prop
  | lo, [], [], hi => lo ≤ hi
  | lo, x :: l, p :: e, hi => ∃ mid, lo ≤ mid ∧ p.1 = x.1 ∧ p.2.1 = x.2.1 ∧ p.2.2.1 = x.2.2.1.1 ∧ p.2.2.2.2 = x.2.2.2 ∧ w.ownsRow lo 3 1 p.2.2.2.1 x.2.2.1.2.length (intsV x.2.2.1.2) ∧ (∀ b, p.2.2.2.1.ownBlock = some b → b < mid) ∧ OwnEG w mid l e hi
  | _, _, _, _ => False
theorem OwnEG.le {w : World} {lo hi : Nat} {l : List EI} {e : List (ByteArray × ByteArray × Bool × Value × Int)} (h : OwnEG w lo l e hi) : lo ≤ hi := by
  induction l generalizing lo e with
  | nil => cases e with | nil => exact h | cons _ _ => exact h.elim
  | cons x l ih => cases e with | nil => exact h.elim | cons p e => obtain ⟨mid, h1, _, _, _, _, _, _, h2⟩ := h; exact Nat.le_trans h1 (ih h2)
theorem OwnEG.length {w : World} {lo hi : Nat} {l : List EI} {e : List (ByteArray × ByteArray × Bool × Value × Int)} (h : OwnEG w lo l e hi) : e.length = l.length := by
  induction l generalizing lo e with
  | nil => cases e with | nil => rfl | cons _ _ => exact h.elim
  | cons x l ih => cases e with | nil => exact h.elim | cons p e => obtain ⟨mid, _, _, _, _, _, _, _, h2⟩ := h; simp [ih h2]
theorem OwnEG.stays {w w' : World} {lo hi : Nat} {l : List EI} {e : List (ByteArray × ByteArray × Bool × Value × Int)} (h : OwnEG w lo l e hi) (hk : ∀ i, lo ≤ i → i < hi → w'.heap[i]? = w.heap[i]?) : OwnEG w' lo l e hi := by
  induction l generalizing lo e with
  | nil => cases e with | nil => exact h | cons _ _ => exact h.elim
  | cons x l ih =>
    cases e with
    | nil => exact h.elim
    | cons p e =>
      obtain ⟨mid, h1, e0, e1, e2, e4, h3, h4, h5⟩ := h
      have hle := h5.le
      exact ⟨mid, h1, e0, e1, e2, e4, own_stays h3 fun i hi => hk i (own_lt h3 hi).1 (Nat.lt_of_lt_of_le (h4 i hi) hle), h4, ih h5 fun i hi hi2 => hk i (by omega) hi2⟩
theorem OwnEG.wide {w : World} {lo hi hi' : Nat} {l : List EI} {e : List (ByteArray × ByteArray × Bool × Value × Int)} (h : OwnEG w lo l e hi) (hh : hi ≤ hi') : OwnEG w lo l e hi' := by
  induction l generalizing lo e with
  | nil => cases e with | nil => exact Nat.le_trans h hh | cons _ _ => exact h.elim
  | cons x l ih => cases e with | nil => exact h.elim | cons p e => obtain ⟨mid, h1, e0, e1, e2, e4, h3, h4, h5⟩ := h; exact ⟨mid, h1, e0, e1, e2, e4, h3, h4, ih h5⟩
theorem OwnEG.snoc {w : World} {lo mid hi : Nat} {l : List EI} {e : List (ByteArray × ByteArray × Bool × Value × Int)} {x : EI} {u : Value} (h : OwnEG w lo l e mid) (o : w.ownsRow mid 3 1 u x.2.2.1.2.length (intsV x.2.2.1.2)) (hu : ∀ b, u.ownBlock = some b → b < hi) (hh : mid ≤ hi) : OwnEG w lo (l ++ [x]) (e ++ [(x.1, x.2.1, x.2.2.1.1, u, x.2.2.2)]) hi := by
  induction l generalizing lo e with
  | nil =>
    cases e with
    | nil =>
      have hm : lo ≤ mid := h
      exact ⟨hi, Nat.le_trans hm hh, rfl, rfl, rfl, rfl, own_low o hm, hu, Nat.le_refl _⟩
    | cons _ _ => exact h.elim
  | cons y l ih => cases e with | nil => exact h.elim | cons p e => obtain ⟨m, h1, e0, e1, e2, e4, h3, h4, h5⟩ := h; exact ⟨m, h1, e0, e1, e2, e4, h3, h4, ih h5⟩
theorem OwnEG.at_ {w : World} {lo hi : Nat} {l : List EI} {e : List (ByteArray × ByteArray × Bool × Value × Int)} (h : OwnEG w lo l e hi) {j : Nat} {x : EI} (hx : l[j]? = some x) : ∃ u, e[j]? = some (x.1, x.2.1, x.2.2.1.1, u, x.2.2.2) ∧ OwnI u x.2.2.1.2 w := by
  induction l generalizing lo e j with
  | nil => simp at hx
  | cons y l ih =>
    cases e with
    | nil => exact h.elim
    | cons p e =>
      obtain ⟨m, h1, e0, e1, e2, e4, h3, h4, h5⟩ := h
      cases j with
      | zero =>
        have : y = x := by simpa using hx
        subst this
        exact ⟨p.2.2.2.1, by rw [← e0, ← e1, ← e2, ← e4]; rfl, own_zero h3⟩
      | succ j => exact ih h5 (by simpa using hx)
/-- such a slice, of the call's own: its cells and limbs lie between lo and hi -/
def OwnEL (v : Value) (l : List EI) (lo hi : Nat) (w : World) : Prop :=
  ∃ g e, v = .slice (some ⟨g, 0, none⟩) l.length l.length ∧ lo ≤ g ∧ g < hi ∧ hi ≤ w.heap.size ∧ w.ownsRow lo 54 5 v l.length (flatE e) ∧ OwnEG w (g + 1) l e hi
theorem OwnEL.stays {v : Value} {l : List EI} {lo hi : Nat} {w w' : World} (h : OwnEL v l lo hi w) (hk : ∀ i, lo ≤ i → i < hi → w'.heap[i]? = w.heap[i]?) (hz : w.heap.size ≤ w'.heap.size) : OwnEL v l lo hi w' := by
  obtain ⟨g, e, rfl, h1, h2, h3, h4, h5⟩ := h
  exact ⟨g, e, rfl, h1, h2, Nat.le_trans h3 hz, own_stays h4 fun i hi => by cases hi; exact hk g h1 h2, h5.stays fun i hi hi2 => hk i (by omega) hi2⟩
theorem OwnEL.below {v : Value} {l : List EI} {lo hi : Nat} {w w' : World} (h : OwnEL v l lo hi w) (hb : Below w.heap.size w w') : OwnEL v l lo hi w' := by
  have hh := h
  obtain ⟨_, _, _, _, _, h3, _, _⟩ := hh
  exact h.stays (fun i _ hi => hb.block i (by omega)) hb.size
theorem OwnEL.rd {v : Value} {l : List EI} {lo hi : Nat} {w : World} (h : OwnEL v l lo hi w) : RdEL w v l := by
  obtain ⟨g, e, rfl, h1, h2, h3, h4, h5⟩ := h
  refine ⟨_, _, rfl, fun j x hj => ?_⟩
  have hjl := (List.getElem?_eq_some_iff.1 hj).1
  obtain ⟨u, he, ho⟩ := h5.at_ hj
  have hf := flatE_get he
  refine ⟨⟨g, 0, none⟩, u, rfl, by show g < _; omega, ?_, ?_, ?_, ?_, ?_, ho.row⟩
  · have := h4.cellAt (j * 5) (by omega)
    rw [hf.1] at this
    rw [add_ownE]
    exact this
  · have := h4.cellAt (j * 5 + 1) (by omega)
    rw [hf.2.1] at this
    rw [add_ownE]
    exact this
  · have := h4.cellAt (j * 5 + 2) (by omega)
    rw [hf.2.2.1] at this
    rw [add_ownE]
    exact this
  · have := h4.cellAt (j * 5 + 3) (by omega)
    rw [hf.2.2.2.1] at this
    rw [add_ownE]
    exact this
  · have := h4.cellAt (j * 5 + 4) (by omega)
    rw [hf.2.2.2.2] at this
    rw [add_ownE]
    exact this
theorem own_highE {w : World} {base B n size : Nat} {e : TypeId} {v : Value} {xs : List Value} (h : w.ownsRow base e size v n xs) (hb : ∀ g, v.ownBlock = some g → B ≤ g) : w.ownsRow B e size v n xs := by
  obtain ⟨hl, h | ⟨g, cap, cur, rfl, _, r⟩⟩ := h
  · exact ⟨hl, .inl h⟩
  · exact ⟨hl, .inr ⟨g, cap, cur, rfl, hb g rfl, r⟩⟩
/-- a new one's limbs, with where they lie -/
theorem newE_own {x : EI} {w w' : World} {S : List Nat} {c0 c1 c2 u c4 : Value} (o : At S (OwnE (.agg #[c0, c1, c2, u, c4]) x) w') (l : Within S w.heap.size w'.heap.size) : w'.ownsRow w.heap.size 3 1 u x.2.2.1.2.length (intsV x.2.2.1.2) ∧ ∀ b, u.ownBlock = some b → b < w'.heap.size := by
  have hm := at_ints_mem o (fun w' k => ownE_open k)
  exact ⟨own_highE (ownE_open o.here) fun g hg => (l g (hm g hg)).1, fun b hb => (l b (hm b hb)).2⟩
theorem infoEL : (Tryz.prog.info? 54).map (fun i => (i.zero, i.size, i.bytes)) = some (some (.agg #[.string ⟨#[]⟩, .string ⟨#[]⟩, .bool false, .slice none 0 0, .int .i64 0]), 5, 72) := by kernel_rfl
theorem makeEL (n : Nat) (hn : n ≤ 1099511627776) (W : World) :
    (Instr.makeSlice 23 (.int .i64 (n : Int)) (.int .i64 (n : Int))).run Tryz.prog W = .ok (.slice (some ⟨W.heap.size, 0, none⟩) n n) (W.alloc (.cells (madeCells #[.string ⟨#[]⟩, .string ⟨#[]⟩, .bool false, .slice none 0 0, .int .i64 0] (n * 5)) 54)) := by
  obtain ⟨i0, hi, hz0, hz1, hz2⟩ := info_parts infoEL
  have h := run_make (P := Tryz.prog) W 23 54 i0 (.agg #[.string ⟨#[]⟩, .string ⟨#[]⟩, .bool false, .slice none 0 0, .int .i64 0]) Tryz.underlying23 hi hz0 .i64 .i64 (n : Int) (n : Int) (by omega) (by omega) (by rw [hz2]; omega) (by omega)
  rw [hz1, Int.toNat_natCast] at h
  exact h
/-- a new slice of these -/
def NewEL (l : List EI) (w : World) (e : Ending) (w' : World) : Prop := ∃ v, e = .returned v ∧ OwnEL v l w.heap.size w'.heap.size w' ∧ Below w.heap.size w w'

set_option maxHeartbeats 4000000 in
set_option maxRecDepth 100000 in
theorem toRateS_any (v : Value) (l : List EI) (w : World) (hl : l.length ≤ 1048576) (hx : ∀ x ∈ l, szE x ≤ 1048576) (h : RdEL w v l) :
    Calls Tryz.prog 118 #[v] w (NewEL l w) := by
  obtain ⟨A, c, rfl, hc⟩ := h
  have HC := Lib.hid hc
  have hmk := makeEL l.length (by omega)
  clear hc
  go_enter Tryz.func118, Tryz.ntmps118
  go_wp2
  go_loopw [4] (fun i wr => ∃ (k : Nat) (xs : List Value) (e : List (ByteArray × ByteArray × Bool × Value × Int)), k ≤ l.length ∧ i = .int .i64 k ∧ wr.ownsRow w.heap.size 54 5 (.slice (some ⟨w.heap.size, 0, none⟩) l.length l.length) l.length xs ∧ Hid (xs.take (k * 5) = flatE e) ∧ OwnEG wr (w.heap.size + 1) (l.take k) e wr.heap.size ∧ Below w.heap.size w wr) (fun i _ => l.length - (intOf i).toNat)
  case atStart =>
    have h := World.ownsRow_lit (e := 54) (size := 5) (base := w.heap.size) w (madeCells #[.string ⟨#[]⟩, .string ⟨#[]⟩, .bool false, .slice none 0 0, .int .i64 0] (l.length * 5)) l.length (Nat.le_refl _) (by unfold maxLen; omega) (by rw [size_madeCells])
    exact ⟨0, _, [], Nat.zero_le _, rfl, h, Lib.hid (by rw [Nat.zero_mul, List.take_zero]; rfl), by rw [List.take_zero]; show _ ≤ _; simp, (Below.refl _ _).alloc (Nat.le_refl _) _⟩
  case round =>
    obtain ⟨k, xs, e, hk, rfl, ho, HX, hes, hb⟩ := hrel
    by_cases hlt : k < l.length
    · obtain ⟨x, hxk⟩ : ∃ x, l[k]? = some x := ⟨_, List.getElem?_eq_getElem hlt⟩
      obtain ⟨a, u, rfl, ha, hc0, hc1, hc2, hc3, hc4, hr⟩ := HC.out k x hxk
      have hxl := hx x (List.mem_of_getElem? hxk)
      have k0 := (cell_keep5' hb ha k).trans hc0
      have k1 := (cell_keep5 hb ha k 1).trans hc1
      have k2 := (cell_keep5 hb ha k 2).trans hc2
      have k3 := (cell_keep5 hb ha k 3).trans hc3
      have k4 := (cell_keep5 hb ha k 4).trans hc4
      obtain ⟨A1, c1, rfl⟩ := row_form hr
      rw [intsV_length] at hc3 k3 hr
      go_wp2_with fail
      refine (toE_new _ x _ hxl (RdE.below ⟨_, rfl, hr⟩ hb)).mono ?_
      rintro e' w1 ⟨u0, S1, rfl, o0, l0, b1⟩
      obtain ⟨A2, c2, rfl⟩ := ownE_form o0.here
      obtain ⟨o1, hu1⟩ := newE_own o0 l0
      have bb1 := Below.next hb b1
      have ho1 := own_below ho b1
      have hxs := ho1.1
      have hcell0 := ho1.cellAt (k * 5) (by omega)
      have hcell1 := ho1.cellAt (k * 5 + 1) (by omega)
      have hcell2 := ho1.cellAt (k * 5 + 2) (by omega)
      have hcell3 := ho1.cellAt (k * 5 + 3) (by omega)
      have hcell4 := ho1.cellAt (k * 5 + 4) (by omega)
      rw [List.getElem?_eq_getElem (by omega)] at hcell0 hcell1 hcell2 hcell3 hcell4
      have hfr0 := ho1.frozenAt (k * 5)
      have hfr1 := ho1.frozenAt (k * 5 + 1)
      have hfr2 := ho1.frozenAt (k * 5 + 2)
      have hfr3 := ho1.frozenAt (k * 5 + 3)
      have hfr4 := ho1.frozenAt (k * 5 + 4)
      obtain ⟨hp0, hg0⟩ := ho1.stored (k * 5) (.string x.1)
      obtain ⟨hp1, hg1⟩ := hp0.stored (k * 5 + 1) (.string x.2.1)
      obtain ⟨hp2, hg2⟩ := hp1.stored (k * 5 + 2) (.bool x.2.2.1.1)
      obtain ⟨hp3, hg3⟩ := hp2.stored (k * 5 + 3) (.slice A2 x.2.2.1.2.length c2)
      obtain ⟨hp4, hg4⟩ := hp3.stored (k * 5 + 4) (.int .i64 x.2.2.2)
      have hlw : w.heap.size < wr.heap.size := (own_lt ho (g := w.heap.size) rfl).2
      have hes1 := OwnEG.snoc (hi := w1.heap.size) (hes.stays fun i _ hi => b1.block i hi) o1 hu1 b1.size
      have hes2 : OwnEG (((((w1.setCell ⟨w.heap.size, k * 5, none⟩ (.string x.1)).setCell ⟨w.heap.size, k * 5 + 1, none⟩ (.string x.2.1)).setCell ⟨w.heap.size, k * 5 + 2, none⟩ (.bool x.2.2.1.1)).setCell ⟨w.heap.size, k * 5 + 3, none⟩ (.slice A2 x.2.2.1.2.length c2)).setCell ⟨w.heap.size, k * 5 + 4, none⟩ (.int .i64 x.2.2.2)) (w.heap.size + 1) (l.take (k + 1)) (e ++ [(x.1, x.2.1, x.2.2.1.1, .slice A2 x.2.2.1.2.length c2, x.2.2.2)]) (((((w1.setCell ⟨w.heap.size, k * 5, none⟩ (.string x.1)).setCell ⟨w.heap.size, k * 5 + 1, none⟩ (.string x.2.1)).setCell ⟨w.heap.size, k * 5 + 2, none⟩ (.bool x.2.2.1.1)).setCell ⟨w.heap.size, k * 5 + 3, none⟩ (.slice A2 x.2.2.1.2.length c2)).setCell ⟨w.heap.size, k * 5 + 4, none⟩ (.int .i64 x.2.2.2)).heap.size := by
        rw [List.take_succ_eq_append_getElem hlt, (List.getElem?_eq_some_iff.1 hxk).2]
        refine (hes1.stays fun i hi _ => ?_).wide (by simp [World.setCell])
        have hne : i ≠ w.heap.size := by omega
        rw [Below.heap_setCell _ _ _ _ hne, Below.heap_setCell _ _ _ _ hne, Below.heap_setCell _ _ _ _ hne, Below.heap_setCell _ _ _ _ hne, Below.heap_setCell _ _ _ _ hne]
      have hb3 : Below w.heap.size w (((((w1.setCell ⟨w.heap.size, k * 5, none⟩ (.string x.1)).setCell ⟨w.heap.size, k * 5 + 1, none⟩ (.string x.2.1)).setCell ⟨w.heap.size, k * 5 + 2, none⟩ (.bool x.2.2.1.1)).setCell ⟨w.heap.size, k * 5 + 3, none⟩ (.slice A2 x.2.2.1.2.length c2)).setCell ⟨w.heap.size, k * 5 + 4, none⟩ (.int .i64 x.2.2.2)) := (((((bb1.setCell (p := ⟨w.heap.size, k * 5, none⟩) (Nat.le_refl _) _).setCell (p := ⟨w.heap.size, k * 5 + 1, none⟩) (Nat.le_refl _) _).setCell (p := ⟨w.heap.size, k * 5 + 2, none⟩) (Nat.le_refl _) _).setCell (p := ⟨w.heap.size, k * 5 + 3, none⟩) (Nat.le_refl _) _).setCell (p := ⟨w.heap.size, k * 5 + 4, none⟩) (Nat.le_refl _) _)
      have HF := Lib.hid (show (((((xs.set (k * 5) (.string x.1)).set (k * 5 + 1) (.string x.2.1)).set (k * 5 + 2) (.bool x.2.2.1.1)).set (k * 5 + 3) (.slice A2 x.2.2.1.2.length c2)).set (k * 5 + 4) (.int .i64 x.2.2.2)).take ((k + 1) * 5) = flatE (e ++ [(x.1, x.2.1, x.2.2.1.1, .slice A2 x.2.2.1.2.length c2, x.2.2.2)]) by
        rw [set_cellsE xs k _ _ _ _ _  (by omega), HX.out, flatE_append]; rfl)
      have H3 := Lib.hid hp4
      have HE2 := Lib.hid hes2
      have HB3 := Lib.hid hb3
      clear hes hes1 hes2 ho ho1 hp0 hg0 hp1 hg1 hp2 hg2 hp3 hg3 hp4 hg4 hb3 o1 o0 l0 hu1 k0 k1 k2 k3 k4 hc0 hc1 hc2 hc3 hc4 hr b1 bb1
      go_wp2
      go_roundw
      case rel => exact ⟨k + 1, _, _, by omega, by go_num, H3.out, HF, HE2.out, HB3.out⟩
      case measure => simp [intOf]; omega
    · obtain rfl : k = l.length := by omega
      have hxs := ho.1
      have he : xs = flatE e := by rw [← HX.out, List.take_of_length_le (by omega)]
      rw [List.take_length] at hes
      have hlw : w.heap.size < wr.heap.size := (own_lt ho (g := w.heap.size) rfl).2
      have HO := Lib.hid (show OwnEL (.slice (some ⟨w.heap.size, 0, none⟩) l.length l.length) l w.heap.size wr.heap.size wr from ⟨w.heap.size, e, rfl, Nat.le_refl _, hlw, Nat.le_refl _, by rw [← he]; exact ho, hes⟩)
      clear he hes hxs ho
      go_wp2
      go_ret
      exact ⟨_, rfl, HO.out, hb⟩
set_option maxHeartbeats 4000000 in
set_option maxRecDepth 100000 in
theorem eqRateS_any (va vb : Value) (ss ts : List EI) (w : World) (hl : ss.length ≤ 140737488355328) (hx : ∀ x ∈ ss, capE x) (hra : RdEL w va ss) (hrb : RdEL w vb ts) :
    Calls Tryz.prog 121 #[va, vb] w fun e w' => e = .returned (.bool (decide (ss = ts))) ∧ Below w.heap.size w w' := by
  obtain ⟨A, c, rfl, hA⟩ := hra
  obtain ⟨B, d, rfl, hB⟩ := hrb
  have HA := Lib.hid hA
  have HB := Lib.hid hB
  clear hA hB
  by_cases hlen : ss.length = ts.length
  · have HL := Lib.hid hlen
    have hbe : ((ss.length : Int) != (ts.length : Int)) = false := by simp [hlen]
    clear hlen
    go_enter Tryz.func121, Tryz.ntmps121
    go_wp2
    go_loopw [5] (fun i wr => ∃ k : Nat, k ≤ ss.length ∧ i = .int .i64 k ∧ Below w.heap.size w wr ∧ Hid (ss.take k = ts.take k)) (fun i _ => ss.length - (intOf i).toNat)
    case atStart => exact ⟨0, Nat.zero_le _, rfl, Below.refl _ _, Lib.hid rfl⟩
    case round =>
      obtain ⟨k, hk, rfl, hb, HT⟩ := hrel
      by_cases hlt : k < ss.length
      · have hlt2 : k < ts.length := by have := HL.out; omega
        obtain ⟨a, u, rfl, ha, hc0, hc1, hc2, hc3, hc4, hr⟩ := HA.out k ss[k] (List.getElem?_eq_getElem hlt)
        obtain ⟨b, v, rfl, ha', hd0, hd1, hd2, hd3, hd4, hr'⟩ := HB.out k ts[k] (List.getElem?_eq_getElem hlt2)
        have hxl := hx ss[k] (List.getElem_mem hlt)
        obtain ⟨A1, c1, rfl⟩ := row_form hr
        obtain ⟨B1, d1, rfl⟩ := row_form hr'
        rw [intsV_length] at hc3 hr hd3 hr'
        have HR := Lib.hid (show ∀ W, Below w.heap.size w W → RdE W (.agg #[.string ss[k].1, .string ss[k].2.1, .bool ss[k].2.2.1.1, .slice A1 ss[k].2.2.1.2.length c1, .int .i64 ss[k].2.2.2]) ss[k] from fun W hb => RdE.below ⟨_, rfl, hr⟩ hb)
        have HR' := Lib.hid (show ∀ W, Below w.heap.size w W → RdE W (.agg #[.string ts[k].1, .string ts[k].2.1, .bool ts[k].2.2.1.1, .slice B1 ts[k].2.2.1.2.length d1, .int .i64 ts[k].2.2.2]) ts[k] from fun W hb => RdE.below ⟨_, rfl, hr'⟩ hb)
        have HCC := Lib.hid (show a.block < w.heap.size ∧ b.block < w.heap.size ∧ w.cell? (a.add (k * 5)) = some (.string ss[k].1) ∧ w.cell? ⟨(a.add (k * 5)).block, (a.add (k * 5)).off + 1, none⟩ = some (.string ss[k].2.1) ∧ w.cell? ⟨(a.add (k * 5)).block, (a.add (k * 5)).off + 2, none⟩ = some (.bool ss[k].2.2.1.1) ∧ w.cell? ⟨(a.add (k * 5)).block, (a.add (k * 5)).off + 3, none⟩ = some (.slice A1 ss[k].2.2.1.2.length c1) ∧ w.cell? ⟨(a.add (k * 5)).block, (a.add (k * 5)).off + 4, none⟩ = some (.int .i64 ss[k].2.2.2) ∧ w.cell? (b.add (k * 5)) = some (.string ts[k].1) ∧ w.cell? ⟨(b.add (k * 5)).block, (b.add (k * 5)).off + 1, none⟩ = some (.string ts[k].2.1) ∧ w.cell? ⟨(b.add (k * 5)).block, (b.add (k * 5)).off + 2, none⟩ = some (.bool ts[k].2.2.1.1) ∧ w.cell? ⟨(b.add (k * 5)).block, (b.add (k * 5)).off + 3, none⟩ = some (.slice B1 ts[k].2.2.1.2.length d1) ∧ w.cell? ⟨(b.add (k * 5)).block, (b.add (k * 5)).off + 4, none⟩ = some (.int .i64 ts[k].2.2.2) from ⟨ha, ha', hc0, hc1, hc2, hc3, hc4, hd0, hd1, hd2, hd3, hd4⟩)
        have HTS := Lib.hid (show (ss[k] = ts[k] → ss.take (k + 1) = ts.take (k + 1)) ∧ (¬ ss[k] = ts[k] → ¬ ss = ts) from ⟨take_same_succ HT.out hlt hlt2, ne_of_at hlt hlt2⟩)
        generalize ss[k] = x at *
        generalize ts[k] = y at *
        have KL := Lib.hid (show ∀ W, Below w.heap.size w W → W.cell? (a.add (k * 5)) = some (.string x.1) ∧ W.cell? ⟨(a.add (k * 5)).block, (a.add (k * 5)).off + 1, none⟩ = some (.string x.2.1) ∧ W.cell? ⟨(a.add (k * 5)).block, (a.add (k * 5)).off + 2, none⟩ = some (.bool x.2.2.1.1) ∧ W.cell? ⟨(a.add (k * 5)).block, (a.add (k * 5)).off + 3, none⟩ = some (.slice A1 x.2.2.1.2.length c1) ∧ W.cell? ⟨(a.add (k * 5)).block, (a.add (k * 5)).off + 4, none⟩ = some (.int .i64 x.2.2.2) ∧ W.cell? (b.add (k * 5)) = some (.string y.1) ∧ W.cell? ⟨(b.add (k * 5)).block, (b.add (k * 5)).off + 1, none⟩ = some (.string y.2.1) ∧ W.cell? ⟨(b.add (k * 5)).block, (b.add (k * 5)).off + 2, none⟩ = some (.bool y.2.2.1.1) ∧ W.cell? ⟨(b.add (k * 5)).block, (b.add (k * 5)).off + 3, none⟩ = some (.slice B1 y.2.2.1.2.length d1) ∧ W.cell? ⟨(b.add (k * 5)).block, (b.add (k * 5)).off + 4, none⟩ = some (.int .i64 y.2.2.2) ∧ Hid (Below w.heap.size w W) from
          fun W hb => by
            obtain ⟨h1, h2, h3, h4, h5, h6, h7, h8, h9, h10, h11, h12⟩ := HCC.out
            exact ⟨(cell_keep5' hb h1 k).trans h3, (cell_keep5 hb h1 k 1).trans h4, (cell_keep5 hb h1 k 2).trans h5, (cell_keep5 hb h1 k 3).trans h6, (cell_keep5 hb h1 k 4).trans h7, (cell_keep5' hb h2 k).trans h8, (cell_keep5 hb h2 k 1).trans h9, (cell_keep5 hb h2 k 2).trans h10, (cell_keep5 hb h2 k 3).trans h11, (cell_keep5 hb h2 k 4).trans h12, Lib.hid hb⟩)
        have HB0 := Lib.hid hb
        have HXL := Lib.hid hxl
        clear hb hc0 hc1 hc2 hc3 hc4 hd0 hd1 hd2 hd3 hd4 hr hr' ha ha' hxl HCC
        go_wp2
        go_region_held3 (fun W => W.cell? (a.add (k * 5)) = some (.string x.1) ∧ W.cell? ⟨(a.add (k * 5)).block, (a.add (k * 5)).off + 1, none⟩ = some (.string x.2.1) ∧ W.cell? ⟨(a.add (k * 5)).block, (a.add (k * 5)).off + 2, none⟩ = some (.bool x.2.2.1.1) ∧ W.cell? ⟨(a.add (k * 5)).block, (a.add (k * 5)).off + 3, none⟩ = some (.slice A1 x.2.2.1.2.length c1) ∧ W.cell? ⟨(a.add (k * 5)).block, (a.add (k * 5)).off + 4, none⟩ = some (.int .i64 x.2.2.2) ∧ W.cell? (b.add (k * 5)) = some (.string y.1) ∧ W.cell? ⟨(b.add (k * 5)).block, (b.add (k * 5)).off + 1, none⟩ = some (.string y.2.1) ∧ W.cell? ⟨(b.add (k * 5)).block, (b.add (k * 5)).off + 2, none⟩ = some (.bool y.2.2.1.1) ∧ W.cell? ⟨(b.add (k * 5)).block, (b.add (k * 5)).off + 3, none⟩ = some (.slice B1 y.2.2.1.2.length d1) ∧ W.cell? ⟨(b.add (k * 5)).block, (b.add (k * 5)).off + 4, none⟩ = some (.int .i64 y.2.2.2) ∧ Hid (Below w.heap.size w W))
          ((refine KL.out _ ?_; (first | exact HB1.out | exact HB0.out.drew | fail)))
          (first
            | (go_at_call 197; (have hBB := (‹_ ∧ _ ∧ _ ∧ _ ∧ _ ∧ _ ∧ _ ∧ _ ∧ _ ∧ _ ∧ Hid (Below w.heap.size w _)›).2.2.2.2.2.2.2.2.2.2); (with_reducible refine (eqE_cal _ _ x y _ HXL.out (HR.out _ hBB.out) (HR'.out _ hBB.out)).mono ?_); rintro e w1 ⟨rfl, b1⟩; have HB1 := Lib.hid (Below.next hBB.out b1); clear hBB b1))
        by_cases he : x = y
        · have hdt : decide (x = y) = true := decide_eq_true he
          rw [hdt]
          have HE := Lib.hid (HTS.out.1 he)
          clear hdt he
          go_wp2
          go_roundw
          case rel => exact ⟨k + 1, by omega, by go_num, HB1.out, HE⟩
          case measure => simp [intOf]; omega
        · have hdt : decide (x = y) = false := decide_eq_false he
          rw [hdt]
          have HE := Lib.hid (HTS.out.2 he)
          clear hdt he
          go_wp2
          go_ret
          exact ⟨ret_bool (decide_eq_false HE.out).symm, HB1.out⟩
      · go_wp2
        go_ret
        exact ⟨ret_bool (decide_eq_true (same_of_takes HT.out HL.out hlt)).symm, hb⟩
  · have hbe : ((ss.length : Int) != (ts.length : Int)) = true := by simp; omega
    go_enter Tryz.func121, Tryz.ntmps121
    go_wp2
    go_ret
    exact ⟨ret_bool (decide_eq_false (fun e => hlen (by rw [e]))).symm, Below.refl _ _⟩
/-- the blocks from lo on, ahead of hi -/
def rangeE (lo hi : Nat) : List Nat := List.range' lo (hi - lo)
theorem mem_rangeE {lo hi g : Nat} (h : lo ≤ g) (h2 : g < hi) : g ∈ rangeE lo hi := by
  unfold rangeE
  rw [List.mem_range'_1]
  omega
theorem rangeE_mem {lo hi g : Nat} (h : g ∈ rangeE lo hi) : lo ≤ g ∧ g < hi := by
  unfold rangeE at h
  rw [List.mem_range'_1] at h
  omega
/-- how much a mark of it takes -/
def mkEL : List EI → Int
  | [] => 0
  | x :: l => 4 + x.2.2.1.2.length + mkEL l
theorem mkEL_nonneg (l : List EI) : 0 ≤ mkEL l := by
  induction l with
  | nil => exact Int.le_refl _
  | cons x l ih => show 0 ≤ 4 + (x.2.2.1.2.length : Int) + mkEL l; omega
theorem mkEL_len (l : List EI) : (l.length : Int) ≤ mkEL l := by
  induction l with
  | nil => exact Int.le_refl _
  | cons x l ih => show ((l.length + 1 : Nat) : Int) ≤ 4 + (x.2.2.1.2.length : Int) + mkEL l; omega
theorem mkEL_append (l r : List EI) : mkEL (l ++ r) = mkEL l + mkEL r := by
  induction l with
  | nil => show mkEL r = 0 + mkEL r; omega
  | cons x l ih => show 4 + (x.2.2.1.2.length : Int) + mkEL (l ++ r) = 4 + (x.2.2.1.2.length : Int) + mkEL l + mkEL r; rw [ih]; omega
theorem mkEL_take {l : List EI} {j : Nat} {x : EI} (h : l[j]? = some x) : mkEL (l.take (j + 1)) = mkEL (l.take j) + (4 + x.2.2.1.2.length) := by
  have hj := (List.getElem?_eq_some_iff.1 h).1
  have e : l[j] = x := (List.getElem?_eq_some_iff.1 h).2
  rw [List.take_succ_eq_append_getElem hj, mkEL_append, e]
  show _ + (4 + (x.2.2.1.2.length : Int) + 0) = _
  omega
theorem mkEL_take_le (l : List EI) (j : Nat) : mkEL (l.take j) ≤ mkEL l := by
  have := mkEL_append (l.take j) (l.drop j)
  rw [List.take_append_drop] at this
  have := mkEL_nonneg (l.drop j)
  omega
end Go.Proofs.YtehkknphcflofaaGreatDoor
