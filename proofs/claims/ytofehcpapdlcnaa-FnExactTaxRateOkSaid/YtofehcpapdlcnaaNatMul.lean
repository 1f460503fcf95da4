/-
  Products of limbs, and what l02Mul and NatMul of package spec return.
-/
import Derived.Test.YtofehcpapdlcnaaNatSpec2
namespace Go.Proofs.Ytofehcpapdlcnaa
open Go.RowKit

/-- one row of the school method: x times b added into R -/
def rowL (x : Int) : List Int → List Int → Int → List Int
  | [], _ :: R, c => c :: R
  | [], [], _ => []
  | y :: b, r :: R, c => (r + x * y + c) % 1000000000 :: rowL x b R ((r + x * y + c) / 1000000000)
  | _ :: _, [], _ => []
/-- all rows -/
def mulL : List Int → List Int → List Int → List Int
  | [], _, R => R
  | x :: a, b, R => (rowL x b R 0).headD 0 :: mulL a b (rowL x b R 0).tail
theorem mul_bound (x y : Int) (hx0 : 0 ≤ x) (hx1 : x ≤ 999999999) (hy0 : 0 ≤ y) (hy1 : y ≤ 999999999) : 0 ≤ x * y ∧ x * y ≤ 999999998000000001 := by
  refine ⟨Int.mul_nonneg hx0 hy0, ?_⟩
  have h : x * y ≤ 999999999 * 999999999 := Int.mul_le_mul hx1 hy1 hy0 (by omega)
  omega
theorem rowL_val (x : Int) (hx0 : 0 ≤ x) (hx1 : x ≤ 999999999) : ∀ (b R : List Int) (c : Int), DigN b → DigN R → b.length < R.length → (∀ d ∈ R.drop b.length, d = 0) → 0 ≤ c → c ≤ 999999999 →
    nval (rowL x b R c) = nval R + x * nval b + c ∧ DigN (rowL x b R c) ∧ (rowL x b R c).length = R.length ∧ ∀ d ∈ (rowL x b R c).drop (b.length + 1), d = 0 := by
  intro b
  induction b with
  | nil =>
    intro R c _ hR hl hz h0 h1
    cases R with
    | nil => simp at hl
    | cons r R =>
      have hr : r = 0 := hz r (by simp)
      subst hr
      refine ⟨?_, DigN.cons h0 h1 hR.tail, rfl, fun d hd => hz d (by simp at hd ⊢; exact .inr hd)⟩
      show c + 1000000000 * nval R = (0 + 1000000000 * nval R) + x * 0 + c
      omega
  | cons y b ih =>
    intro R c hb hR hl hz h0 h1
    cases R with
    | nil => simp at hl
    | cons r R =>
      have hm := mul_bound x y hx0 hx1 hb.head.1 hb.head.2
      have hr := hR.head
      have hy := hb.head
      obtain ⟨i1, i2, i3, i4⟩ := ih R ((r + x * y + c) / 1000000000) hb.tail hR.tail (by simpa using hl) (fun d hd => hz d (by simpa using hd)) (by omega) (by omega)
      refine ⟨?_, DigN.cons (by omega) (by omega) i2, by simp [rowL, i3], fun d hd => i4 d (by simpa [rowL] using hd)⟩
      show (r + x * y + c) % 1000000000 + 1000000000 * nval (rowL x b R ((r + x * y + c) / 1000000000)) = (r + 1000000000 * nval R) + x * (y + 1000000000 * nval b) + c
      have hd : x * (y + 1000000000 * nval b) = x * y + 1000000000 * (x * nval b) := by rw [Int.mul_add, Int.mul_left_comm]
      rw [hd, i1]
      omega
theorem mulL_val (b : List Int) (hb : DigN b) : ∀ (a R : List Int), DigN a → DigN R → R.length = a.length + b.length → (∀ d ∈ R.drop b.length, d = 0) →
    nval (mulL a b R) = nval R + nval a * nval b ∧ DigN (mulL a b R) ∧ (mulL a b R).length = R.length := by
  intro a
  induction a with
  | nil =>
    intro R _ hR _ _
    refine ⟨?_, hR, rfl⟩
    show nval R = nval R + 0 * nval b
    omega
  | cons x a ih =>
    intro R ha hR hl hz
    obtain ⟨i1, i2, i3, i4⟩ := rowL_val x ha.head.1 ha.head.2 b R 0 hb hR (by simp at hl; omega) hz (by omega) (by omega)
    unfold mulL
    cases hrow : rowL x b R 0 with
    | nil => rw [hrow] at i3; simp at hl i3; omega
    | cons h T =>
      rw [hrow] at i1 i2 i3 i4
      obtain ⟨j1, j2, j3⟩ := ih T ha.tail i2.tail (by simp at i3 hl; omega) (fun d hd => i4 d (by simpa using hd))
      refine ⟨?_, DigN.cons i2.head.1 i2.head.2 j2, by simp [j3]; simpa using i3⟩
      show h + 1000000000 * nval (mulL a b T) = nval R + (x + 1000000000 * nval a) * nval b
      have hd : (x + 1000000000 * nval a) * nval b = x * nval b + 1000000000 * (nval a * nval b) := by rw [Int.add_mul, Int.mul_assoc]
      have i1' : h + 1000000000 * nval T = nval R + x * nval b + 0 := i1
      rw [hd, j1]
      omega

theorem rowL_drop (x : Int) (b O : List Int) (j m : Nat) (c : Int) (hj : j < b.length) (hm : m < O.length) : rowL x (b.drop j) (O.drop m) c = (O[m] + x * b[j] + c) % 1000000000 :: rowL x (b.drop (j + 1)) (O.drop (m + 1)) ((O[m] + x * b[j] + c) / 1000000000) := by
  rw [List.drop_eq_getElem_cons hj, List.drop_eq_getElem_cons hm, rowL]
theorem set_split (O : List Int) (m : Nat) (u : Int) (h : m < O.length) : (O.set m u).take (m + 1) = O.take m ++ [u] ∧ (O.set m u).drop (m + 1) = O.drop (m + 1) ∧ O.set m u = O.take m ++ u :: O.drop (m + 1) := by
  refine ⟨?_, ?_, List.set_eq_take_append_cons_drop .. |>.trans (by rw [if_pos h])⟩
  · rw [List.take_succ_eq_append_getElem (by simpa using h), List.take_set_of_le (Nat.le_refl _), List.getElem_set_self]
  · rw [List.drop_set_of_lt (by omega)]
theorem intsV_set (O : List Int) (m : Nat) (u : Int) : (intsV O).set m (.int .i64 u) = intsV (O.set m u) := by simp [intsV, List.map_set]
theorem DigN.setM {O : List Int} (h : DigN O) (m : Nat) (u : Int) (h0 : 0 ≤ u) (h1 : u ≤ 999999999) : DigN (O.set m u) := by
  intro d hd
  rcases List.mem_or_eq_of_mem_set hd with hd | rfl
  · exact h d hd
  · exact ⟨h0, h1⟩

theorem make_sum (m n : Nat) (hm : m ≤ 1048576) (hn : n ≤ 1048576) (W : World) :
    (Instr.makeSlice 22 (.int .i64 ((m : Int) + (n : Int))) (.int .i64 ((m : Int) + (n : Int)))).run Try.prog W = .ok (.slice (some ⟨W.heap.size, 0, none⟩) (m + n) (m + n)) (W.alloc (.cells (madeCells #[.int .i64 0] (m + n)) 3)) := by
  have h := make_ints (m + n) (by omega) W
  rwa [Int.natCast_add] at h

/-- what the outer loop of l02Mul knows: O is what has been written -/
def MulRel (a b : List Int) (w : World) (i : Value) (wr : World) : Prop :=
  ∃ (k : Nat) (O : List Int), k ≤ a.length ∧ i = .int .i64 k ∧ O.length = a.length + b.length ∧ DigN O ∧ O.take k ++ mulL (a.drop k) b (O.drop k) = mulL a b (List.replicate (a.length + b.length) 0) ∧
    wr.ownsRow w.heap.size 3 1 (.slice (some ⟨w.heap.size, 0, none⟩) (a.length + b.length) (a.length + b.length)) (a.length + b.length) (intsV O) ∧ Below w.heap.size w wr
theorem rowL_nil (x : Int) (O : List Int) (m : Nat) (c : Int) (h : m < O.length) : rowL x [] (O.drop m) c = c :: O.drop (m + 1) := by
  rw [List.drop_eq_getElem_cons h, rowL]
/-- what the inner loop knows: T is what the row comes to -/
def RowRel (b : List Int) (x : Int) (k n : Nat) (T : List Int) (w : World) (cr i : Value) (wr : World) : Prop :=
  ∃ (j : Nat) (c : Int) (O : List Int), j ≤ b.length ∧ i = .int .i64 j ∧ cr = .int .i64 c ∧ 0 ≤ c ∧ c ≤ 999999999 ∧ O.length = n ∧ DigN O ∧ O.take (k + j) ++ rowL x (b.drop j) (O.drop (k + j)) c = T ∧
    wr.ownsRow w.heap.size 3 1 (.slice (some ⟨w.heap.size, 0, none⟩) n n) n (intsV O) ∧ Below w.heap.size w wr
theorem mul_next (a b O T : List Int) (k : Nat) (hk : k < a.length) (hO : k < O.length) (hT : O.take k ++ rowL a[k] b (O.drop k) 0 = T) (hr : 0 < (rowL a[k] b (O.drop k) 0).length) :
    T.take (k + 1) ++ mulL (a.drop (k + 1)) b (T.drop (k + 1)) = O.take k ++ mulL (a.drop k) b (O.drop k) := by
  have hlt : (O.take k).length = k := by rw [List.length_take]; omega
  rw [List.drop_eq_getElem_cons hk, mulL]
  cases hrow : rowL a[k] b (O.drop k) 0 with
  | nil => rw [hrow] at hr; simp at hr
  | cons h R =>
    rw [hrow] at hT
    have e1 : (O.take k ++ h :: R).take (k + 1) = O.take k ++ [h] := by
      rw [List.take_append, hlt, show k + 1 - k = 1 from by omega, List.take_of_length_le (l := O.take k) (by omega)]
      rfl
    have e2 : (O.take k ++ h :: R).drop (k + 1) = R := by
      rw [List.drop_append, hlt, show k + 1 - k = 1 from by omega, List.drop_of_length_le (l := O.take k) (by omega)]
      rfl
    rw [← hT, e1, e2, List.append_assoc]
    rfl

set_option maxHeartbeats 4000000 in
set_option maxRecDepth 100000 in
theorem specMul_any (va vb : Value) (a b : List Int) (la ha lb hb : Nat) (w : World) (hal : a.length ≤ 50) (hbl : b.length ≤ 50) (ha0 : 0 < a.length) (hb0 : 0 < b.length) (hha : ha ≤ w.heap.size) (hhb : hb ≤ w.heap.size) (oa : DigN a) (ob : DigN b)
    (hra : Row w la ha va (intsV a)) (hrb : Row w lb hb vb (intsV b)) :
    Calls Try.prog 43 #[va, vb] w (NewInts (trimL (mulL a b (List.replicate (a.length + b.length) 0))) w) := by
  obtain ⟨A, c, rfl, hA⟩ := hra
  obtain ⟨B, d, rfl, hB⟩ := hrb
  rw [intsV_length, intsV_length]
  have HA := Lib.hid hA
  have HB := Lib.hid hB
  have OA := Lib.hid oa
  have OB := Lib.hid ob
  have hmk := make_sum a.length b.length (by omega) (by omega)
  have hza : ((a.length : Int) == 0) = false := by rw [beq_eq_false_iff_ne]; omega
  have hzb : ((b.length : Int) == 0) = false := by rw [beq_eq_false_iff_ne]; omega
  clear hA hB oa ob
  go_enter Try.func43, Try.ntmps43
  go_wp2
  go_loopw [28] (fun i wr => MulRel a b w i wr) (fun i _ => a.length - (intOf i).toNat)
  case atStart =>
    refine ⟨0, List.replicate (a.length + b.length) 0, Nat.zero_le _, rfl, by simp, fun d hd => by rw [(List.mem_replicate.1 hd).2]; omega, by simp, ?_, (Below.refl _ _).alloc (Nat.le_refl _) _⟩
    have h := World.ownsRow_lit (e := 3) (size := 1) (base := w.heap.size) w (madeCells #[.int .i64 0] (a.length + b.length)) (a.length + b.length) (Nat.le_refl _) (by unfold maxLen; omega) (by rw [size_madeCells, Nat.mul_one])
    rw [toList_madeCells_one] at h
    simpa [intsV] using h
  case round =>
    obtain ⟨k, O, hk, rfl, hOl, hOd, hev, hown, hb1⟩ := hrel
    obtain ⟨wo, rfl⟩ : ∃ wo : World, wo = wr := ⟨_, rfl⟩
    have HE := Lib.hid hev
    have HOL := Lib.hid hOl
    have HOD := Lib.hid hOd
    clear hev hOl hOd
    by_cases h1 : k < a.length
    · obtain ⟨p, rfl, _, hpb, hca⟩ := HA.out k _ (intsV_at a k h1)
      have hca' : wo.cell? (p.add k) = some (.int .i64 a[k]) := (hb1.cell (by rw [block_add]; omega)).trans hca
      have hda := OA.out.at_ k h1
      clear hca
      have hOk : k < O.length := by have := HOL.out; omega
      obtain ⟨T, HT⟩ : ∃ T, Hid (O.take k ++ rowL a[k] b (O.drop k) 0 = T) := ⟨_, Lib.hid rfl⟩
      go_wp2
      go_loopw [8, 35] (fun cr i wi => RowRel b a[k] k (a.length + b.length) T w cr i wi) (fun _ i _ => b.length - (intOf i).toNat)
      case atStart => exact ⟨0, 0, O, Nat.zero_le _, rfl, rfl, by omega, by omega, HOL.out, HOD.out, HT.out, hown, hb1⟩
      case round =>
        obtain ⟨j, cr, O1, hj, rfl, rfl, hc0, hc1, hl1, hd1, he1, hown1, hb2⟩ := hrel
        have HL1 := Lib.hid hl1
        have HD1 := Lib.hid hd1
        have HE1 := Lib.hid he1
        clear hl1 hd1 he1 hown
        have hlen1 : O1.length ≤ a.length + b.length := by have := HL1.out; omega
        by_cases h2 : j < b.length
        · obtain ⟨r, rfl, _, hrb, hcb⟩ := HB.out j _ (intsV_at b j h2)
          have hcb' : wr.cell? (r.add j) = some (.int .i64 b[j]) := (hb2.cell (by rw [block_add]; omega)).trans hcb
          have hdb := OB.out.at_ j h2
          clear hcb
          have hm : k + j < O1.length := by have := HL1.out; omega
          have hdo := HD1.out.at_ (k + j) hm
          have hmul := mul_bound a[k] b[j] hda.1 hda.2 hdb.1 hdb.2
          have hcell := hown1.cellAt (k + j) (by omega)
          rw [intsV_at O1 (k + j) hm] at hcell
          have hfr := hown1.frozenAt (k + j)
          obtain ⟨ho2, hg2⟩ := hown1.stored (k + j) (.int .i64 ((O1[k + j] + a[k] * b[j] + cr) % 1000000000))
          rw [intsV_set] at ho2
          have hb3 := hb2.grown hg2 hb2.size (fun g hg => by cases hg; exact Nat.le_refl _)
          have HS := Lib.hid (rowL_drop a[k] b O1 j (k + j) cr h2 hm)
          have HSS := Lib.hid (set_split O1 (k + j) ((O1[k + j] + a[k] * b[j] + cr) % 1000000000) hm)
          clear hown1 hg2
          go_wp2
          refine ⟨⟨j + 1, (O1[k + j] + a[k] * b[j] + cr) / 1000000000, _, by omega, by go_num, rfl, by omega, by omega, by rw [List.length_set]; exact HL1.out, HD1.out.setM (k + j) _ (by omega) (by omega), ?_, ho2, hb3⟩, by simp [intOf]; omega⟩
          rw [show k + (j + 1) = k + j + 1 from by omega, HSS.out.1, HSS.out.2.1, List.append_assoc]
          have e1 := HE1.out
          rw [HS.out] at e1
          exact e1
        · obtain rfl : j = b.length := by omega
          have hm : k + b.length < O1.length := by have := HL1.out; omega
          have hcell := hown1.cellAt (k + b.length) (by omega)
          rw [intsV_at O1 (k + b.length) hm] at hcell
          have hfr := hown1.frozenAt (k + b.length)
          obtain ⟨ho2, hg2⟩ := hown1.stored (k + b.length) (.int .i64 cr)
          rw [intsV_set] at ho2
          have hb3 := hb2.grown hg2 hb2.size (fun g hg => by cases hg; exact Nat.le_refl _)
          have HTT : Hid (O1.set (k + b.length) cr = T) := Lib.hid (by
            have e1 := HE1.out
            rw [List.drop_of_length_le (l := b) (Nat.le_refl _), rowL_nil _ _ _ _ hm] at e1
            rw [(set_split O1 (k + b.length) cr hm).2.2]
            exact e1)
          have HDT := Lib.hid (HD1.out.setM (k + b.length) cr hc0 hc1)
          have HLT : Hid ((O1.set (k + b.length) cr).length = a.length + b.length) := Lib.hid (by rw [List.length_set]; exact HL1.out)
          have HNX : Hid (T.take (k + 1) ++ mulL (a.drop (k + 1)) b (T.drop (k + 1)) = O.take k ++ mulL (a.drop k) b (O.drop k)) := Lib.hid (mul_next a b O T k h1 hOk HT.out (by
            have e1 := congrArg List.length HT.out
            have e2 := HLT.out
            rw [HTT.out] at e2
            have e3 : (O.take k).length = k := by rw [List.length_take]; omega
            rw [List.length_append, e3, e2] at e1
            omega))
          clear hown1 hg2
          go_wp2
          refine ⟨⟨k + 1, _, by omega, by go_num, HLT.out, HDT.out, ?_, ho2, hb3⟩, by simp [intOf]; omega⟩
          rw [HTT.out, HNX.out]
          exact HE.out
    · obtain rfl : k = a.length := by omega
      have HF : Hid (O = mulL a b (List.replicate (a.length + b.length) 0)) := Lib.hid (by
        have e1 := HE.out
        rwa [List.drop_of_length_le (l := a) (Nat.le_refl _), mulL, List.take_append_drop] at e1)
      have hown2 : wo.ownsRow w.heap.size 3 1 (.slice (some ⟨w.heap.size, 0, none⟩) (a.length + b.length) (a.length + b.length)) O.length (intsV O) := by rw [HOL.out]; exact hown
      have hOl : O.length ≤ 1048576 := by have := HOL.out; omega
      go_wp2_with fail
      refine (specTrim_any _ O _ _ hOl hown2).mono ?_
      rintro e w' ⟨rfl, v2, rfl, o2⟩
      go_wp2
      go_ret
      exact ⟨v2, rfl, by rw [← HF.out]; exact o2, hb1⟩

theorem limbs_zero : limbs 0 = [] := by rw [limbs, dif_pos rfl]
theorem mul_val' (a b : List Int) (ha : DigN a) (hb : DigN b) : nval (mulL a b (List.replicate (a.length + b.length) 0)) = nval a * nval b ∧ DigN (mulL a b (List.replicate (a.length + b.length) 0)) ∧ (mulL a b (List.replicate (a.length + b.length) 0)).length = a.length + b.length := by
  have hz : ∀ n, nval (List.replicate n 0) = 0 := by
    intro n
    induction n with
    | zero => rfl
    | succ n ih => rw [List.replicate_succ]; show (0 : Int) + 1000000000 * nval (List.replicate n 0) = 0; omega
  have h := mulL_val b hb a (List.replicate (a.length + b.length) 0) ha (fun d hd => by rw [(List.mem_replicate.1 hd).2]; omega) (by simp) (fun d hd => (List.mem_replicate.1 (List.mem_of_mem_drop hd)).2)
  rw [hz, List.length_replicate] at h
  exact ⟨by rw [h.1]; omega, h.2⟩
theorem trim_trim (xs : List Int) (h : DigN xs) : trimL (trimL xs) = trimL xs ∧ DigN (trimL xs) := by
  induction xs with
  | nil => exact ⟨rfl, h⟩
  | cons d r ih =>
    obtain ⟨i1, i2⟩ := ih h.tail
    by_cases hc : trimL r = [] ∧ d = 0
    · have e : trimL (d :: r) = [] := by show (if _ then _ else _) = _; rw [if_pos hc]
      rw [e]
      exact ⟨rfl, fun x hx => by cases hx⟩
    · have e : trimL (d :: r) = d :: trimL r := by show (if _ then _ else _) = _; rw [if_neg hc]
      rw [e]
      refine ⟨?_, DigN.cons h.head.1 h.head.2 i2⟩
      show (if _ then _ else _) = _
      rw [i1, if_neg hc]

set_option maxHeartbeats 400000 in
set_option maxRecDepth 100000 in
theorem specMul_nil (va vb : Value) (a b : List Int) (la ha lb hb : Nat) (w : World) (hal : a.length ≤ 50) (hbl : b.length ≤ 50) (h0 : a.length = 0 ∨ b.length = 0)
    (hra : Row w la ha va (intsV a)) (hrb : Row w lb hb vb (intsV b)) : Calls Try.prog 43 #[va, vb] w (NewInts [] w) := by
  obtain ⟨A, c, rfl, _⟩ := hra
  obtain ⟨B, d, rfl, _⟩ := hrb
  rw [intsV_length, intsV_length]
  by_cases hz : a.length = 0
  · have hza : ((a.length : Int) == 0) = true := by rw [beq_iff_eq]; omega
    clear h0 hz
    go_enter Try.func43, Try.ntmps43
    go_wp2
    go_ret
    exact new_nil (Below.refl _ _)
  · have hza : ((a.length : Int) == 0) = false := by rw [beq_eq_false_iff_ne]; omega
    have hzb : ((b.length : Int) == 0) = true := by rw [beq_iff_eq]; omega
    clear h0 hz
    go_enter Try.func43, Try.ntmps43
    go_wp2
    go_ret
    exact new_nil (Below.refl _ _)

end Go.Proofs.Ytofehcpapdlcnaa
