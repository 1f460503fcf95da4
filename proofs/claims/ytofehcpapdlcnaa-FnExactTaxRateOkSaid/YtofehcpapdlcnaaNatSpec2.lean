/-
  What NatAdd, NatSub, NatOf and NatInt of package spec return.
-/
import Derived.Test.YtofehcpapdlcnaaNatSpec
namespace Go.Proofs.Ytofehcpapdlcnaa
open Go.RowKit

/-- what NatAdd, NatSub and NatMul answer -/
def addN (a b : List Int) : List Int := if natOkB a = true ∧ natOkB b = true then natRes (nval a + nval b) else []
def subN (a b : List Int) : List Int := if natOkB a = true ∧ natOkB b = true then natRes (nval a - nval b) else []
def mulN (a b : List Int) : List Int := if natOkB a = true ∧ natOkB b = true then natRes (nval a * nval b) else []
theorem res_of {n : Int} {xs : List Int} (h : DigN xs) (e : nval xs = n) : capL (trimL xs) = natRes n := by
  unfold natRes
  rw [trim_limbs xs h, e]
theorem nil_own {w : World} {base : Nat} {e : TypeId} : w.ownsRow base e 1 (.slice none 0 0) 0 [] := ⟨rfl, .inl ⟨rfl, rfl⟩⟩
theorem new_nil {w w' : World} (hb : Below w.heap.size w w') : NewInts [] w (.returned (.slice none 0 0)) w' := ⟨_, rfl, nil_own, hb⟩
theorem new_of {w w1 w2 : World} {xs : List Int} {v : Value} (h : NewInts xs w1 (.returned v) w2) (hb : Below w.heap.size w w1) : NewInts xs w (.returned v) w2 := by
  obtain ⟨v', e, ho, hb2⟩ := h
  cases e
  have hs := hb.size
  refine ⟨v, rfl, ?_, Below.next hb hb2⟩
  obtain ⟨hl, h | ⟨g, cap, cur, e1, hg, r⟩⟩ := ho
  · exact ⟨hl, .inl h⟩
  · exact ⟨hl, .inr ⟨g, cap, cur, e1, by omega, r⟩⟩
theorem own_lower {w : World} {base base' n : Nat} {e : TypeId} {v : Value} {xs : List Value} (h : w.ownsRow base e 1 v n xs) (hb : base' ≤ base) : w.ownsRow base' e 1 v n xs := by
  obtain ⟨hl, h | ⟨g, cap, cur, e1, hg, r⟩⟩ := h
  · exact ⟨hl, .inl h⟩
  · exact ⟨hl, .inr ⟨g, cap, cur, e1, by omega, r⟩⟩





/-! ### l02Sub -/
theorem subL_drop (a b : List Int) (i : Nat) (c : Int) (h1 : i < a.length) : subL (a.drop i) (b.drop i) c = if a[i] - c - b.getD i 0 < 0 then (a[i] - c - b.getD i 0 + 1000000000) :: subL (a.drop (i + 1)) (b.drop (i + 1)) 1 else (a[i] - c - b.getD i 0) :: subL (a.drop (i + 1)) (b.drop (i + 1)) 0 := by
  have hh : (b.drop i).headD 0 = b.getD i 0 := by
    rw [List.headD_eq_head?_getD, List.head?_drop, List.getD_eq_getElem?_getD]
  have ht : (b.drop i).tail = b.drop (i + 1) := by rw [List.tail_drop]
  rw [List.drop_eq_getElem_cons h1, subL, hh, ht]
theorem getD_in (b : List Int) (i : Nat) (h : i < b.length) : b.getD i 0 = b[i] := by
  rw [List.getD_eq_getElem?_getD, List.getElem?_eq_getElem h]
  rfl
theorem getD_out (b : List Int) (i : Nat) (h : ¬ i < b.length) : b.getD i 0 = 0 := by
  rw [List.getD_eq_getElem?_getD, List.getElem?_eq_none (by omega)]
  rfl
/-- what the loop of l02Sub knows at its head -/
def SubRel (a b : List Int) (w : World) (v c i : Value) (wr : World) : Prop :=
  ∃ (k : Nat) (cr : Int) (out : List Int), k ≤ a.length ∧ i = .int .i64 k ∧ c = .int .i64 cr ∧ 0 ≤ cr ∧ cr ≤ 1 ∧ out.length = k ∧ out ++ subL (a.drop k) (b.drop k) cr = subL a b 0 ∧
    wr.ownsRow w.heap.size 3 1 v out.length (intsV out) ∧ Below w.heap.size w wr
theorem sub_step {a b out : List Int} {w w1 : World} {v1 : Value} {k : Nat} {n c : Int} (hk : k + 1 ≤ a.length) (h0 : 0 ≤ c) (h1 : c ≤ 1) (hl : out.length = k) (e : out ++ n :: subL (a.drop (k + 1)) (b.drop (k + 1)) c = subL a b 0)
    (ho : w1.ownsRow w.heap.size 3 1 v1 (out.length + 1) (intsV out ++ [.int .i64 n])) (hb : Below w.heap.size w w1) : SubRel a b w v1 (.int .i64 c) (.int .i64 ((k : Int) + 1)) w1 := by
  refine ⟨k + 1, c, out ++ [n], hk, by go_num, rfl, h0, h1, by simp [hl], by rw [List.append_assoc]; exact e, ?_, hb⟩
  simpa [intsV] using ho


theorem capL_trim_sub (a b : List Int) (h : (subL a b 0).length ≤ 50) : capL (trimL (subL a b 0)) = trimL (subL a b 0) := by
  have := trimL_length (subL a b 0)
  unfold capL
  rw [if_neg (by omega)]
theorem natRes_neg (n : Int) (h : n < 0) : natRes n = [] := by
  unfold natRes
  rw [show n.toNat = 0 from by omega, limbs, dif_pos rfl]
  rfl
theorem len_of_le (a b : List Int) (ha : DigN a) (hb : DigN b ∧ b.getLastD 1 ≠ 0) (h : nval b ≤ nval a) : b.length ≤ a.length := by
  rcases Nat.lt_or_ge a.length b.length with hl | hl
  · have := nval_short a b ha hb.1 hl hb.2
    omega
  · exact hl
end Go.Proofs.Ytofehcpapdlcnaa
