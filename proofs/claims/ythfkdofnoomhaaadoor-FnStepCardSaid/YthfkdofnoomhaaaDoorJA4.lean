/-
  What NatOk, NatOf, NatCmp and NatInt of package impl return.
  What the methods of impl.nat do to a number of the call's own that is under construction.
  What addAt, addTimes, takeAt, take and trim of impl.nat do to a number of the call's own.
  What addTimes and take of impl.nat do to a number of the call's own.
  What NatAdd, NatSub and NatMul of package impl return.
  A limb of a nat, or 0 beyond its ends.
  Contracts of library functions, laid over this program: each is one application of a theorem of the library.
  What spec.IntText and impl.IntText return: the decimal numeral.
  What (*strings.Builder).copyCheck and WriteString do to a builder of the call's own.
  What impl.joinAll, impl.Join and spec.Join return: the same text.
  What spec.Pad and impl.Pad return.
-/
import Derived.Lib.Builder
import Derived.Lib.SliceRun
import Derived.Deep.LoopGhost
import Derived.Shelf.Bits.Mul64
import Derived.Shelf.Small.Bits
import Derived.Shelf.Small.Wraps
import Derived.Shelf.Strconv.Itoa3
import Derived.Shelf.Strings.BuilderK
import Derived.Shelf.Strings.Repeat
import Derived.Shelf.Strings.Search2
import Derived.Shelf.Strings.Trim
import Derived.Test.YthfkdofnoomhaaaDoorProg
import Derived.Deep.RegionWith
import Derived.Lib.ItoaNum
import Derived.IntWalk
import Derived.Lib.FrozenHead2
import Derived.Lib.OthersKept
import Derived.Test.YthfkdofnoomhaaaDoorJA3
namespace Go.Proofs.YthfkdofnoomhaaaDoor
open Go.RowKit

theorem digB_true {d : Int} (h : digB d = true) : 0 ≤ d ∧ d ≤ 999999999 := of_decide_eq_true h
theorem digB_false {d : Int} (h : digB d = false) : ¬ (0 ≤ d ∧ d ≤ 999999999) := of_decide_eq_false h

set_option maxHeartbeats 400000 in
set_option maxRecDepth 100000 in
theorem implNatOk_same (v : Value) (xs : List Int) (lo hi : Nat) (w : World) (hl : xs.length ≤ 9223372036854775807) (hr : Row w lo hi v (intsV xs)) :
    Calls Tryd.prog 96 #[v] w fun e w' => e = .returned (.bool (natOkB xs)) ∧ w = w' := by
  obtain ⟨A, c, rfl, hA⟩ := hr
  have HA := Lib.hid hA
  rw [intsV_length]
  clear hA
  by_cases h50 : xs.length ≤ 50
  · go_enter Tryd.func96, Tryd.ntmps96
    go_wp2
    go_loop [10] (fun i => ∃ k : Nat, k ≤ xs.length ∧ i = .int .i64 k ∧ Hid ((xs.take k).all digB = true)) (fun i => xs.length - (intOf i).toNat)
    case atStart => exact ⟨0, Nat.zero_le _, rfl, Lib.hid rfl⟩
    case round =>
      obtain ⟨k, hk, rfl, HD⟩ := hrel
      by_cases hlt : k < xs.length
      · obtain ⟨a, rfl, _, _, hca⟩ := HA.out k _ (intsV_at xs k hlt)
        by_cases hd : digB xs[k] = true
        · have HS := Lib.hid (all_succ xs k hlt HD.out hd)
          have hd2 := digB_true hd
          have hd3 := hd2.1
          have hd4 := hd2.2
          clear hd2 hd
          go_wp2
          go_round
          case rel => exact ⟨k + 1, by omega, by go_num, HS⟩
          case measure => simp [intOf]; omega
        · have hd' : digB xs[k] = false := by simpa using hd
          have HN := Lib.hid (not_all xs k hlt hd')
          have hd2 := digB_false hd'
          by_cases hneg : xs[k] < 0
          · go_wp2
            go_ret
            exact ⟨ret_bool HN.out.symm, rfl⟩
          · have hbig : 1000000000 ≤ xs[k] := by omega
            go_wp2
            go_ret
            exact ⟨ret_bool HN.out.symm, rfl⟩
      · have HF := Lib.hid (all_upto xs k HD.out hlt)
        by_cases h0 : xs.length = 0
        · have hz : ((xs.length : Int) == 0) = true := by simp [h0]
          obtain rfl : xs = [] := List.eq_nil_of_length_eq_zero h0
          clear h0
          go_wp2
          go_ret
          exact ⟨rfl, rfl⟩
        · have hz : ((xs.length : Int) == 0) = false := by rw [beq_eq_false_iff_ne]; omega
          have hlt2 : xs.length - 1 < xs.length := by omega
          obtain ⟨a, rfl, _, _, hca⟩ := HA.out (xs.length - 1) _ (intsV_at xs (xs.length - 1) hlt2)
          have HL := Lib.hid (ok_last xs HF.out h50 hlt2)
          clear h0
          go_wp2
          go_ret
          exact ⟨ret_bool HL.out, rfl⟩
  · have HN := Lib.hid (ok_long xs h50)
    go_enter Tryd.func96, Tryd.ntmps96
    go_wp2
    go_ret
    exact ⟨ret_bool HN.out.symm, rfl⟩
theorem implNatOk_any (v : Value) (xs : List Int) (lo hi : Nat) (w : World) (hl : xs.length ≤ 1048576) (_ : hi ≤ w.heap.size) (hr : Row w lo hi v (intsV xs)) :
    Calls Tryd.prog 96 #[v] w fun e w' => e = .returned (.bool (natOkB xs)) ∧ Below w.heap.size w w' := by
  refine (implNatOk_same v xs lo hi w (by omega) hr).mono ?_
  rintro e w' ⟨rfl, rfl⟩
  exact ⟨rfl, Below.refl _ _⟩

set_option maxHeartbeats 400000 in
set_option maxRecDepth 100000 in
theorem implNatOf_any (n : Int) (w : World) (h1 : n ≤ 9223372036854775807) :
    Calls Tryd.prog 46 #[.int .i64 n] w (NewInts (limbs n.toNat) w) := by
  obtain ⟨i0, hi, hz0, hz1, hz2⟩ := info_parts intInfo
  go_enter Tryd.func46, Tryd.ntmps46
  go_wp2
  go_loopw [0, 3] (fun a v wr => ∃ (m : Int) (out : List Int) (f : Nat), m ≤ 9223372036854775807 ∧ out.length + f ≤ 3 ∧ m < 1000000000 ^ f ∧ a = .int .i64 m ∧ Hid (out ++ limbs m.toNat = limbs n.toNat) ∧ wr.ownsRow w.heap.size 3 1 v out.length (intsV out) ∧ Below w.heap.size w wr) (fun a _ _ => (intOf a).toNat)
  case atStart => exact ⟨n, [], 3, h1, by simp, by omega, rfl, Lib.hid rfl, World.ownsRow_nil _ _ _ _, Below.refl _ _⟩
  case round =>
    obtain ⟨m, out, f, hm, hol, hmf, rfl, HE, hown, hb1⟩ := hrel
    by_cases h0 : 0 < m
    · obtain ⟨g, rfl⟩ : ∃ g, f = g + 1 := by
        cases f with
        | zero => simp at hmf; omega
        | succ g => exact ⟨g, rfl⟩
      have hmg : m / 1000000000 < 1000000000 ^ g := by
        rw [Int.pow_succ] at hmf
        exact Int.ediv_lt_of_lt_mul (by omega) hmf
      have HS : Hid (out ++ [m % 1000000000] ++ limbs (m / 1000000000).toNat = limbs n.toNat) := Lib.hid (by
        have e := HE.out
        rw [limbs_pos m.toNat (by omega)] at e
        rw [List.append_assoc, ← e, show ((m.toNat % 1000000000 : Nat) : Int) = m % 1000000000 from by omega, show m.toNat / 1000000000 = (m / 1000000000).toNat from by omega]
        rfl)
      clear hmf
      go_wp2_with (at_builtin; refine wpList_append_own _ rfl (.tmp 8) (.tmp 11) 22 rfl w.heap.size 3 i0 (.int .i64 0) 1 8 Tryd.underlying22 hi hz0 hz1 hz2 rfl (by decide) _ _ _ rfl (own_alloc hown _) ⟨wr.heap.size, 0, none⟩ 1 1 [.int .i64 (m % 1000000000)] rfl rfl (one_new _ _ _) ?c2 ?c3 ?c4 ?c5 ?_)
      case c2 => first | (intro u hu; simp at hu; subst hu; rfl) | rfl
      case c3 => unfold maxLen; omega
      case c4 => omega
      case c5 => have := hb1.size; simp; omega
      intro v1 w1 hown1 hg1 _
      have hb2 := below_push hb1 (Nat.le_refl _) hown hg1
      go_wp2
      exact ⟨⟨m / 1000000000, out ++ [m % 1000000000], g, by omega, by simp; omega, hmg, rfl, HS, by simpa [intsV] using hown1, hb2⟩, by simp [intOf]; omega⟩
    · have HF : Hid (out = limbs n.toNat) := Lib.hid (by have e := HE.out; rwa [show m.toNat = 0 from by omega, limbs_none, List.append_nil] at e)
      go_wp2
      go_ret
      exact ⟨_, rfl, by rw [← HF.out]; exact hown, hb1⟩

/-- a callee that only computes, met inside a region that draws -/
theorem quiet_at {P : Program} {f : FuncId} {args : Array Value} {W : World} {X : Nat → World} {n : Nat} {v : Value} (hX : X n = W)
    (h : Calls P f args W fun e w' => e = .returned v ∧ W = w') : Calls P f args W fun e w'' => e = .returned v ∧ ∃ m, w'' = X m :=
  h.mono fun _ _ ⟨he, hm⟩ => ⟨he, n, hm.symm.trans hX.symm⟩

set_option maxHeartbeats 400000 in
set_option maxRecDepth 100000 in
theorem isNaN_any (x : Int) (w : World) : Calls Tryd.prog 178 #[.int .i64 x] w fun e w' => e = .returned (.bool false) ∧ w = w' := by
  go_enter Tryd.func178, Tryd.ntmps178
  go_wp2
  go_ret
  exact ⟨by simp, rfl⟩
set_option maxHeartbeats 400000 in
set_option maxRecDepth 100000 in
theorem compare_any (x y : Int) (w : World) : Calls Tryd.prog 148 #[.int .i64 x, .int .i64 y] w fun e w' => e = .returned (.int .i64 (cmpI x y)) ∧ w = w' := by
  go_enter Tryd.func148, Tryd.ntmps148
  go_wp2_with (go_at_call 178; refine (isNaN_any _ _).mono ?_; rintro e w' ⟨rfl, rfl⟩)
  all_goals (go_ret; refine ⟨?_, rfl⟩; unfold cmpI; (repeat' split) <;> first | rfl | (exfalso; omega))

set_option maxHeartbeats 1000000 in
set_option maxRecDepth 100000 in
theorem compareLimbs_any (va vb : Value) (a b : List Int) (la ha lb hb : Nat) (w : World) (hal : a.length ≤ 9223372036854775807) (_hbl : b.length ≤ 9223372036854775807) (oa : DigN a ∧ a.getLastD 1 ≠ 0) (ob : DigN b ∧ b.getLastD 1 ≠ 0)
    (hra : Row w la ha va (intsV a)) (hrb : Row w lb hb vb (intsV b)) :
    Calls Tryd.prog 90 #[va, vb] w fun e w' => e = .returned (.int .i64 (cmpI (nval a) (nval b))) ∧ ∃ q, w.drewN q = w' := by
  have OA := Lib.hid oa
  have OB := Lib.hid ob
  obtain ⟨A, c, rfl, hA⟩ := hra
  obtain ⟨B, d, rfl, hB⟩ := hrb
  rw [intsV_length]
  rw [intsV_length]
  have HA := Lib.hid hA
  have HB := Lib.hid hB
  clear hA hB oa ob
  by_cases hlen : a.length = b.length
  · have HL := Lib.hid hlen
    have hbe : ((a.length : Int) != (b.length : Int)) = false := by simp [hlen]
    clear hlen
    go_enter Tryd.func90, Tryd.ntmps90
    go_wp2
    go_loopw [5] (fun i wr => ∃ k q : Nat, k ≤ a.length ∧ i = .int .i64 ((k : Int) - 1) ∧ wr = w.drewN q ∧ Hid (a.drop k = b.drop k)) (fun i _ => (intOf i + 1).toNat)
    case atStart => exact ⟨a.length, 0, Nat.le_refl _, rfl, rfl, Lib.hid (by rw [List.drop_of_length_le (Nat.le_refl _), List.drop_of_length_le (by have := HL.out; omega)])⟩
    case round =>
      obtain ⟨k, q, hk, rfl, rfl, HT⟩ := hrel
      by_cases hz : 0 < k
      · obtain ⟨m, rfl⟩ : ∃ m, k = m + 1 := ⟨k - 1, by omega⟩
        have hlt : m < a.length := by omega
        have hlt2 : m < b.length := by have := HL.out; omega
        obtain ⟨p, rfl, _, _, hca⟩ := HA.out m _ (intsV_at a m hlt)
        obtain ⟨r, rfl, _, _, hcb⟩ := HB.out m _ (intsV_at b m hlt2)
        have hm1 : ((m + 1 : Nat) : Int) - 1 = (m : Int) := by omega
        rw [hm1]
        clear hm1 hz
        by_cases he : a[m] = b[m]
        · have hne : (a[m] != b[m]) = false := by simp [he]
          have HS := Lib.hid (drop_same a b m hlt hlt2 HT.out he)
          clear he
          go_wp2
          go_quiet (fail)
          go_wp2
          go_roundw
          case rel => exact ⟨m, _, by omega, rfl, rfl, HS⟩
          case measure => simp [intOf]
        · have hne : (a[m] != b[m]) = true := by rw [bne_iff_ne]; exact he
          have HV : Hid (cmpI a[m] b[m] = cmpI (nval a) (nval b)) := Lib.hid (by
            by_cases h1 : a[m] < b[m]
            · rw [cmp_lt h1, cmp_lt (nval_lt_down a b OA.out.1 OB.out.1 HL.out m (by rw [nval_drop a m hlt, nval_drop b m hlt2, HT.out]; omega))]
            · rw [cmp_gt (show b[m] < a[m] by omega), cmp_gt (nval_lt_down b a OB.out.1 OA.out.1 HL.out.symm m (by rw [nval_drop a m hlt, nval_drop b m hlt2, HT.out]; omega))])
          clear he
          go_wp2
          go_quiet (fail)
          go_wp2
          go_quiet ((go_at_call 148; exact quiet_at rfl (compare_any _ _ _)))
          go_wp2
          go_ret
          exact ⟨ret_int HV.out, drew_three _ _ _ _⟩
      · obtain rfl : k = 0 := by omega
        go_wp2
        go_ret
        exact ⟨ret_int (cmp_eq (by have := HT.out; rw [List.drop_zero, List.drop_zero] at this; rw [this])).symm, q, rfl⟩
  · have hbe : ((a.length : Int) != (b.length : Int)) = true := by simp; omega
    have HV : Hid (cmpI (a.length : Int) (b.length : Int) = cmpI (nval a) (nval b)) := Lib.hid (by
      by_cases hs : a.length < b.length
      · rw [cmp_lt (by omega), cmp_lt (nval_short a b OA.out.1 OB.out.1 hs OB.out.2)]
      · rw [cmp_gt (by omega), cmp_gt (nval_short b a OB.out.1 OA.out.1 (by omega) OA.out.2)])
    clear hlen
    go_enter Tryd.func90, Tryd.ntmps90
    go_wp2_with (go_at_call 148; refine (compare_any _ _ _).mono ?_; rintro e w' ⟨rfl, rfl⟩)
    go_ret
    exact ⟨ret_int HV.out, 0, rfl⟩

set_option maxHeartbeats 1000000 in
set_option maxRecDepth 100000 in
theorem implNatCmp_drew (va vb : Value) (a b : List Int) (la ha lb hb : Nat) (w : World) (hal : a.length ≤ 9223372036854775807) (hbl : b.length ≤ 9223372036854775807)
    (hra : Row w la ha va (intsV a)) (hrb : Row w lb hb vb (intsV b)) :
    Calls Tryd.prog 133 #[va, vb] w fun e w' => e = .returned (.int .i64 (cmpN a b)) ∧ ∃ q, w.drewN q = w' := by
  by_cases oa : natOkB a = true
  · by_cases ob : natOkB b = true
    · have HC := Lib.hid (show cmpN a b = cmpI (nval a) (nval b) by unfold cmpN; rw [if_pos ⟨oa, ob⟩])
      have OA := Lib.hid (ok_dig oa)
      have OB := Lib.hid (ok_dig ob)
      go_enter Tryd.func133, Tryd.ntmps133
      go_wp2_with fail
      refine (implNatOk_same va a la ha _ hal hra).mono ?_
      rintro e w' ⟨rfl, rfl⟩
      rw [oa]
      go_wp2_with fail
      refine (implNatOk_same vb b lb hb _ hbl hrb).mono ?_
      rintro e w' ⟨rfl, rfl⟩
      rw [ob]
      clear oa ob
      go_wp2_with fail
      refine (compareLimbs_any va vb a b la ha lb hb _ hal hbl OA.out OB.out hra hrb).mono ?_
      rintro e w' ⟨rfl, q, rfl⟩
      go_wp2
      go_ret
      exact ⟨ret_int HC.out.symm, q, rfl⟩
    · have ob' : natOkB b = false := by simpa using ob
      have HC := Lib.hid (show cmpN a b = 0 by unfold cmpN; rw [if_neg (fun h => ob h.2)])
      clear ob
      go_enter Tryd.func133, Tryd.ntmps133
      go_wp2_with fail
      refine (implNatOk_same va a la ha _ hal hra).mono ?_
      rintro e w' ⟨rfl, rfl⟩
      rw [oa]
      go_wp2_with fail
      refine (implNatOk_same vb b lb hb _ hbl hrb).mono ?_
      rintro e w' ⟨rfl, rfl⟩
      rw [ob']
      go_wp2
      go_ret
      exact ⟨ret_int HC.out.symm, 0, rfl⟩
  · have oa' : natOkB a = false := by simpa using oa
    have HC := Lib.hid (show cmpN a b = 0 by unfold cmpN; rw [if_neg (fun h => oa h.1)])
    clear oa
    go_enter Tryd.func133, Tryd.ntmps133
    go_wp2_with fail
    refine (implNatOk_same va a la ha _ hal hra).mono ?_
    rintro e w' ⟨rfl, rfl⟩
    rw [oa']
    go_wp2
    go_ret
    exact ⟨ret_int HC.out.symm, 0, rfl⟩
theorem implNatCmp_any (va vb : Value) (a b : List Int) (la ha lb hb : Nat) (w : World) (hal : a.length ≤ 1048576) (hbl : b.length ≤ 1048576) (_ : ha ≤ w.heap.size) (_ : hb ≤ w.heap.size)
    (hra : Row w la ha va (intsV a)) (hrb : Row w lb hb vb (intsV b)) :
    Calls Tryd.prog 133 #[va, vb] w fun e w' => e = .returned (.int .i64 (cmpN a b)) ∧ Below w.heap.size w w' := by
  refine (implNatCmp_drew va vb a b la ha lb hb w (by omega) (by omega) hra hrb).mono ?_
  rintro e w' ⟨rfl, q, rfl⟩
  exact ⟨rfl, below_drewN (Below.refl _ _) q⟩

theorem max_limbs : limbs (9223372036854775807 : Int).toNat = [854775807, 223372036, 9] := by
  rw [show (9223372036854775807 : Int).toNat = 9223372036854775807 from rfl, limbs_pos _ (by decide), limbs_pos _ (by decide), limbs_pos _ (by decide), limbs, dif_pos (by decide)]
  rfl

end Go.Proofs.YthfkdofnoomhaaaDoor

namespace Go.Proofs.YthfkdofnoomhaaaDoor
open Go.RowKit

/-- what a nat lies in: the cells behind its limbs, and the type of the block (a nat alone, or the head of an integer) -/
structure NatK where
  rest : List Value
  ty : TypeId
  ne : ty ≠ 3
@[reducible] def natK : NatK := ⟨[], 126, by decide⟩
/-- the pointer at block b leads to a nat of the call's own whose limbs are xs -/
def NatX (K : NatK) (B b : Nat) (xs : List Int) (w : World) : Prop :=
  B ≤ b ∧ ∃ v, w.heap[b]? = some (.cells (v :: K.rest).toArray K.ty (0, 0)) ∧ w.ownsRow B 3 1 v xs.length (intsV xs) ∧ v.ownBlock ≠ some b

abbrev NatAt (B b : Nat) (xs : List Int) (w : World) : Prop := NatX natK B b xs w

theorem NatX.lt {K : NatK} {B b : Nat} {xs : List Int} {w : World} (h : NatX K B b xs w) : b < w.heap.size := by
  obtain ⟨_, v, hb, _⟩ := h
  exact (Array.getElem?_eq_some_iff.1 hb).1
theorem NatX.cell {K : NatK} {v : Value} {b : Nat} {w : World} (hb : w.heap[b]? = some (.cells (v :: K.rest).toArray K.ty (0, 0))) : w.cell? ⟨b, 0, none⟩ = some v := by
  rw [Lib.cell_of_heap hb]; simp
theorem NatX.cell1 {K : NatK} {v u : Value} {b : Nat} {w : World} (hb : w.heap[b]? = some (.cells (v :: K.rest).toArray K.ty (0, 0))) (j : Nat) (hj : K.rest[j]? = some u) : w.cell? ⟨b, j + 1, none⟩ = some u := by
  rw [Lib.cell_of_heap hb]; simpa using hj
/-- new limbs laid into it -/
theorem NatX.put {K : NatK} {B b : Nat} {v v' : Value} {ys : List Int} {w : World} (hB : B ≤ b) (hb : w.heap[b]? = some (.cells (v :: K.rest).toArray K.ty (0, 0))) (hown : w.ownsRow B 3 1 v' ys.length (intsV ys)) :
    NatX K B b ys (w.setCell ⟨b, 0, none⟩ v') := by
  have hne := Lib.ownBlock_ne hown hb K.ne
  refine ⟨hB, v', ?_, ?_, hne⟩
  · simp [World.setCell, Array.getElem?_modify, hb]
  · exact hown.kept (row := some b) ⟨rfl, rfl, rfl, by simp [World.setCell], fun k _ hk => Below.heap_setCell _ _ _ _ (fun e => hk (by simp [e]))⟩ (Or.inr hne)
theorem NatAt.put {B b : Nat} {v v' : Value} {ys : List Int} {w : World} (hB : B ≤ b) (hb : w.heap[b]? = some (.cells #[v] 126 (0, 0))) (hown : w.ownsRow B 3 1 v' ys.length (intsV ys)) :
    NatAt B b ys (w.setCell ⟨b, 0, none⟩ v') := NatX.put (K := natK) hB hb hown
theorem NatX.new {K : NatK} {B : Nat} {v : Value} {xs : List Int} {w : World} (hB : B ≤ w.heap.size) (hown : w.ownsRow B 3 1 v xs.length (intsV xs)) : NatX K B w.heap.size xs (w.alloc (.cells (v :: K.rest).toArray K.ty)) := by
  refine ⟨hB, v, heap_alloc_new w _, own_alloc hown _, fun h => ?_⟩
  have := (own_lt hown h).2
  omega
theorem NatAt.new {B : Nat} {v : Value} {xs : List Int} {w : World} (hB : B ≤ w.heap.size) (hown : w.ownsRow B 3 1 v xs.length (intsV xs)) : NatAt B w.heap.size xs (w.alloc (.cells #[v] 126)) :=
  NatX.new (K := natK) hB hown

set_option maxHeartbeats 1000000 in
set_option maxRecDepth 100000 in
theorem cloneI_any (v : Value) (xs : List Int) (lo hi : Nat) (w : World) (hl : xs.length ≤ 1048576) (hr : Row w lo hi v (intsV xs)) :
    Calls Tryd.prog 87 #[v] w (NewInts xs w) := by
  obtain ⟨i0, hi0, hz0, hz1, hz2⟩ := info_parts intInfo
  obtain ⟨A, c, rfl, hA⟩ := hr
  have q22 : ∀ (w : World) (a : Option Addr) (n c n' c' : Nat), (binOp .eql 22 (.slice a n c) (.slice none n' c')).run Tryd.prog w = .ok (.bool a.isNone) w := fun w a n c n' c' => Lib.run_eql_slice_nil w _ _ a n c n' c' Tryd.underlying22
  cases A with
  | none =>
    obtain rfl : xs = [] := by
      cases xs with
      | nil => rfl
      | cons x r =>
        obtain ⟨a, e, _⟩ := hA 0 _ rfl
        cases e
    clear hA
    go_enter Tryd.func87, Tryd.ntmps87
    go_wp2
    go_ret
    exact ⟨_, rfl, World.ownsRow_nil _ _ _ _, Below.refl _ _⟩
  | some a =>
    have HA := Lib.hid hA
    clear hA
    rw [intsV_length]
    go_enter Tryd.func87, Tryd.ntmps87
    go_wp2_with (at_builtin; refine wpList_append_own _ rfl _ _ 22 rfl w.heap.size 3 i0 (.int .i64 0) 1 8 Tryd.underlying22 hi0 hz0 hz1 hz2 rfl (by decide) _ _ _ rfl (World.ownsRow_made w #[] 0 (Nat.le_refl _) (Nat.zero_le _) rfl) a xs.length c (intsV xs) rfl ?qc1 ?qc2 ?qc3 ?qc4 ?qc5 ?qc6 ?_)
    case qc1 => simp [intsV_length]
    case qc2 =>
      intro j u hj
      obtain ⟨p, e, h1, h2, h3⟩ := HA.out j u hj
      cases e
      exact Lib.cell?_alloc_some _ h3
    case qc3 => intro u hu; obtain ⟨x, _, rfl⟩ := List.mem_map.1 hu; rfl
    case qc4 => unfold maxLen; omega
    case qc5 => omega
    case qc6 => simp
    intro v' w1 hown hgrow hnil
    go_wp2
    go_ret
    exact ⟨v', rfl, by simpa using hown, ((Below.refl _ w).alloc (Nat.le_refl _) _).grown hgrow (by simp) (by intro k hk; simp [Value.ownBlock] at hk; omega)⟩

/-- a new nat that holds xs -/
def NewNat (xs : List Int) (w : World) (e : Ending) (w' : World) : Prop :=
  ∃ b, e = .returned (.pointer (some ⟨b, 0, none⟩)) ∧ NatAt w.heap.size b xs w' ∧ Below w.heap.size w w'

set_option maxHeartbeats 400000 in
set_option maxRecDepth 100000 in
theorem copyNat_any (v : Value) (xs : List Int) (lo hi : Nat) (w : World) (hl : xs.length ≤ 1048576) (hr : Row w lo hi v (intsV xs)) :
    Calls Tryd.prog 97 #[v] w (NewNat xs w) := by
  go_enter Tryd.func97, Tryd.ntmps97
  go_wp2_with fail
  refine (cloneI_any v xs lo hi _ hl hr).mono ?_
  rintro e w1 ⟨v1, rfl, o1, b1⟩
  obtain ⟨A1, c1, rfl⟩ := own_len o1
  go_wp2
  go_ret
  exact ⟨_, rfl, NatAt.new b1.size o1, b1.alloc b1.size _⟩

set_option maxHeartbeats 400000 in
set_option maxRecDepth 100000 in
theorem natResult_any {K : NatK} (B b : Nat) (xs : List Int) (w : World) (hl : xs.length ≤ 1048576) (h : NatX K B b xs w) :
    Calls Tryd.prog 157 #[.pointer (some ⟨b, 0, none⟩)] w (OwnPost B (capL xs) w) := by
  obtain ⟨hB, v, hb, hown, hne⟩ := h
  have hc : w.cell? ⟨b, 0, none⟩ = some v := NatX.cell hb
  obtain ⟨A, c, rfl⟩ := own_len hown
  have HB := Lib.hid hb
  have HO := Lib.hid hown
  clear hb hown hne
  by_cases h50 : 50 < xs.length
  · have HR := Lib.hid (show capL xs = [] by unfold capL; rw [if_pos h50])
    go_enter Tryd.func157, Tryd.ntmps157
    go_wp2
    go_ret
    exact ⟨rfl, _, rfl, by rw [HR.out]; exact World.ownsRow_nil _ _ _ _⟩
  · have HR := Lib.hid (show capL xs = xs by unfold capL; rw [if_neg h50])
    go_enter Tryd.func157, Tryd.ntmps157
    go_wp2
    go_ret
    exact ⟨rfl, _, rfl, by rw [HR.out]; exact HO.out⟩
end Go.Proofs.YthfkdofnoomhaaaDoor

namespace Go.Proofs.YthfkdofnoomhaaaDoor
open Go.RowKit

/-- what a method leaves: the number, and all below B as it was -/
def LeftX (K : NatK) (B b : Nat) (xs : List Int) (w w' : World) : Prop := NatX K B b xs w' ∧ Below B w w'
abbrev Left (B b : Nat) (xs : List Int) (w w' : World) : Prop := LeftX natK B b xs w w'
theorem zeros_step (xs : List Int) (k : Nat) : xs ++ List.replicate k 0 ++ [(0 : Int)] = xs ++ List.replicate (k + 1) 0 := by
  rw [List.append_assoc, List.replicate_succ']
theorem zeros_pad (xs : List Int) (k p : Nat) (h : xs.length + k ≤ p + 1 ∨ k = 0) (h2 : p < xs.length + k) : xs ++ List.replicate k 0 = padL xs (p + 1) := by
  unfold padL
  rw [show p + 1 - xs.length = k by omega]
theorem intsV_append (xs ys : List Int) : intsV (xs ++ ys) = intsV xs ++ intsV ys := by simp [intsV]

/-- a store into the limbs of a nat -/
theorem NatX.stored {K : NatK} {B b g cap : Nat} {xs : List Int} {w : World} (hB : B ≤ b) (hb : w.heap[b]? = some (.cells (.slice (some ⟨g, 0, none⟩) xs.length cap :: K.rest).toArray K.ty (0, 0)))
    (hown : w.ownsRow B 3 1 (.slice (some ⟨g, 0, none⟩) xs.length cap) xs.length (intsV xs)) (p : Nat) (d : Int) :
    LeftX K B b (xs.set p d) w (w.setCell ⟨g, p, none⟩ (.int .i64 d)) ∧ (w.setCell ⟨g, p, none⟩ (.int .i64 d)).heap[b]? = some (.cells (.slice (some ⟨g, 0, none⟩) xs.length cap :: K.rest).toArray K.ty (0, 0)) ∧
      (w.setCell ⟨g, p, none⟩ (.int .i64 d)).ownsRow B 3 1 (.slice (some ⟨g, 0, none⟩) (xs.set p d).length cap) (xs.set p d).length (intsV (xs.set p d)) := by
  have hne := Lib.ownBlock_ne hown hb K.ne
  have hgb : b ≠ g := fun e => hne (by simp [Value.ownBlock, e])
  obtain ⟨ho, hg⟩ := hown.stored p (.int .i64 d)
  have hlt := own_lt hown (g := g) rfl
  have hbs : B ≤ w.heap.size := by omega
  have hb2 : (w.setCell ⟨g, p, none⟩ (.int .i64 d)).heap[b]? = some (.cells (.slice (some ⟨g, 0, none⟩) xs.length cap :: K.rest).toArray K.ty (0, 0)) := (Below.heap_setCell _ _ _ _ hgb).trans hb
  have hl : (xs.set p d).length = xs.length := List.length_set
  rw [intsV_set] at ho
  refine ⟨⟨⟨hB, _, hb2, by rw [hl]; exact ho, hne⟩, (Below.refl _ _).setCell (p := ⟨g, p, none⟩) hlt.1 _⟩, hb2, by rw [hl]; exact ho⟩

set_option maxHeartbeats 1000000 in
set_option maxRecDepth 100000 in
theorem addAt_any {K : NatK} (B b : Nat) (xs : List Int) (p : Nat) (v : Int) (w : World) (hl : xs.length ≤ 1048576) (hp : p ≤ 1048576) (hv0 : 0 ≤ v) (hv1 : v ≤ 1000000000000000000) (hd : DigN xs) (h : NatX K B b xs w) :
    Calls Tryd.prog 151 #[.pointer (some ⟨b, 0, none⟩), .int .i64 p, .int .i64 v] w fun e w' => e = .returned (.int .i64 (addAtC xs p v)) ∧ LeftX K B b (addAtL xs p v) w w' := by
  obtain ⟨i0, hi0, hz0, hz1, hz2⟩ := info_parts intInfo
  have HD := Lib.hid hd
  clear hd
  go_enter Tryd.func151, Tryd.ntmps151
  go_wp2
  go_loopg [] (p + 1 - xs.length) (fun n wr => ∃ k : Nat, Hid (xs.length + k ≤ p + 1 ∨ k = 0) ∧ Hid (n = p + 1 - (xs.length + k)) ∧ NatX K B b (xs ++ List.replicate k 0) wr ∧ Below B w wr)
  case atStart => exact ⟨0, Lib.hid (Or.inr rfl), Lib.hid (by omega), by simpa using h, Below.refl _ _⟩
  case round =>
    obtain ⟨k, HK, HN, hat, hb1⟩ := hrel
    have hlt := hat.lt
    obtain ⟨hB, u, hbk, hown, hne⟩ := hat
    have hlen : (xs ++ List.replicate k (0 : Int)).length = xs.length + k := by simp
    have hxk : xs.length + k ≤ 1048577 := by rcases HK.out with h | h <;> omega
    rw [hlen] at hown
    by_cases hc : xs.length + k ≤ p
    · obtain ⟨A, c, rfl⟩ := own_len hown
      have c1 : wr.cell? ⟨b, 0, none⟩ = some (.slice A (xs.length + k) c) := NatX.cell hbk
      have HB := Lib.hid hbk
      have HE := Lib.hid hne
      clear hbk hne hlen
      go_wp2_with (at_builtin; refine wpList_append_own _ rfl _ _ 22 rfl B 3 i0 (.int .i64 0) 1 8 Tryd.underlying22 hi0 hz0 hz1 hz2 rfl (by decide) _ _ _ rfl (own_alloc hown _) ⟨wr.heap.size, 0, none⟩ 1 1 [.int .i64 0] rfl rfl (one_new _ _ _) ?c2 ?c3 ?c4 ?c5 ?_)
      case c2 => first | (intro u hu; simp at hu; subst hu; rfl) | rfl
      case c3 => unfold maxLen; omega
      case c4 => omega
      case c5 => simp; omega
      intro v1 w1 hown1 hg1 _
      have hb2 : w1.heap[b]? = some (.cells (.slice A (xs.length + k) c :: K.rest).toArray K.ty (0, 0)) := by
        rw [hg1.block b (by simp; omega) (fun e => HE.out e.symm), Below.heap_alloc _ _ _ hlt]
        exact HB.out
      have d1 : w1.cell? ⟨b, 0, none⟩ = some (.slice A (xs.length + k) c) := NatX.cell hb2
      have f1 : w1.frozen? ⟨b, 0, none⟩ = false := Lib.frozen_of_heap hb2 0
      have hb3 : Below B w w1 := (hb1.alloc (by omega) _).grown hg1 (by simp; omega) (fun k hk => (own_lt hown hk).1)
      obtain ⟨A1, cc1, rfl⟩ := own_len hown1
      have hput := NatX.put (ys := xs ++ List.replicate (k + 1) 0) hB hb2 (by rw [← zeros_step, intsV_append]; simpa [intsV, Nat.add_assoc] using hown1)
      have HB2 := Lib.hid hb2
      clear hb2 c1
      go_wp2
      go_roundg (p + 1 - (xs.length + (k + 1)))
      case measure => have := HN.out; omega
      case rel => exact ⟨k + 1, Lib.hid (by omega), Lib.hid rfl, hput, hb3.setCell (p := ⟨b, 0, none⟩) hB _⟩
    · have HP := Lib.hid (zeros_pad xs k p HK.out (by omega))
      obtain ⟨g, cap, rfl, hg1, hg2, hg3⟩ := own_form hown (by omega)
      have c1 : wr.cell? ⟨b, 0, none⟩ = some (.slice (some ⟨g, 0, none⟩) (xs.length + k) cap) := NatX.cell hbk
      have hpl : p < (padL xs (p + 1)).length := by rw [padL_length]; omega
      have hcell := hown.cellAt p (by omega)
      rw [HP.out, intsV_at _ p hpl, padL_at] at hcell
      have hfr := hown.frozenAt p
      have hdg := getD_dig HD.out p
      have hs : xs.length + k = (padL xs (p + 1)).length := by rw [← HP.out, hlen]
      have HST := Lib.hid (NatX.stored (xs := padL xs (p + 1)) hB (by rw [← hs]; exact hbk) (by rw [← hs, ← HP.out]; exact hown) p ((v + xs.getD p 0) % 1000000000))
      have HC := Lib.hid (show addAtC xs p v = (v + xs.getD p 0) / 1000000000 from rfl)
      have HL := Lib.hid (show addAtL xs p v = (padL xs (p + 1)).set p ((v + xs.getD p 0) % 1000000000) from rfl)
      clear hown hbk hs hlen hne
      generalize xs.getD p 0 = dg at hcell hdg HST HC HL
      have hdg0 := hdg.1
      have hdg1 := hdg.2
      clear hdg
      go_wp2
      go_ret
      exact ⟨ret_int HC.out.symm, by rw [HL.out]; exact ⟨HST.out.1.1, hb1.trans HST.out.1.2⟩⟩

/-! ### a number of the call's own with the blocks on which it leans -/
/-- the nat at block b; T: its block and that of its limbs -/
def NatOnX (K : NatK) (T : List Nat) (b : Nat) (xs : List Int) (w : World) : Prop :=
  ∃ v, w.heap[b]? = some (.cells (v :: K.rest).toArray K.ty (0, 0)) ∧ w.ownsRow 0 3 1 v xs.length (intsV xs) ∧ v.ownBlock ≠ some b ∧ T = b :: v.ownBlock.toList
/-- what a method leaves that keeps the blocks -/
def KeptX (K : NatK) (T : List Nat) (b : Nat) (xs : List Int) (w w' : World) : Prop := NatOnX K T b xs w' ∧ Chg T w w'
abbrev NatOn (T : List Nat) (b : Nat) (xs : List Int) (w : World) : Prop := NatOnX natK T b xs w
abbrev Kept (T : List Nat) (b : Nat) (xs : List Int) (w w' : World) : Prop := KeptX natK T b xs w w'
theorem NatOnX.lt {K : NatK} {T : List Nat} {b : Nat} {xs : List Int} {w : World} (h : NatOnX K T b xs w) : b < w.heap.size := by
  obtain ⟨v, hb, _⟩ := h
  exact (Array.getElem?_eq_some_iff.1 hb).1
theorem NatOnX.mem {K : NatK} {T : List Nat} {b : Nat} {xs : List Int} {w : World} (h : NatOnX K T b xs w) : b ∈ T := by
  obtain ⟨v, _, _, _, rfl⟩ := h
  simp
theorem NatOnX.at_ {K : NatK} {T : List Nat} {b : Nat} {xs : List Int} {w : World} (h : NatOnX K T b xs w) : At T (NatOnX K T b xs) w := by
  have hh := h
  obtain ⟨v, hb, ho, hne, rfl⟩ := h
  refine ⟨hh, fun g hg => ?_, fun w' hk => ⟨v, (hk b (by simp)).trans hb, own_stays ho fun g hg => hk g (by simp [hg]), hne, rfl⟩⟩
  rcases List.mem_cons.1 hg with rfl | hg
  · exact (Array.getElem?_eq_some_iff.1 hb).1
  · exact (own_lt ho (by simpa using hg)).2
theorem NatX.on {K : NatK} {B b : Nat} {xs : List Int} {w : World} (h : NatX K B b xs w) : ∃ T, NatOnX K T b xs w ∧ ∀ g ∈ T, B ≤ g := by
  obtain ⟨hB, v, hb, ho, hne⟩ := h
  refine ⟨_, ⟨v, hb, own_zero ho, hne, rfl⟩, fun g hg => ?_⟩
  rcases List.mem_cons.1 hg with rfl | hg
  · exact hB
  · exact (own_lt ho (by simpa using hg)).1
theorem own_raise {w : World} {base n : Nat} {e : TypeId} {v : Value} {xs : List Value} (h : w.ownsRow 0 e 1 v n xs) (hb : ∀ g, v.ownBlock = some g → base ≤ g) : w.ownsRow base e 1 v n xs := by
  obtain ⟨hl, h | ⟨g, cap, cur, rfl, _, r⟩⟩ := h
  · exact ⟨hl, .inl h⟩
  · exact ⟨hl, .inr ⟨g, cap, cur, rfl, hb g rfl, r⟩⟩
theorem NatOnX.natAt {K : NatK} {T : List Nat} {B b : Nat} {xs : List Int} {w : World} (h : NatOnX K T b xs w) (hT : ∀ g ∈ T, B ≤ g) : NatX K B b xs w := by
  obtain ⟨v, hb, ho, hne, rfl⟩ := h
  exact ⟨hT b (by simp), v, hb, own_raise ho fun g hg => hT g (by simp [hg]), hne⟩
theorem KeptX.left {K : NatK} {T : List Nat} {B b : Nat} {xs : List Int} {w w' : World} (h : KeptX K T b xs w w') (hB : B ≤ w.heap.size) (hT : ∀ g ∈ T, B ≤ g) : LeftX K B b xs w w' :=
  ⟨h.1.natAt hT, below_chg (Below.refl _ _) h.2 hB hT⟩
theorem KeptX.trans {K : NatK} {T : List Nat} {b : Nat} {xs ys : List Int} {w w1 w2 : World} (h : KeptX K T b xs w w1) (k : KeptX K T b ys w1 w2) : KeptX K T b ys w w2 := ⟨k.1, h.2.trans k.2⟩
theorem NatX.size {K : NatK} {B b : Nat} {xs : List Int} {w : World} (h : NatX K B b xs w) : B ≤ w.heap.size := by
  have := h.lt
  have := h.1
  omega
theorem NatOnX.put {K : NatK} {T : List Nat} {b : Nat} {v v' : Value} {ys : List Int} {w : World} (hb : w.heap[b]? = some (.cells (v :: K.rest).toArray K.ty (0, 0))) (hown : w.ownsRow 0 3 1 v' ys.length (intsV ys)) (hT : T = b :: v'.ownBlock.toList) :
    NatOnX K T b ys (w.setCell ⟨b, 0, none⟩ v') := by
  obtain ⟨_, u, h1, h2, h3⟩ := NatX.put (Nat.zero_le b) hb hown
  have e : u = v' := by
    have : (w.setCell ⟨b, 0, none⟩ v').heap[b]? = some (.cells (v' :: K.rest).toArray K.ty (0, 0)) := by simp [World.setCell, Array.getElem?_modify, hb]
    rw [this] at h1
    simpa using h1.symm
  subst e
  exact ⟨_, h1, h2, h3, hT⟩
/-- a store into the limbs -/
theorem NatOnX.stored {K : NatK} {b g cap : Nat} {xs : List Int} {w : World} (hb : w.heap[b]? = some (.cells (.slice (some ⟨g, 0, none⟩) xs.length cap :: K.rest).toArray K.ty (0, 0)))
    (hown : w.ownsRow 0 3 1 (.slice (some ⟨g, 0, none⟩) xs.length cap) xs.length (intsV xs)) (hne : (Value.slice (some ⟨g, 0, none⟩) xs.length cap).ownBlock ≠ some b) (p : Nat) (d : Int) :
    KeptX K [b, g] b (xs.set p d) w (w.setCell ⟨g, p, none⟩ (.int .i64 d)) ∧ (w.setCell ⟨g, p, none⟩ (.int .i64 d)).heap[b]? = some (.cells (.slice (some ⟨g, 0, none⟩) xs.length cap :: K.rest).toArray K.ty (0, 0)) ∧
      (w.setCell ⟨g, p, none⟩ (.int .i64 d)).ownsRow 0 3 1 (.slice (some ⟨g, 0, none⟩) (xs.set p d).length cap) (xs.set p d).length (intsV (xs.set p d)) := by
  have hgb : b ≠ g := fun e => hne (by simp [Value.ownBlock, e])
  obtain ⟨ho, hg⟩ := hown.stored p (.int .i64 d)
  have hb2 : (w.setCell ⟨g, p, none⟩ (.int .i64 d)).heap[b]? = some (.cells (.slice (some ⟨g, 0, none⟩) xs.length cap :: K.rest).toArray K.ty (0, 0)) := (Below.heap_setCell _ _ _ _ hgb).trans hb
  have hl : (xs.set p d).length = xs.length := List.length_set
  rw [intsV_set] at ho
  exact ⟨⟨⟨_, hb2, by rw [hl]; exact ho, hne, rfl⟩, (Chg.refl _ _).setCell (p := ⟨g, p, none⟩) (by simp) _⟩, hb2, by rw [hl]; exact ho⟩

set_option maxHeartbeats 1000000 in
set_option maxRecDepth 100000 in
theorem takeAt_on {K : NatK} (T : List Nat) (b : Nat) (xs : List Int) (p : Nat) (v : Int) (w : World) (hl : xs.length ≤ 1048576) (hp : p < xs.length) (hv0 : 0 ≤ v) (hv1 : v ≤ 1000000000000000000) (hd : DigN xs) (h : NatOnX K T b xs w) :
    Calls Tryd.prog 181 #[.pointer (some ⟨b, 0, none⟩), .int .i64 p, .int .i64 v] w fun e w' => e = .returned (.int .i64 (takeAtC xs p v)) ∧ KeptX K T b (takeAtL xs p v) w w' := by
  have hdg := hd.at_ p hp
  have hg : xs.getD p 0 = xs[p] := by rw [List.getD_eq_getElem?_getD, List.getElem?_eq_getElem hp]; rfl
  have HL := Lib.hid (show takeAtL xs p v = xs.set p ((xs[p] - v) % 1000000000) by rw [← hg]; rfl)
  have HC := Lib.hid (show takeAtC xs p v = -((xs[p] - v) / 1000000000) by rw [← hg]; rfl)
  clear hg hd
  obtain ⟨u, hbk, hown, hne, hT⟩ := h
  obtain ⟨g, cap, rfl, hg1, hg2, hg3⟩ := own_form hown (by omega)
  have hT2 : T = [b, g] := hT
  subst hT2
  have c1 : w.cell? ⟨b, 0, none⟩ = some (.slice (some ⟨g, 0, none⟩) xs.length cap) := NatX.cell hbk
  have hcell := hown.cellAt p (by omega)
  rw [intsV_at _ p hp] at hcell
  have hfr := hown.frozenAt p
  have hgb : ¬ b = g := fun e => hne (by simp [Value.ownBlock, e])
  obtain ⟨hs1, hk1, ho1⟩ := NatOnX.stored hbk hown hne p (xs[p] - v % 1000000000)
  have HS1 := Lib.hid hs1
  have hl1 : (xs.set p (xs[p] - v % 1000000000)).length = xs.length := List.length_set
  have HS2 := Lib.hid (NatOnX.stored (xs := xs.set p (xs[p] - v % 1000000000)) (by rw [hl1]; exact hk1) ho1 (by rw [hl1]; exact hne) p (xs[p] - v % 1000000000 + 1000000000))
  rw [List.set_set] at HS2
  clear hown hbk hne hs1 hk1 ho1 hl1 hT
  generalize xs[p] = dg at hcell hdg HS1 HS2 HC HL
  have hdg0 := hdg.1
  have hdg1 := hdg.2
  clear hdg
  by_cases hc : v % 1000000000 ≤ dg
  · have HC2 := Lib.hid (show takeAtC xs p v = v / 1000000000 by rw [HC.out]; omega)
    have HL2 := Lib.hid (show takeAtL xs p v = xs.set p (dg - v % 1000000000) by rw [HL.out]; congr 1; omega)
    clear HC HL
    go_enter Tryd.func181, Tryd.ntmps181
    go_wp2
    go_ret
    exact ⟨ret_int HC2.out.symm, by rw [HL2.out]; exact HS1.out⟩
  · have HC2 := Lib.hid (show takeAtC xs p v = v / 1000000000 + 1 by rw [HC.out]; omega)
    have HL2 := Lib.hid (show takeAtL xs p v = xs.set p (dg - v % 1000000000 + 1000000000) by rw [HL.out]; congr 1; omega)
    clear HC HL
    go_enter Tryd.func181, Tryd.ntmps181
    go_wp2
    go_ret
    exact ⟨ret_int HC2.out.symm, by rw [HL2.out]; exact HS1.out.trans HS2.out.1⟩

set_option maxHeartbeats 1000000 in
set_option maxRecDepth 100000 in
theorem natTrim_on {K : NatK} (T : List Nat) (b : Nat) (xs : List Int) (w : World) (hl : xs.length ≤ 1048576) (h : NatOnX K T b xs w) :
    Calls Tryd.prog 122 #[.pointer (some ⟨b, 0, none⟩)] w fun e w' => e = .returned (.tuple #[]) ∧ KeptX K T b (trimL xs) w w' := by
  have hTm := h.mem
  have HT0 := Lib.hid hTm
  clear hTm
  obtain ⟨v, hbk, hown, hne, hT⟩ := h
  obtain ⟨A, c, e1, hA⟩ := Row.of_own hown
  rw [intsV_length] at e1
  subst e1
  have c1 : w.cell? ⟨b, 0, none⟩ = some (.slice A xs.length c) := NatX.cell hbk
  have f1 : w.frozen? ⟨b, 0, none⟩ = false := Lib.frozen_of_heap hbk 0
  have hcap : xs.length ≤ c := by
    rcases hown.2 with ⟨h1, h2⟩ | ⟨g, cap, cur, e1, _, _, hn, _⟩
    · omega
    · injection e1 with _ _ e3; omega
  have HA := Lib.hid hA
  have HB := Lib.hid hbk
  have HO := Lib.hid hown
  have HTT : Hid (∀ k, T = b :: (Value.slice A k c).ownBlock.toList) := Lib.hid (by intro k; rw [hT]; cases A <;> rfl)
  clear hA hbk hown hne hT
  go_enter Tryd.func122, Tryd.ntmps122
  go_wp2
  go_loop [2] (fun n => ∃ k : Nat, k ≤ xs.length ∧ n = .int .i64 ((k : Int) - 1) ∧ Hid (∀ j (h : j < xs.length), k ≤ j → xs[j] = 0)) (fun n => (intOf n + 1).toNat)
  case atStart => exact ⟨xs.length, Nat.le_refl _, rfl, Lib.hid (fun j h hj => absurd h (by omega))⟩
  case round =>
    obtain ⟨k, hk, rfl, HZ⟩ := hrel
    by_cases h0 : 0 < k
    · obtain ⟨m, rfl⟩ : ∃ m, k = m + 1 := ⟨k - 1, by omega⟩
      have hlt : m < xs.length := by omega
      obtain ⟨a, rfl, _, _, hca⟩ := HA.out m _ (intsV_at xs m hlt)
      have hm1 : ((m + 1 : Nat) : Int) - 1 = (m : Int) := by omega
      rw [hm1]
      clear hm1 h0
      by_cases hz : xs[m] = 0
      · have hzb : (xs[m] == 0) = true := by rw [beq_iff_eq]; exact hz
        have HN : Hid (∀ j (h : j < xs.length), m ≤ j → xs[j] = 0) := Lib.hid (fun j h hj => by
          by_cases e : j = m
          · subst e; exact hz
          · exact HZ.out j h (by omega))
        clear hz
        go_wp2
        go_round
        case rel => exact ⟨m, by omega, rfl, HN⟩
        case measure => simp [intOf]
      · have hzb : (xs[m] == 0) = false := by rw [beq_eq_false_iff_ne]; exact hz
        have HT := Lib.hid (trim_prefix xs (m + 1) hk HZ.out (fun _ _ => hz))
        have HP := Lib.hid (NatOnX.put (ys := xs.take (m + 1)) (v' := .slice (some a) (m + 1) c) HB.out (by
          rw [← intsV_take, List.length_take, show min (m + 1) xs.length = m + 1 from by omega]
          exact own_take (m + 1) hk HO.out) (HTT.out _))
        clear hz
        go_wp2
        go_end0
        exact ⟨rfl, by rw [HT.out]; exact ⟨HP.out, (Chg.refl _ _).setCell (p := ⟨b, 0, none⟩) HT0.out _⟩⟩
    · obtain rfl : k = 0 := by omega
      have HT := Lib.hid (trim_prefix xs 0 hk HZ.out (fun _ h => absurd h (by omega)))
      have HP := Lib.hid (NatOnX.put (ys := xs.take 0) (v' := .slice A 0 c) HB.out (by
          rw [← intsV_take, List.length_take, Nat.zero_min]
          exact own_take 0 hk HO.out) (HTT.out _))
      go_wp2
      go_end0
      exact ⟨rfl, by rw [HT.out]; exact ⟨HP.out, (Chg.refl _ _).setCell (p := ⟨b, 0, none⟩) HT0.out _⟩⟩
theorem natTrim_any {K : NatK} (B b : Nat) (xs : List Int) (w : World) (hl : xs.length ≤ 1048576) (h : NatX K B b xs w) :
    Calls Tryd.prog 122 #[.pointer (some ⟨b, 0, none⟩)] w fun e w' => e = .returned (.tuple #[]) ∧ LeftX K B b (trimL xs) w w' := by
  obtain ⟨T, hT, hB⟩ := h.on
  refine (natTrim_on T b xs w hl hT).mono ?_
  rintro e w' ⟨rfl, hk⟩
  exact ⟨rfl, hk.left h.size hB⟩
end Go.Proofs.YthfkdofnoomhaaaDoor

namespace Go.Proofs.YthfkdofnoomhaaaDoor
open Go.RowKit

/-- how many limbs addTimes reaches -/
def lenM (x y sh : Nat) : Nat := if y = 0 then x else max x (sh + y)
theorem lenM_succ (x k sh : Nat) : max (lenM x k sh) (sh + k + 1) = lenM x (k + 1) sh := by
  unfold lenM
  rw [if_neg (show ¬ k + 1 = 0 by omega)]
  by_cases h : k = 0
  · rw [if_pos h]; omega
  · rw [if_neg h]; omega
theorem lenM_le (x y sh : Nat) (hx : x ≤ 300000) (hy : y ≤ 300000) (hs : sh ≤ 300000) : lenM x y sh ≤ 600000 := by unfold lenM; split <;> omega
theorem take_val_succ (ys : List Int) (k : Nat) (h : k < ys.length) : nval (ys.take (k + 1)) = nval (ys.take k) + bp k * ys[k] := by
  rw [List.take_succ_eq_append_getElem h, nval_append, List.length_take, show min k ys.length = k by omega]
  show _ + bp k * (ys[k] + 1000000000 * 0) = _
  rw [Int.mul_zero, Int.add_zero]
/-- one step of the first loop -/
def TimesR (xs ys : List Int) (f : Int) (sh k : Nat) (cur : List Int) (cr : Int) : Prop :=
  DigN cur ∧ cur.length = lenM xs.length k sh ∧ nval cur + cr * bp (sh + k) = nval xs + f * bp sh * nval (ys.take k) ∧ (k = 0 → cr = 0)
theorem TimesR.start (xs ys : List Int) (f : Int) (sh : Nat) (hd : DigN xs) : TimesR xs ys f sh 0 xs 0 := by
  refine ⟨hd, rfl, ?_, fun _ => rfl⟩
  rw [List.take_zero]
  show nval xs + 0 * _ = nval xs + f * bp sh * 0
  rw [Int.zero_mul, Int.mul_zero]
theorem TimesR.next {xs ys : List Int} {f : Int} {sh k : Nat} {cur : List Int} {cr : Int} (h : TimesR xs ys f sh k cur cr) (hk : k < ys.length) :
    TimesR xs ys f sh (k + 1) (addAtL cur (sh + k) (ys[k] * f + cr)) (addAtC cur (sh + k) (ys[k] * f + cr)) := by
  obtain ⟨h1, h2, h3, _⟩ := h
  refine ⟨addAt_dig h1 _ _, ?_, ?_, fun h => absurd h (by omega)⟩
  · rw [addAt_length, h2, lenM_succ]
  · have e := addAt_val cur (sh + k) (ys[k] * f + cr)
    have e2 : ys[k] * f * bp (sh + k) = f * bp sh * (bp k * ys[k]) := by
      rw [bp_add]
      simp only [Int.mul_assoc, Int.mul_comm, Int.mul_left_comm]
    rw [show sh + (k + 1) = sh + k + 1 by omega, e, take_val_succ ys k hk, Int.add_mul, Int.mul_add, e2]
    omega
theorem carry_bound {cur : List Int} {p : Nat} {v : Int} (h : DigN cur) (h0 : 0 ≤ v) (h1 : v ≤ 999999999000000000) : 0 ≤ addAtC cur p v ∧ addAtC cur p v ≤ 999999999 := by
  have hd := getD_dig h p
  unfold addAtC
  omega
/-- one step of the second loop -/
def CarryR (M : Nat) (N : Int) (pl : Nat) (cur : List Int) (cr : Int) : Prop :=
  DigN cur ∧ nval cur + cr * bp pl = N ∧ ((cur.length = M ∧ (cr = 0 ∨ pl ≤ M)) ∨ (cr = 0 ∧ cur.length = M + 1 ∧ bp M ≤ N))
theorem CarryR.len {M pl : Nat} {N cr : Int} {cur : List Int} (h : CarryR M N pl cur cr) : cur.length ≤ M + 1 := by
  obtain ⟨_, _, ⟨h, _⟩ | ⟨_, h, _⟩⟩ := h <;> omega
theorem CarryR.place {M pl : Nat} {N cr : Int} {cur : List Int} (h : CarryR M N pl cur cr) (hc : 0 < cr) : pl ≤ M ∧ cur.length = M := by
  obtain ⟨_, _, ⟨h, h2 | h2⟩ | ⟨h, _⟩⟩ := h
  · omega
  · exact ⟨h2, h⟩
  · omega
theorem CarryR.next {M pl : Nat} {N cr : Int} {cur : List Int} (h : CarryR M N pl cur cr) (hc : 0 < cr) (h1 : cr ≤ 999999999) : CarryR M N (pl + 1) (addAtL cur pl cr) (addAtC cur pl cr) := by
  obtain ⟨hp, hl⟩ := h.place hc
  obtain ⟨hd, hv, _⟩ := h
  have e := addAt_val cur pl cr
  refine ⟨addAt_dig hd _ _, by rw [e]; exact hv, ?_⟩
  by_cases he : pl = M
  · subst he
    obtain ⟨e1, e2⟩ := addAt_new cur pl cr hl.symm hc h1
    rw [e1]
    refine .inr ⟨rfl, by rw [addAt_length]; omega, ?_⟩
    rw [e1, e2, Int.zero_mul, Int.add_zero] at e
    rw [← hv, ← e, nval_append, hl]
    have h2 := nval_nonneg cur hd
    have h3 := bp_pos pl
    have h4 : nval [cr] = cr := by show cr + 1000000000 * 0 = cr; omega
    rw [h4]
    have h5 := Int.mul_le_mul_of_nonneg_left (show 1 ≤ cr by omega) (show 0 ≤ bp pl by omega)
    omega
  · exact .inl ⟨by rw [addAt_length]; omega, .inr (by omega)⟩

/-- what addTimes leaves -/
def TimesPost (K : NatK) (B b : Nat) (xs ys : List Int) (f : Int) (sh : Nat) (w w' : World) : Prop :=
  ∃ zs, LeftX K B b zs w w' ∧ DigN zs ∧ nval zs = nval xs + f * bp sh * nval ys ∧ (zs.length = lenM xs.length ys.length sh ∨ (zs.length = lenM xs.length ys.length sh + 1 ∧ bp (lenM xs.length ys.length sh) ≤ nval zs))

theorem addAt_at {K : NatK} (B b : Nat) (xs : List Int) (p : Nat) (pz v : Int) (w : World) (hl : xs.length ≤ 1048576) (hp : p ≤ 1048576) (hv0 : 0 ≤ v) (hv1 : v ≤ 1000000000000000000) (hd : DigN xs) (h : NatX K B b xs w) (hz : pz = p) :
    Calls Tryd.prog 151 #[.pointer (some ⟨b, 0, none⟩), .int .i64 pz, .int .i64 v] w fun e w' => e = .returned (.int .i64 (addAtC xs p v)) ∧ LeftX K B b (addAtL xs p v) w w' := by
  subst hz
  exact addAt_any B b xs p v w hl hp hv0 hv1 hd h

set_option maxHeartbeats 1000000 in
set_option maxRecDepth 100000 in
theorem addTimes_any {K : NatK} (B b : Nat) (xs : List Int) (vy : Value) (ys : List Int) (lo hi : Nat) (f : Int) (sh : Nat) (w : World) (hxl : xs.length ≤ 300000) (hyl : ys.length ≤ 300000) (hsh : sh ≤ 300000) (hf0 : 0 ≤ f) (hf1 : f ≤ 999999999)
    (hdx : DigN xs) (hdy : DigN ys) (hhi : hi ≤ B) (hr : Row w lo hi vy (intsV ys)) (h : NatX K B b xs w) :
    Calls Tryd.prog 155 #[.pointer (some ⟨b, 0, none⟩), vy, .int .i64 f, .int .i64 sh] w fun e w' => e = .returned (.tuple #[]) ∧ TimesPost K B b xs ys f sh w w' := by
  obtain ⟨A, c, rfl, hA⟩ := hr
  rw [intsV_length]
  have HA := Lib.hid hA
  have HDX := Lib.hid hdx
  have HDY := Lib.hid hdy
  clear hA hdx hdy
  go_enter Tryd.func155, Tryd.ntmps155
  go_wp2
  go_loopw [8, 14] (fun a i wr => ∃ (k : Nat) (cur : List Int) (cr : Int), k ≤ ys.length ∧ i = .int .i64 k ∧ a = .int .i64 cr ∧ 0 ≤ cr ∧ cr ≤ 999999999 ∧ Hid (TimesR xs ys f sh k cur cr) ∧ NatX K B b cur wr ∧ Below B w wr) (fun _ i _ => ys.length - (intOf i).toNat)
  case atStart => exact ⟨0, xs, 0, Nat.zero_le _, rfl, rfl, by omega, by omega, Lib.hid (TimesR.start xs ys f sh HDX.out), h, Below.refl _ _⟩
  case round =>
    obtain ⟨k, cur, cr, hk, rfl, rfl, hc0, hc1, HR, hat, hb1⟩ := hrel
    have hcl : cur.length ≤ 600000 := by rw [HR.out.2.1]; exact lenM_le _ _ _ hxl (by omega) hsh
    by_cases hlt : k < ys.length
    · obtain ⟨p, rfl, _, hpb, hca⟩ := HA.out k _ (intsV_at ys k hlt)
      have hca' : wr.cell? (p.add k) = some (.int .i64 ys[k]) := (hb1.cell (by rw [block_add]; omega)).trans hca
      have hdy := HDY.out.at_ k hlt
      have hd0 := hdy.1
      have hd1 := hdy.2
      have hm0 : 0 ≤ ys[k] * f := Int.mul_nonneg hd0 hf0
      have hm1 : ys[k] * f ≤ 999999998000000001 := by
        have := Int.mul_le_mul hd1 hf1 hf0 (by omega)
        omega
      have HN := Lib.hid (HR.out.next hlt)
      have HCB := Lib.hid (carry_bound (p := sh + k) (v := ys[k] * f + cr) HR.out.1 (by omega) (by omega))
      clear hca hdy
      go_wp2_with fail
      refine (addAt_at B b cur (sh + k) _ _ _ (by omega) (by omega) (by omega) (by omega) HR.out.1 hat (by omega)).mono ?_
      rintro e w1 ⟨rfl, hat1, hb2⟩
      clear hm0 hm1 hd0 hd1
      go_wp2
      go_roundw
      case rel => exact ⟨k + 1, _, _, by omega, by go_num, rfl, HCB.out.1, HCB.out.2, HN, hat1, hb1.trans hb2⟩
      case measure => simp [intOf]; omega
    · obtain rfl : k = ys.length := by omega
      have HC : Hid (CarryR (lenM xs.length ys.length sh) (nval xs + f * bp sh * nval ys) (sh + ys.length) cur cr) := Lib.hid (by
        obtain ⟨h1, h2, h3, h4⟩ := HR.out
        rw [List.take_of_length_le (Nat.le_refl _)] at h3
        refine ⟨h1, h3, .inl ⟨h2, ?_⟩⟩
        by_cases hy : ys.length = 0
        · exact .inl (h4 hy)
        · right
          unfold lenM
          rw [if_neg hy]
          omega)
      have hM := lenM_le xs.length ys.length sh hxl hyl hsh
      clear HR
      go_wp2
      go_loopw [8, 11] (fun a i wr => ∃ (pl : Nat) (cur : List Int) (cr : Int), pl ≤ 600001 ∧ i = .int .i64 pl ∧ a = .int .i64 cr ∧ 0 ≤ cr ∧ cr ≤ 999999999 ∧ Hid (CarryR (lenM xs.length ys.length sh) (nval xs + f * bp sh * nval ys) pl cur cr) ∧ NatX K B b cur wr ∧ Below B w wr) (fun _ i _ => lenM xs.length ys.length sh + 1 - (intOf i).toNat)
      case atStart => exact ⟨sh + ys.length, cur, cr, by omega, by go_num, rfl, hc0, hc1, HC, hat, hb1⟩
      case round =>
        clear hat hb1 HC hc0 hc1 hcl
        obtain ⟨pl, cur, cr, hpl, rfl, rfl, hc0, hc1, HC, hat, hb1⟩ := hrel
        have hcl := HC.out.len
        by_cases hpos : 0 < cr
        · have hplm := (HC.out.place hpos).1
          have HN := Lib.hid (HC.out.next hpos hc1)
          have HCB := Lib.hid (carry_bound (p := pl) (v := cr) HC.out.1 hc0 (by omega))
          go_wp2_with fail
          refine (addAt_any B b cur pl cr _ (by omega) (by omega) (by omega) (by omega) HC.out.1 hat).mono ?_
          rintro e w1 ⟨rfl, hat1, hb2⟩
          go_wp2
          go_roundw
          case rel => exact ⟨pl + 1, _, _, by omega, by go_num, rfl, HCB.out.1, HCB.out.2, HN, hat1, hb1.trans hb2⟩
          case measure => simp [intOf]; omega
        · obtain rfl : cr = 0 := by omega
          go_wp2
          go_end0
          refine ⟨rfl, cur, ⟨hat, hb1⟩, HC.out.1, ?_, ?_⟩
          · have := HC.out.2.1
            rw [Int.zero_mul, Int.add_zero] at this
            exact this
          · obtain ⟨_, h2, h3⟩ := HC.out
            rw [Int.zero_mul, Int.add_zero] at h2
            rcases h3 with h3 | h3
            · exact .inl h3.1
            · exact .inr ⟨h3.2.1, by rw [h2]; exact h3.2.2⟩

/-- a row with the blocks on which it leans -/
theorem Row.on {w : World} {lo hi : Nat} {v : Value} {xs : List Value} (h : Row w lo hi v xs) : ∃ S, At S (fun w => Row w lo hi v xs) w ∧ Within S lo hi := by
  have hh := h
  obtain ⟨A, c, rfl, h⟩ := h
  cases xs with
  | nil => exact ⟨[], ⟨hh, fun g hg => absurd hg (by simp), fun w' _ => Row.nil_ A c⟩, fun g hg => absurd hg (by simp)⟩
  | cons x r =>
    obtain ⟨a, rfl, h1, h2, h3⟩ := h 0 x rfl
    have hlt := cell_lt h3
    rw [block_add] at hlt
    refine ⟨[a.block], ⟨hh, fun g hg => by simp at hg; omega, fun w' hk => ⟨_, c, rfl, fun j u hj => ?_⟩⟩, fun g hg => by simp at hg; omega⟩
    obtain ⟨a', e, k1, k2, k3⟩ := h j u hj
    cases e
    refine ⟨a, rfl, k1, k2, ?_⟩
    rw [← k3]
    have hb := hk a.block (by simp)
    unfold World.cell?
    rw [block_add, hb]

/-- one step of takeTimes -/
def TakeR (xs ys : List Int) (f : Int) (sh k pl : Nat) (cur : List Int) (br : Int) : Prop :=
  DigN cur ∧ cur.length = xs.length ∧ nval cur - br * bp pl = nval xs - f * bp sh * nval (ys.take k)
theorem TakeR.start (xs ys : List Int) (f : Int) (sh : Nat) (hd : DigN xs) : TakeR xs ys f sh 0 (sh + 0) xs 0 := by
  refine ⟨hd, rfl, ?_⟩
  rw [List.take_zero, Int.zero_mul]
  show _ = nval xs - f * bp sh * 0
  rw [Int.mul_zero]
theorem TakeR.next {xs ys : List Int} {f : Int} {sh k : Nat} {cur : List Int} {br : Int} (h : TakeR xs ys f sh k (sh + k) cur br) (hk : k < ys.length) (hl : sh + ys.length ≤ xs.length) :
    TakeR xs ys f sh (k + 1) (sh + (k + 1)) (takeAtL cur (sh + k) (ys[k] * f + br)) (takeAtC cur (sh + k) (ys[k] * f + br)) := by
  obtain ⟨a1, a2, a3⟩ := h
  refine ⟨takeAt_dig a1 _ _, by rw [takeAt_length, a2], ?_⟩
  have e2 : ys[k] * f * bp (sh + k) = f * bp sh * (bp k * ys[k]) := by
    rw [bp_add]
    simp only [Int.mul_assoc, Int.mul_comm, Int.mul_left_comm]
  rw [show sh + (k + 1) = sh + k + 1 by omega, takeAt_val cur (sh + k) _ (by omega), take_val_succ ys k hk, Int.add_mul, Int.mul_add, e2]
  omega
theorem TakeR.next2 {xs ys : List Int} {f : Int} {sh k pl : Nat} {cur : List Int} {br : Int} (h : TakeR xs ys f sh k pl cur br) (hl : pl < xs.length) :
    TakeR xs ys f sh k (pl + 1) (takeAtL cur pl br) (takeAtC cur pl br) := by
  obtain ⟨a1, a2, a3⟩ := h
  refine ⟨takeAt_dig a1 _ _, by rw [takeAt_length, a2], ?_⟩
  rw [takeAt_val cur pl _ (by omega)]
  exact a3
/-- the last borrow finds a limb -/
theorem TakeR.room {xs ys : List Int} {f : Int} {sh pl : Nat} {cur : List Int} {br : Int} (h : TakeR xs ys f sh ys.length pl cur br) (hle : f * bp sh * nval ys ≤ nval xs) (hb : 0 < br) : pl < xs.length := by
  obtain ⟨a1, a2, a3⟩ := h
  rw [List.take_of_length_le (Nat.le_refl _)] at a3
  rcases Nat.lt_or_ge pl xs.length with h | h
  · exact h
  · have h1 := nval_lt cur a1
    have h2 := bp_mono (show cur.length ≤ pl by omega)
    have h3 := bp_pos pl
    have h4 := Int.mul_le_mul_of_nonneg_right (show 1 ≤ br by omega) (show 0 ≤ bp pl by omega)
    omega
theorem TakeR.done {xs ys : List Int} {f : Int} {sh pl : Nat} {cur : List Int} (h : TakeR xs ys f sh ys.length pl cur 0) : trimL cur = limbs (nval xs - f * bp sh * nval ys).toNat := by
  obtain ⟨a1, a2, a3⟩ := h
  rw [List.take_of_length_le (Nat.le_refl _), Int.zero_mul] at a3
  rw [trim_limbs cur a1]
  congr 2
  omega

theorem takeAt_onz {K : NatK} (T : List Nat) (b : Nat) (xs : List Int) (p : Nat) (pz v : Int) (w : World) (hl : xs.length ≤ 1048576) (hp : p < xs.length) (hv0 : 0 ≤ v) (hv1 : v ≤ 1000000000000000000) (hd : DigN xs) (h : NatOnX K T b xs w) (hz : pz = p) :
    Calls Tryd.prog 181 #[.pointer (some ⟨b, 0, none⟩), .int .i64 pz, .int .i64 v] w fun e w' => e = .returned (.int .i64 (takeAtC xs p v)) ∧ KeptX K T b (takeAtL xs p v) w w' := by
  subst hz
  exact takeAt_on T b xs p v w hl hp hv0 hv1 hd h

set_option maxHeartbeats 1000000 in
set_option maxRecDepth 100000 in
theorem takeTimes_on {K : NatK} (T S : List Nat) (b : Nat) (xs : List Int) (vy : Value) (ys : List Int) (lo hi : Nat) (f : Int) (sh : Nat) (w : World) (hxl : xs.length ≤ 1048576) (hyl : sh + ys.length ≤ xs.length) (hf0 : 0 ≤ f) (hf1 : f ≤ 999999999)
    (hdx : DigN xs) (hdy : DigN ys) (hle : f * bp sh * nval ys ≤ nval xs) (hST : ∀ g ∈ S, g ∉ T) (hr : At S (fun w => Row w lo hi vy (intsV ys)) w) (h : NatOnX K T b xs w) :
    Calls Tryd.prog 156 #[.pointer (some ⟨b, 0, none⟩), vy, .int .i64 f, .int .i64 sh] w fun e w' => e = .returned (.tuple #[]) ∧ KeptX K T b (limbs (nval xs - f * bp sh * nval ys).toNat) w w' := by
  have HST := Lib.hid hST
  have HR0 := Lib.hid hr
  obtain ⟨A, c, rfl, _⟩ := hr.here
  rw [intsV_length]
  rw [intsV_length] at HR0
  have HDX := Lib.hid hdx
  have HDY := Lib.hid hdy
  have HLE := Lib.hid hle
  clear hdx hdy hr hST hle
  go_enter Tryd.func156, Tryd.ntmps156
  go_wp2
  go_loopw [8, 14] (fun a i wr => ∃ (k : Nat) (cur : List Int) (br : Int), k ≤ ys.length ∧ i = .int .i64 k ∧ a = .int .i64 br ∧ 0 ≤ br ∧ br ≤ 999999999 ∧ Hid (TakeR xs ys f sh k (sh + k) cur br) ∧ KeptX K T b cur w wr) (fun _ i _ => ys.length - (intOf i).toNat)
  case atStart => exact ⟨0, xs, 0, Nat.zero_le _, rfl, rfl, by omega, by omega, Lib.hid (TakeR.start xs ys f sh HDX.out), h, Chg.refl _ _⟩
  case round =>
    obtain ⟨k, cur, br, hk, rfl, rfl, hc0, hc1, HR, hat⟩ := hrel
    have hcl : cur.length ≤ 1048576 := by rw [HR.out.2.1]; exact hxl
    by_cases hlt : k < ys.length
    · obtain ⟨A', c', e, hA⟩ := (HR0.out.chg hat.2 HST.out).here
      injection e with e1 e2 e3
      subst e1 e3
      clear e2
      obtain ⟨p, rfl, _, hpb, hca⟩ := hA k _ (intsV_at ys k hlt)
      clear hA
      have hdy := HDY.out.at_ k hlt
      have hd0 := hdy.1
      have hd1 := hdy.2
      have hm0 : 0 ≤ ys[k] * f := Int.mul_nonneg hd0 hf0
      have hm1 : ys[k] * f ≤ 999999998000000001 := by
        have := Int.mul_le_mul hd1 hf1 hf0 (by omega)
        omega
      have HN := Lib.hid (HR.out.next hlt hyl)
      have HCB := Lib.hid (takeAt_bound HR.out.1 (sh + k) (ys[k] * f + br) (by omega) (by omega))
      clear hdy
      go_wp2_with fail
      refine (takeAt_onz T b cur (sh + k) _ _ _ hcl (by rw [HR.out.2.1]; omega) (by omega) (by omega) HR.out.1 hat.1 (by omega)).mono ?_
      rintro e w1 ⟨rfl, hat1⟩
      clear hm0 hm1 hd0 hd1
      go_wp2
      go_roundw
      case rel => exact ⟨k + 1, _, _, by omega, by go_num, rfl, HCB.out.1, HCB.out.2, HN, hat.trans hat1⟩
      case measure => simp [intOf]; omega
    · obtain rfl : k = ys.length := by omega
      go_wp2
      go_loopw [8, 11] (fun a i wr => ∃ (pl : Nat) (cur : List Int) (br : Int), pl ≤ xs.length ∧ i = .int .i64 pl ∧ a = .int .i64 br ∧ 0 ≤ br ∧ br ≤ 999999999 ∧ Hid (TakeR xs ys f sh ys.length pl cur br) ∧ KeptX K T b cur w wr) (fun _ i _ => xs.length - (intOf i).toNat)
      case atStart => exact ⟨sh + ys.length, cur, br, hyl, by go_num, rfl, hc0, hc1, HR, hat⟩
      case round =>
        clear hat HR hc0 hc1 hcl
        obtain ⟨pl, cur, br, hpl, rfl, rfl, hc0, hc1, HR, hat⟩ := hrel
        have hcl : cur.length ≤ 1048576 := by rw [HR.out.2.1]; exact hxl
        by_cases hpos : 0 < br
        · have hplm := HR.out.room HLE.out hpos
          have HN := Lib.hid (HR.out.next2 hplm)
          have HCB := Lib.hid (takeAt_bound HR.out.1 pl br (by omega) (by omega))
          go_wp2_with fail
          refine (takeAt_on T b cur pl br _ hcl (by rw [HR.out.2.1]; omega) (by omega) (by omega) HR.out.1 hat.1).mono ?_
          rintro e w1 ⟨rfl, hat1⟩
          go_wp2
          go_roundw
          case rel => exact ⟨pl + 1, _, _, by omega, by go_num, rfl, HCB.out.1, HCB.out.2, HN, hat.trans hat1⟩
          case measure => simp [intOf]; omega
        · obtain rfl : br = 0 := by omega
          have HF := Lib.hid HR.out.done
          go_wp2_with fail
          refine (natTrim_on T b cur _ hcl hat.1).mono ?_
          rintro e w1 ⟨rfl, hat1⟩
          go_wp2
          go_end0
          exact ⟨rfl, by rw [← HF.out]; exact hat.trans hat1⟩
theorem natTake_any {K : NatK} (B b : Nat) (xs : List Int) (vy : Value) (ys : List Int) (lo hi : Nat) (w : World) (hxl : xs.length ≤ 1048576) (hyl : ys.length ≤ xs.length)
    (hdx : DigN xs) (hdy : DigN ys) (hle : nval ys ≤ nval xs) (hhi : hi ≤ B) (hr : Row w lo hi vy (intsV ys)) (h : NatX K B b xs w) :
    Calls Tryd.prog 156 #[.pointer (some ⟨b, 0, none⟩), vy, .int .i64 1, .int .i64 0] w fun e w' => e = .returned (.tuple #[]) ∧ LeftX K B b (limbs (nval xs - nval ys).toNat) w w' := by
  obtain ⟨T, hT, hB⟩ := h.on
  obtain ⟨S, hS, hW⟩ := hr.on
  have e1 : 1 * bp 0 * nval ys = nval ys := by show 1 * 1 * nval ys = nval ys; omega
  refine (takeTimes_on T S b xs vy ys lo hi 1 0 w hxl (by omega) (by omega) (by omega) hdx hdy (by omega) (fun g hg hm => by have := hB g hm; have := (hW g hg).2; omega) hS hT).mono ?_
  rintro e w' ⟨rfl, hk⟩
  rw [e1] at hk
  exact ⟨rfl, hk.left h.size hB⟩
end Go.Proofs.YthfkdofnoomhaaaDoor

namespace Go.Proofs.YthfkdofnoomhaaaDoor
open Go.RowKit

theorem add_limbs {a b zs : List Int} (oa : natOkB a = true) (ob : natOkB b = true) (hd : DigN zs) (hv : nval zs = nval a + 1 * bp 0 * nval b)
    (hl : zs.length = lenM a.length b.length 0 ∨ (zs.length = lenM a.length b.length 0 + 1 ∧ bp (lenM a.length b.length 0) ≤ nval zs)) : zs = limbs (nval a + nval b).toNat := by
  have hv2 : nval zs = nval a + nval b := by
    have : bp 0 = 1 := rfl
    rw [this, Int.one_mul, Int.one_mul] at hv
    exact hv
  have na := nval_nonneg a (natOk_parts oa).1
  have nb := nval_nonneg b (natOk_parts ob).1
  rw [← hv2]
  apply limbs_of_ge zs hd
  intro h0
  rcases hl with hl | ⟨hl, hg⟩
  · unfold lenM at hl
    by_cases hb : b.length = 0
    · rw [if_pos hb] at hl
      have := ok_ge oa (by omega)
      rw [hl]
      omega
    · rw [if_neg hb] at hl
      have h2 := ok_ge ob (by omega)
      by_cases hab : b.length ≤ a.length
      · have h1 := ok_ge oa (by omega)
        rw [hl, show max a.length (0 + b.length) = a.length by omega]
        omega
      · rw [hl, show max a.length (0 + b.length) = b.length by omega]
        omega
  · rw [hl, show lenM a.length b.length 0 + 1 - 1 = lenM a.length b.length 0 by omega]
    exact hg
theorem new_own {w w1 w2 : World} {xs ys : List Int} {v : Value} (h : OwnPost w.heap.size ys w1 (.returned v) w2) (hb : Below w.heap.size w w1) (e : xs = ys) : NewInts xs w (.returned v) w2 := by
  subst e
  obtain ⟨rfl, v', e1, ho⟩ := h
  cases e1
  exact ⟨_, rfl, ho, hb⟩

/-- the cases of bad arguments are told by one lemma of the walk: both are right -/
theorem addN_ok {a b : List Int} (oa : natOkB a = true) (ob : natOkB b = true) : addN a b = natRes (nval a + nval b) := by unfold addN; rw [if_pos ⟨oa, ob⟩]
theorem subN_ok {a b : List Int} (oa : natOkB a = true) (ob : natOkB b = true) : subN a b = natRes (nval a - nval b) := by unfold subN; rw [if_pos ⟨oa, ob⟩]
theorem mulN_ok {a b : List Int} (oa : natOkB a = true) (ob : natOkB b = true) : mulN a b = natRes (nval a * nval b) := by unfold mulN; rw [if_pos ⟨oa, ob⟩]

set_option maxHeartbeats 1000000 in
set_option maxRecDepth 100000 in
theorem implNatAdd_any (va vb : Value) (a b : List Int) (la ha lb hb : Nat) (w : World) (hal : a.length ≤ 1048576) (hbl : b.length ≤ 1048576) (_ : ha ≤ w.heap.size) (hhb : hb ≤ w.heap.size)
    (hra : Row w la ha va (intsV a)) (hrb : Row w lb hb vb (intsV b)) :
    Calls Tryd.prog 134 #[va, vb] w (NewInts (addN a b) w) := by
  by_cases oa : natOkB a = true
  · by_cases ob : natOkB b = true
    · have HN := Lib.hid (addN_ok oa ob)
      have OA := Lib.hid oa
      have OB := Lib.hid ob
      have pa := (natOk_parts oa).2.1
      have pb := (natOk_parts ob).2.1
      go_enter Tryd.func134, Tryd.ntmps134
      go_wp2_with fail
      refine (implNatOk_same va a la ha _ (by omega) hra).mono ?_
      rintro e w' ⟨rfl, rfl⟩
      rw [oa]
      go_wp2_with fail
      refine (implNatOk_same vb b lb hb _ (by omega) hrb).mono ?_
      rintro e w' ⟨rfl, rfl⟩
      rw [ob]
      clear oa ob
      go_wp2_with fail
      refine (copyNat_any va a la ha _ hal hra).mono ?_
      rintro e w1 ⟨p, rfl, hat, hb1⟩
      go_wp2_with fail
      refine (addTimes_any w.heap.size p a vb b lb hb 1 0 _ (by omega) (by omega) (by omega) (by omega) (by omega) (natOk_parts OA.out).1 (natOk_parts OB.out).1 hhb (hrb.below hb1 hhb) hat).mono ?_
      rintro e w2 ⟨rfl, zs, ⟨hat2, hb2⟩, hd, hv, hl⟩
      have HZ := Lib.hid (add_limbs OA.out OB.out hd hv hl)
      have hzl : zs.length ≤ 101 := by
        rcases hl with hl | ⟨hl, _⟩
        · rw [hl]; unfold lenM; split <;> omega
        · rw [hl]; unfold lenM; split <;> omega
      clear hv hl hd
      go_wp2_with fail
      refine (natResult_any w.heap.size p zs _ (by omega) hat2).mono ?_
      rintro e w3 hpost
      obtain ⟨rfl, v3, rfl, ho⟩ := hpost
      go_wp2
      go_ret
      exact ⟨_, rfl, by rw [HN.out]; unfold natRes; rw [← HZ.out]; exact ho, hb1.trans hb2⟩
    · have ob' : natOkB b = false := by simpa using ob
      have HN := Lib.hid (show addN a b = [] by unfold addN; rw [if_neg (fun h => ob h.2)])
      clear ob
      go_enter Tryd.func134, Tryd.ntmps134
      go_wp2_with fail
      refine (implNatOk_same va a la ha _ (by omega) hra).mono ?_
      rintro e w' ⟨rfl, rfl⟩
      rw [oa]
      go_wp2_with fail
      refine (implNatOk_same vb b lb hb _ (by omega) hrb).mono ?_
      rintro e w' ⟨rfl, rfl⟩
      rw [ob']
      go_wp2
      go_ret
      rw [HN.out]
      exact new_nil (Below.refl _ _)
  · have oa' : natOkB a = false := by simpa using oa
    have HN := Lib.hid (show addN a b = [] by unfold addN; rw [if_neg (fun h => oa h.1)])
    clear oa
    go_enter Tryd.func134, Tryd.ntmps134
    go_wp2_with fail
    refine (implNatOk_same va a la ha _ (by omega) hra).mono ?_
    rintro e w' ⟨rfl, rfl⟩
    rw [oa']
    go_wp2
    go_ret
    rw [HN.out]
    exact new_nil (Below.refl _ _)

theorem cmpN_neg {a b : List Int} (oa : natOkB a = true) (ob : natOkB b = true) (h : nval a < nval b) : cmpN a b = -1 := by unfold cmpN; rw [if_pos ⟨oa, ob⟩]; exact cmp_lt h
theorem cmpN_nn {a b : List Int} (oa : natOkB a = true) (ob : natOkB b = true) (h : nval b ≤ nval a) : ¬ cmpN a b < 0 := by
  unfold cmpN
  rw [if_pos ⟨oa, ob⟩]
  unfold cmpI
  rw [if_neg (by omega)]
  split <;> omega
theorem lens_of_le {a b : List Int} (oa : natOkB a = true) (ob : natOkB b = true) (h : nval b ≤ nval a) : b.length ≤ a.length := by
  rcases Nat.lt_or_ge a.length b.length with hl | hl
  · have := nval_short a b (natOk_parts oa).1 (natOk_parts ob).1 hl (natOk_parts ob).2.2
    omega
  · exact hl
theorem limbs_sub_len {a b : List Int} (oa : natOkB a = true) (ob : natOkB b = true) (h : nval b ≤ nval a) : (limbs (nval a - nval b).toNat).length ≤ 50 := by
  have h1 := subL_val a b 0 (natOk_parts oa).1 (natOk_parts ob).1 (lens_of_le oa ob h) (by omega) (by omega) (by omega)
  have h2 := trim_limbs _ h1.2.1
  have h3 := trimL_length (subL a b 0)
  have h4 := (natOk_parts oa).2.1
  rw [h2, h1.1, Int.sub_zero] at h3
  omega


/-- the product so far -/
def MulR (a b : List Int) (i : Nat) (cur : List Int) : Prop :=
  DigN cur ∧ nval cur = nval (a.take i) * nval b ∧ cur.length ≤ i + b.length ∧ (cur.length ≤ i + b.length - 1 ∨ bp (cur.length - 1) ≤ nval cur) ∧ (i = 0 → cur = []) ∧ (b.length = 0 → cur = [])
theorem MulR.start (a b : List Int) : MulR a b 0 [] := by
  refine ⟨(fun d hd => by cases hd), ?_, by simp, .inl (by simp), fun _ => rfl, fun _ => rfl⟩
  rw [List.take_zero]
  show (0 : Int) = 0 * nval b
  rw [Int.zero_mul]
theorem MulR.next {a b cur zs : List Int} {i : Nat} (h : MulR a b i cur) (hi : i < a.length) (hd : DigN zs) (hv : nval zs = nval cur + a[i] * bp i * nval b)
    (hl : zs.length = lenM cur.length b.length i ∨ (zs.length = lenM cur.length b.length i + 1 ∧ bp (lenM cur.length b.length i) ≤ nval zs)) : MulR a b (i + 1) zs := by
  obtain ⟨h1, h2, h3, h4, h5, h6⟩ := h
  have hval : nval zs = nval (a.take (i + 1)) * nval b := by
    rw [hv, h2, take_val_succ a i hi, Int.add_mul, Int.mul_comm a[i]]
  unfold lenM at hl
  by_cases hb : b.length = 0
  · have hb0 : b = [] := List.eq_nil_of_length_eq_zero hb
    have hc0 := h6 hb
    subst hb0
    subst hc0
    rw [if_pos hb] at hl
    have hz : nval zs = 0 := by rw [hval]; exact Int.mul_zero _
    have hzs : zs = [] := by
      rcases hl with hl | ⟨_, hg⟩
      · exact List.eq_nil_of_length_eq_zero hl
      · have := bp_pos (([] : List Int).length)
        omega
    subst hzs
    exact ⟨hd, hval, by simp, .inl (by simp), fun _ => rfl, fun _ => rfl⟩
  · rw [if_neg hb, show max cur.length (i + b.length) = i + b.length by omega] at hl
    refine ⟨hd, hval, by omega, ?_, fun h => absurd h (by omega), fun h => absurd h hb⟩
    rcases hl with hl | ⟨hl, hg⟩
    · exact .inl (by omega)
    · right
      rw [hl, show i + b.length + 1 - 1 = i + b.length by omega]
      exact hg
theorem MulR.done {a b cur : List Int} (h : MulR a b a.length cur) (oa : natOkB a = true) (ob : natOkB b = true) : cur = limbs (nval a * nval b).toNat := by
  obtain ⟨h1, h2, h3, h4, h5, h6⟩ := h
  rw [List.take_of_length_le (Nat.le_refl _)] at h2
  rw [← h2]
  apply limbs_of_ge cur h1
  intro h0
  rcases h4 with h4 | h4
  · have ha : 0 < a.length := by
      rcases Nat.eq_zero_or_pos a.length with e | e
      · rw [h5 e] at h0; simp at h0
      · exact e
    have hb : 0 < b.length := by
      rcases Nat.eq_zero_or_pos b.length with e | e
      · rw [h6 e] at h0; simp at h0
      · exact e
    have ga := ok_ge oa ha
    have gb := ok_ge ob hb
    have pa := bp_pos (a.length - 1)
    have pb := bp_pos (b.length - 1)
    have hm := Int.mul_le_mul ga gb (by omega) (by omega)
    rw [← bp_add, ← h2] at hm
    have := bp_mono (show cur.length - 1 ≤ a.length - 1 + (b.length - 1) by omega)
    omega
  · exact h4

set_option maxHeartbeats 1000000 in
set_option maxRecDepth 100000 in
theorem implNatMul_any (va vb : Value) (a b : List Int) (la ha lb hb : Nat) (w : World) (hal : a.length ≤ 1048576) (hbl : b.length ≤ 1048576) (hha : ha ≤ w.heap.size) (hhb : hb ≤ w.heap.size)
    (hra : Row w la ha va (intsV a)) (hrb : Row w lb hb vb (intsV b)) :
    Calls Tryd.prog 150 #[va, vb] w (NewInts (mulN a b) w) := by
  by_cases oa : natOkB a = true
  · by_cases ob : natOkB b = true
    · have HN := Lib.hid (mulN_ok oa ob)
      have OA := Lib.hid oa
      have OB := Lib.hid ob
      have pa := (natOk_parts oa).2.1
      have pb := (natOk_parts ob).2.1
      have ra := hra
      obtain ⟨A, ca, rfl, hA⟩ := hra
      rw [intsV_length] at ra ⊢
      have HA := Lib.hid hA
      clear hA
      go_enter Tryd.func150, Tryd.ntmps150
      go_wp2_with fail
      refine (implNatOk_same _ a la ha _ (by omega) ra).mono ?_
      rintro e w' ⟨rfl, rfl⟩
      rw [oa]
      go_wp2_with fail
      refine (implNatOk_same vb b lb hb _ (by omega) hrb).mono ?_
      rintro e w' ⟨rfl, rfl⟩
      rw [ob]
      clear oa ob
      go_wp2
      go_loopw [18] (fun i wr => ∃ (k : Nat) (cur : List Int), k ≤ a.length ∧ i = .int .i64 k ∧ Hid (MulR a b k cur) ∧ NatAt w.heap.size w.heap.size cur wr ∧ Below w.heap.size w wr) (fun i _ => a.length - (intOf i).toNat)
      case atStart => exact ⟨0, [], Nat.zero_le _, rfl, Lib.hid (MulR.start a b), NatAt.new (Nat.le_refl _) (World.ownsRow_nil _ _ _ _), (Below.refl _ _).alloc (Nat.le_refl _) _⟩
      case round =>
        obtain ⟨k, cur, hk, rfl, HM, hat, hb1⟩ := hrel
        have hcl : cur.length ≤ 100 := by have := HM.out.2.2.1; omega
        by_cases hlt : k < a.length
        · obtain ⟨p, rfl, _, hpb, hca⟩ := HA.out k _ (intsV_at a k hlt)
          have hca' : wr.cell? (p.add k) = some (.int .i64 a[k]) := (hb1.cell (by rw [block_add]; omega)).trans hca
          have hda := (natOk_parts OA.out).1.at_ k hlt
          have hd0 := hda.1
          have hd1 := hda.2
          clear hca hda
          go_wp2_with fail
          refine (addTimes_any w.heap.size w.heap.size cur vb b lb hb a[k] k _ (by omega) (by omega) (by omega) hd0 hd1 HM.out.1 (natOk_parts OB.out).1 hhb (hrb.below hb1 hhb) hat).mono ?_
          rintro e w2 ⟨rfl, zs, ⟨hat2, hb2⟩, hd, hv, hl⟩
          have HM2 := Lib.hid (HM.out.next hlt hd hv hl)
          clear hd hv hl hd0 hd1
          go_wp2
          go_roundw
          case rel => exact ⟨k + 1, zs, by omega, by go_num, HM2, hat2, hb1.trans hb2⟩
          case measure => simp [intOf]; omega
        · obtain rfl : k = a.length := by omega
          have HZ := Lib.hid (HM.out.done OA.out OB.out)
          go_wp2_with fail
          refine (natResult_any w.heap.size w.heap.size cur _ (by omega) hat).mono ?_
          rintro e w3 hpost
          obtain ⟨rfl, v3, rfl, ho⟩ := hpost
          go_wp2
          go_ret
          exact ⟨_, rfl, by rw [HN.out]; unfold natRes; rw [← HZ.out]; exact ho, hb1⟩
    · have ob' : natOkB b = false := by simpa using ob
      have HN := Lib.hid (show mulN a b = [] by unfold mulN; rw [if_neg (fun h => ob h.2)])
      clear ob
      go_enter Tryd.func150, Tryd.ntmps150
      go_wp2_with fail
      refine (implNatOk_same va a la ha _ (by omega) hra).mono ?_
      rintro e w' ⟨rfl, rfl⟩
      rw [oa]
      go_wp2_with fail
      refine (implNatOk_same vb b lb hb _ (by omega) hrb).mono ?_
      rintro e w' ⟨rfl, rfl⟩
      rw [ob']
      go_wp2
      go_ret
      rw [HN.out]
      exact new_nil (Below.refl _ _)
  · have oa' : natOkB a = false := by simpa using oa
    have HN := Lib.hid (show mulN a b = [] by unfold mulN; rw [if_neg (fun h => oa h.1)])
    clear oa
    go_enter Tryd.func150, Tryd.ntmps150
    go_wp2_with fail
    refine (implNatOk_same va a la ha _ (by omega) hra).mono ?_
    rintro e w' ⟨rfl, rfl⟩
    rw [oa']
    go_wp2
    go_ret
    rw [HN.out]
    exact new_nil (Below.refl _ _)
end Go.Proofs.YthfkdofnoomhaaaDoor

namespace Go.Proofs.YthfkdofnoomhaaaDoor
open Go.RowKit

set_option maxHeartbeats 400000 in
set_option maxRecDepth 100000 in
theorem limbAt_any (v : Value) (xs : List Int) (p : Int) (lo hi : Nat) (w : World) (_hl : xs.length ≤ 1048576) (hr : Row w lo hi v (intsV xs)) :
    Calls Tryd.prog 177 #[v, .int .i64 p] w fun e w' => e = .returned (.int .i64 (if p < 0 then 0 else xs.getD p.toNat 0)) ∧ w = w' := by
  obtain ⟨A, c, rfl, hA⟩ := hr
  rw [intsV_length]
  by_cases h0 : p < 0
  · rw [if_pos h0]
    go_enter Tryd.func177, Tryd.ntmps177
    go_wp2
    go_ret
    exact ⟨rfl, rfl⟩
  · rw [if_neg h0]
    obtain ⟨n, rfl⟩ := Int.eq_ofNat_of_zero_le (show 0 ≤ p by omega)
    rw [Int.toNat_natCast]
    by_cases h1 : n < xs.length
    · obtain ⟨a, rfl, _, _, hca⟩ := hA n _ (intsV_at xs n h1)
      rw [List.getD_eq_getElem?_getD, List.getElem?_eq_getElem h1, Option.getD_some]
      clear h0
      generalize xs[n] = x at *
      go_enter Tryd.func177, Tryd.ntmps177
      go_wp2
      go_ret
      exact ⟨rfl, rfl⟩
    · rw [List.getD_eq_getElem?_getD, List.getElem?_eq_none (by omega)]
      clear h0
      go_enter Tryd.func177, Tryd.ntmps177
      go_wp2
      go_ret
      exact ⟨rfl, rfl⟩
theorem TwoRows.postII {xs ys : List Int} {w w' : World} {e : Ending} (h : TwoRows xs ys w e w') : PostII xs ys w e w' := by
  obtain ⟨v1, v2, rfl, o1, o2, ap, b⟩ := h
  exact ⟨v1, _, v2, _, rfl, own_at o1, own_at o2, own_within o1, own_within o2, fun g h1 h2 => ap g g (by simpa using h1) (by simpa using h2) rfl, b⟩
end Go.Proofs.YthfkdofnoomhaaaDoor

namespace Go.Proofs
open Go.Shelf
def Tryd.lays169_ren : Go.Shelf.Ren := ⟨fun | 169 => 115 | n => n, fun | 70 => 136 | 9 => 9 | 0 => 0 | 72 => 138 | 37 => 55 | 127 => 173 | 3 => 3 | 5 => 5 | n => n, fun | n => n⟩
theorem Tryd.lays169 : Go.Proofs.Lays.n169 Tryd.prog Tryd.lays169_ren := {
  mixed := by kernel_rfl
  f169 := Tryd.func115.trans (congrArg some (by kernel_rfl))
  t0 := Tryd.underlying0
  a0 := Tryd.isAgg0
  z0 := Tryd.sizeOf0
  v0 := Tryd.zeroValue0
  t3 := Tryd.underlying3
  a3 := Tryd.isAgg3
  z3 := Tryd.sizeOf3
  v3 := Tryd.zeroValue3
  t9 := Tryd.underlying9
  a9 := Tryd.isAgg9
  z9 := Tryd.sizeOf9
  v9 := Tryd.zeroValue9
  t37 := Tryd.underlying55
  a37 := Tryd.isAgg55
  z37 := Tryd.sizeOf55
  v37 := Tryd.zeroValue55
  t70 := Tryd.underlying136
  a70 := Tryd.isAgg136
  z70 := Tryd.sizeOf136
  v70 := Tryd.zeroValue136
  t72 := Tryd.underlying138
  a72 := Tryd.isAgg138
  z72 := Tryd.sizeOf138
  v72 := Tryd.zeroValue138
  t127 := Tryd.underlying173
  a127 := Tryd.isAgg173
  z127 := Tryd.sizeOf173
  v127 := Tryd.zeroValue173 }
theorem Tryd.Builder_Extra_169 : Builder.Extra Tryd.prog Tryd.lays169_ren := {
  sizeBuilder := by kernel_rfl
  liesBuilder := by kernel_rfl
  t5 := Tryd.underlying5
  a5 := Tryd.isAgg5
  z5 := Tryd.sizeOf5
  v5 := Tryd.zeroValue5
  infoByte := by kernel_rfl
  cellsByte := by kernel_rfl
  sizeByte := by kernel_rfl
  neB5 := by decide }
def Tryd.lays231_ren : Go.Shelf.Ren := ⟨fun | 231 => 123 | n => n, fun | 9 => 9 | 5 => 5 | 3 => 3 | 4 => 4 | n => n, fun | n => n⟩
theorem Tryd.lays231 : Go.Proofs.Lays.n231 Tryd.prog Tryd.lays231_ren := {
  mixed := by kernel_rfl
  f231 := Tryd.func123.trans (congrArg some (by kernel_rfl))
  t3 := Tryd.underlying3
  a3 := Tryd.isAgg3
  z3 := Tryd.sizeOf3
  v3 := Tryd.zeroValue3
  t4 := Tryd.underlying4
  a4 := Tryd.isAgg4
  z4 := Tryd.sizeOf4
  v4 := Tryd.zeroValue4
  t5 := Tryd.underlying5
  a5 := Tryd.isAgg5
  z5 := Tryd.sizeOf5
  v5 := Tryd.zeroValue5
  t9 := Tryd.underlying9
  a9 := Tryd.isAgg9
  z9 := Tryd.sizeOf9
  v9 := Tryd.zeroValue9 }
open Go.RowKit in
theorem Tryd.strings_trimLeftByte (s : ByteArray) (c : UInt8) (w : World) :
    Calls Tryd.prog 123 #[.string s, .int .u8 c.toNat] w fun e w' => e = .returned (.string ⟨(Lib.trimLeftB s.data.toList c).toArray⟩) ∧ w' = w := Any.strings_trimLeftByte Tryd.lays231 s c w
def Tryd.lays134_ren : Go.Shelf.Ren := ⟨fun | 134 => 201 | 129 => 206 | n => n, fun | 53 => 198 | 3 => 3 | 4 => 4 | 46 => 168 | 5 => 5 | 9 => 9 | n => n, fun | n => n⟩
theorem Tryd.lays134 : Go.Proofs.Lays.n134 Tryd.prog Tryd.lays134_ren := {
  mixed := by kernel_rfl
  f129 := Tryd.func206.trans (congrArg some (by kernel_rfl))
  f134 := Tryd.func201.trans (congrArg some (by kernel_rfl))
  t3 := Tryd.underlying3
  a3 := Tryd.isAgg3
  z3 := Tryd.sizeOf3
  v3 := Tryd.zeroValue3
  t4 := Tryd.underlying4
  a4 := Tryd.isAgg4
  z4 := Tryd.sizeOf4
  v4 := Tryd.zeroValue4
  t5 := Tryd.underlying5
  a5 := Tryd.isAgg5
  z5 := Tryd.sizeOf5
  v5 := Tryd.zeroValue5
  t9 := Tryd.underlying9
  a9 := Tryd.isAgg9
  z9 := Tryd.sizeOf9
  v9 := Tryd.zeroValue9
  t46 := Tryd.underlying168
  a46 := Tryd.isAgg168
  z46 := Tryd.sizeOf168
  v46 := Tryd.zeroValue168
  t53 := Tryd.underlying198
  a53 := Tryd.isAgg198
  z53 := Tryd.sizeOf198
  v53 := Tryd.zeroValue198 }
theorem Tryd.bits_LeadingZeros64 (x : Int) (w : World) (h0 : 0 ≤ x) (h1 : x ≤ 18446744073709551615) :
    Calls Tryd.prog 201 #[.int .u64 x] w fun e w' => e = .returned (.int .i64 (64 - (Lib.bitLen x.toNat : Int))) ∧ w' = w := Any.bits_LeadingZeros64 Tryd.lays134 x w h0 h1
def Tryd.lays103_ren : Go.Shelf.Ren := ⟨fun | 103 => 69 | 210 => 118 | 206 => 166 | n => n, fun | 9 => 9 | 4 => 4 | 24 => 89 | 3 => 3 | n => n, fun | n => n⟩
theorem Tryd.lays103 : Go.Proofs.Lays.n103 Tryd.prog Tryd.lays103_ren := {
  mixed := by kernel_rfl
  f103 := Tryd.func69.trans (congrArg some (by kernel_rfl))
  f206 := Tryd.func166.trans (congrArg some (by kernel_rfl))
  f210 := Tryd.func118.trans (congrArg some (by kernel_rfl))
  t3 := Tryd.underlying3
  a3 := Tryd.isAgg3
  z3 := Tryd.sizeOf3
  v3 := Tryd.zeroValue3
  t4 := Tryd.underlying4
  a4 := Tryd.isAgg4
  z4 := Tryd.sizeOf4
  v4 := Tryd.zeroValue4
  t9 := Tryd.underlying9
  a9 := Tryd.isAgg9
  z9 := Tryd.sizeOf9
  v9 := Tryd.zeroValue9
  t24 := Tryd.underlying89
  a24 := Tryd.isAgg89
  z24 := Tryd.sizeOf89
  v24 := Tryd.zeroValue89 }
open Go.RowKit in
theorem Tryd.strings_CutPrefix (s p : ByteArray) (w : World) :
    Calls Tryd.prog 69 #[.string s, .string p] w fun e w' => e = .returned (.tuple #[.string ⟨(Lib.trimPrefix s.data.toList p.data.toList).toArray⟩, .bool (Lib.hasPrefix s.data.toList p.data.toList)]) ∧ w' = w := Any.strings_CutPrefix Tryd.lays103 s p w
open Go.RowKit in
theorem Tryd.Builder_String_any_k (B b : Nat) (l : List UInt8) (w : World) (h : Lib.IsBuilderF 138 5 B b (Lib.byteCells l) w) (hBw : B ≤ w.heap.size) :
    Calls Tryd.prog 115 #[.pointer (some ⟨b, 0, none⟩)] w fun e w' => e = .returned (.string ⟨l.toArray⟩) ∧ (Lib.IsBuilderF 138 5 B b (Lib.byteCells l) w' ∧ Below B w w' ∧ Lib.OthersKept 5 (some b) w w') := Any.Builder_String_any_k Tryd.lays169 Tryd.Builder_Extra_169 B b l w h hBw
def Tryd.laysM171_ren : Go.Shelf.Ren := ⟨fun | 171 => 163 | 243 => 185 | 246 => 196 | 283 => 202 | 284 => 203 | 285 => 204 | 286 => 205 | 129 => 206 | 317 => 207 | 318 => 208 | 319 => 209 | 320 => 210 | 337 => 211 | 338 => 212 | n => n, fun | 3 => 3 | 9 => 9 | 2 => 2 | 4 => 4 | 171 => 215 | 0 => 0 | 53 => 198 | 37 => 55 | 5 => 5 | 173 => 217 | 212 => 220 | 51 => 195 | 20 => 20 | 213 => 221 | 46 => 168 | 232 => 224 | 233 => 225 | n => n, fun | 17 => 6 | 18 => 7 | 19 => 8 | n => n⟩
theorem Tryd.laysM171 : Go.Proofs.LaysM.n171 Tryd.prog Tryd.laysM171_ren := {
  mixed := by kernel_rfl
  f129 := Tryd.func206.trans (congrArg some (by kernel_rfl))
  f171 := Tryd.func163.trans (congrArg some (by kernel_rfl))
  f243 := Tryd.func185.trans (congrArg some (by kernel_rfl))
  f246 := Tryd.func196.trans (congrArg some (by kernel_rfl))
  f283 := Tryd.func202.trans (congrArg some (by kernel_rfl))
  f284 := Tryd.func203.trans (congrArg some (by kernel_rfl))
  f285 := Tryd.func204.trans (congrArg some (by kernel_rfl))
  f286 := Tryd.func205.trans (congrArg some (by kernel_rfl))
  f317 := Tryd.func207.trans (congrArg some (by kernel_rfl))
  f318 := Tryd.func208.trans (congrArg some (by kernel_rfl))
  f319 := Tryd.func209.trans (congrArg some (by kernel_rfl))
  f320 := Tryd.func210.trans (congrArg some (by kernel_rfl))
  f337 := Tryd.func211.trans (congrArg some (by kernel_rfl))
  f338 := Tryd.func212.trans (congrArg some (by kernel_rfl))
  t0 := Tryd.underlying0
  a0 := Tryd.isAgg0
  z0 := Tryd.sizeOf0
  v0 := Tryd.zeroValue0
  t2 := Tryd.underlying2
  a2 := Tryd.isAgg2
  z2 := Tryd.sizeOf2
  v2 := Tryd.zeroValue2
  t3 := Tryd.underlying3
  a3 := Tryd.isAgg3
  z3 := Tryd.sizeOf3
  v3 := Tryd.zeroValue3
  t4 := Tryd.underlying4
  a4 := Tryd.isAgg4
  z4 := Tryd.sizeOf4
  v4 := Tryd.zeroValue4
  t5 := Tryd.underlying5
  a5 := Tryd.isAgg5
  z5 := Tryd.sizeOf5
  v5 := Tryd.zeroValue5
  t9 := Tryd.underlying9
  a9 := Tryd.isAgg9
  z9 := Tryd.sizeOf9
  v9 := Tryd.zeroValue9
  t20 := Tryd.underlying20
  a20 := Tryd.isAgg20
  z20 := Tryd.sizeOf20
  v20 := Tryd.zeroValue20
  t37 := Tryd.underlying55
  a37 := Tryd.isAgg55
  z37 := Tryd.sizeOf55
  v37 := Tryd.zeroValue55
  t46 := Tryd.underlying168
  a46 := Tryd.isAgg168
  z46 := Tryd.sizeOf168
  v46 := Tryd.zeroValue168
  t51 := Tryd.underlying195
  a51 := Tryd.isAgg195
  z51 := Tryd.sizeOf195
  v51 := Tryd.zeroValue195
  t53 := Tryd.underlying198
  a53 := Tryd.isAgg198
  z53 := Tryd.sizeOf198
  v53 := Tryd.zeroValue198
  t171 := Tryd.underlying215
  a171 := Tryd.isAgg215
  z171 := Tryd.sizeOf215
  v171 := Tryd.zeroValue215
  t173 := Tryd.underlying217
  a173 := Tryd.isAgg217
  z173 := Tryd.sizeOf217
  v173 := Tryd.zeroValue217
  t212 := Tryd.underlying220
  a212 := Tryd.isAgg220
  z212 := Tryd.sizeOf220
  v212 := Tryd.zeroValue220
  t213 := Tryd.underlying221
  a213 := Tryd.isAgg221
  z213 := Tryd.sizeOf221
  t232 := Tryd.underlying224
  a232 := Tryd.isAgg224
  z232 := Tryd.sizeOf224
  v232 := Tryd.zeroValue224
  t233 := Tryd.underlying225
  a233 := Tryd.isAgg225
  z233 := Tryd.sizeOf225
  v233 := Tryd.zeroValue225
  g17 := by kernel_rfl
  g18 := by kernel_rfl
  g19 := by kernel_rfl
  i0 := by kernel_rfl
  i2 := by kernel_rfl
  i3 := by kernel_rfl
  i4 := by kernel_rfl
  i5 := by kernel_rfl
  i9 := by kernel_rfl
  i20 := by kernel_rfl
  i37 := by kernel_rfl
  i46 := by kernel_rfl
  i51 := by kernel_rfl
  i53 := by kernel_rfl
  i171 := by kernel_rfl
  i173 := by kernel_rfl
  i212 := by kernel_rfl
  i232 := by kernel_rfl
  i233 := by kernel_rfl
  m17 := by kernel_rfl
  m18 := by kernel_rfl
  m19 := by kernel_rfl }
open Go.RowKit Go.Sort Go.Lib in
theorem Tryd.strconv_Itoa (n : Int) (h0 : -9223372036854775808 ≤ n) (h1 : n ≤ 9223372036854775807) (w : World) (htab : Lib.TabIs Tryd.prog w "internal/strconv.uint64pow10" .u64 Lib.pow10Tab) :
    Calls Tryd.prog 163 #[.int .i64 n] w fun e w' => e = .returned (.string ⟨(Lib.itoa n).toArray⟩) ∧ ∃ k os, w' = grow (w.drewN k) os := Any.strconv_Itoa Tryd.laysM171 n h0 h1 w htab
def Tryd.lays219_ren : Go.Shelf.Ren := ⟨fun | 219 => 167 | 217 => 187 | 225 => 188 | 224 => 189 | 267 => 190 | 266 => 197 | 314 => 198 | n => n, fun | 9 => 9 | 3 => 3 | 4 => 4 | 5 => 5 | 46 => 168 | 146 => 196 | 51 => 195 | n => n, fun | 1 => 1 | n => n⟩
theorem Tryd.lays219 : Go.Proofs.Lays.n219 Tryd.prog Tryd.lays219_ren := {
  mixed := by kernel_rfl
  f217 := Tryd.func187.trans (congrArg some (by kernel_rfl))
  f219 := Tryd.func167.trans (congrArg some (by kernel_rfl))
  f224 := Tryd.func189.trans (congrArg some (by kernel_rfl))
  f225 := Tryd.func188.trans (congrArg some (by kernel_rfl))
  f266 := Tryd.func197.trans (congrArg some (by kernel_rfl))
  f267 := Tryd.func190.trans (congrArg some (by kernel_rfl))
  f314 := Tryd.func198.trans (congrArg some (by kernel_rfl))
  t3 := Tryd.underlying3
  a3 := Tryd.isAgg3
  z3 := Tryd.sizeOf3
  v3 := Tryd.zeroValue3
  t4 := Tryd.underlying4
  a4 := Tryd.isAgg4
  z4 := Tryd.sizeOf4
  v4 := Tryd.zeroValue4
  t5 := Tryd.underlying5
  a5 := Tryd.isAgg5
  z5 := Tryd.sizeOf5
  v5 := Tryd.zeroValue5
  t9 := Tryd.underlying9
  a9 := Tryd.isAgg9
  z9 := Tryd.sizeOf9
  v9 := Tryd.zeroValue9
  t46 := Tryd.underlying168
  a46 := Tryd.isAgg168
  z46 := Tryd.sizeOf168
  v46 := Tryd.zeroValue168
  t51 := Tryd.underlying195
  a51 := Tryd.isAgg195
  z51 := Tryd.sizeOf195
  v51 := Tryd.zeroValue195
  t146 := Tryd.underlying196
  a146 := Tryd.isAgg196
  z146 := Tryd.sizeOf196
  v146 := Tryd.zeroValue196
  g1 := by kernel_rfl }
open Go.RowKit Go.Lib in
theorem Tryd.stringslite_Index_one (s : ByteArray) (c : UInt8) (w : World) :
    Calls Tryd.prog 167 #[.string s, .string ⟨#[c]⟩] w fun e w' => e = .returned (.int .i64 (Lib.indexByte s.data.toList c)) ∧ w' = w := Any.stringslite_Index_one Tryd.lays219 s c w
def Tryd.lays264_ren : Go.Shelf.Ren := ⟨fun | 264 => 183 | n => n, fun | 53 => 198 | 46 => 168 | n => n, fun | n => n⟩
theorem Tryd.lays264 : Go.Proofs.Lays.n264 Tryd.prog Tryd.lays264_ren := {
  mixed := by kernel_rfl
  f264 := Tryd.func183.trans (congrArg some (by kernel_rfl))
  t46 := Tryd.underlying168
  a46 := Tryd.isAgg168
  z46 := Tryd.sizeOf168
  v46 := Tryd.zeroValue168
  t53 := Tryd.underlying198
  a53 := Tryd.isAgg198
  z53 := Tryd.sizeOf198
  v53 := Tryd.zeroValue198 }
open Go.RowKit Go.Lib in
theorem Tryd.bits_Mul64 (x y : Nat) (hx : x < 18446744073709551616) (hy : y < 18446744073709551616) (w : World) :
    Calls Tryd.prog 183 #[.int .u64 x, .int .u64 y] w fun e w' => e = .returned (.tuple #[.int .u64 ((x * y / 18446744073709551616 : Nat) : Int), .int .u64 ((x * y % 18446744073709551616 : Nat) : Int)]) ∧ w' = w := Any.bits_Mul64 Tryd.lays264 x y hx hy w
def Tryd.lays105_ren : Go.Shelf.Ren := ⟨fun | 105 => 111 | 212 => 159 | 99 => 160 | 165 => 161 | 166 => 114 | 170 => 162 | 169 => 115 | 263 => 182 | 264 => 183 | 206 => 166 | 240 => 164 | 241 => 184 | 276 => 186 | 277 => 195 | n => n, fun | 9 => 9 | 3 => 3 | 4 => 4 | 20 => 20 | 0 => 0 | 46 => 168 | 109 => 169 | 5 => 5 | 72 => 138 | 76 => 139 | 51 => 195 | 146 => 196 | 53 => 198 | 148 => 199 | 70 => 136 | 37 => 55 | 75 => 121 | 127 => 173 | 164 => 201 | 80 => 141 | n => n, fun | n => n⟩
theorem Tryd.lays105 : Go.Proofs.Lays.n105 Tryd.prog Tryd.lays105_ren := {
  mixed := by kernel_rfl
  f99 := Tryd.func160.trans (congrArg some (by kernel_rfl))
  f105 := Tryd.func111.trans (congrArg some (by kernel_rfl))
  f165 := Tryd.func161.trans (congrArg some (by kernel_rfl))
  f166 := Tryd.func114.trans (congrArg some (by kernel_rfl))
  f169 := Tryd.func115.trans (congrArg some (by kernel_rfl))
  f170 := Tryd.func162.trans (congrArg some (by kernel_rfl))
  f206 := Tryd.func166.trans (congrArg some (by kernel_rfl))
  f212 := Tryd.func159.trans (congrArg some (by kernel_rfl))
  f240 := Tryd.func164.trans (congrArg some (by kernel_rfl))
  f241 := Tryd.func184.trans (congrArg some (by kernel_rfl))
  f263 := Tryd.func182.trans (congrArg some (by kernel_rfl))
  f264 := Tryd.func183.trans (congrArg some (by kernel_rfl))
  f276 := Tryd.func186.trans (congrArg some (by kernel_rfl))
  f277 := Tryd.func195.trans (congrArg some (by kernel_rfl))
  t0 := Tryd.underlying0
  a0 := Tryd.isAgg0
  z0 := Tryd.sizeOf0
  v0 := Tryd.zeroValue0
  t3 := Tryd.underlying3
  a3 := Tryd.isAgg3
  z3 := Tryd.sizeOf3
  v3 := Tryd.zeroValue3
  t4 := Tryd.underlying4
  a4 := Tryd.isAgg4
  z4 := Tryd.sizeOf4
  v4 := Tryd.zeroValue4
  t5 := Tryd.underlying5
  a5 := Tryd.isAgg5
  z5 := Tryd.sizeOf5
  v5 := Tryd.zeroValue5
  t9 := Tryd.underlying9
  a9 := Tryd.isAgg9
  z9 := Tryd.sizeOf9
  v9 := Tryd.zeroValue9
  t20 := Tryd.underlying20
  a20 := Tryd.isAgg20
  z20 := Tryd.sizeOf20
  v20 := Tryd.zeroValue20
  t37 := Tryd.underlying55
  a37 := Tryd.isAgg55
  z37 := Tryd.sizeOf55
  v37 := Tryd.zeroValue55
  t46 := Tryd.underlying168
  a46 := Tryd.isAgg168
  z46 := Tryd.sizeOf168
  v46 := Tryd.zeroValue168
  t51 := Tryd.underlying195
  a51 := Tryd.isAgg195
  z51 := Tryd.sizeOf195
  v51 := Tryd.zeroValue195
  t53 := Tryd.underlying198
  a53 := Tryd.isAgg198
  z53 := Tryd.sizeOf198
  v53 := Tryd.zeroValue198
  t70 := Tryd.underlying136
  a70 := Tryd.isAgg136
  z70 := Tryd.sizeOf136
  v70 := Tryd.zeroValue136
  t72 := Tryd.underlying138
  a72 := Tryd.isAgg138
  z72 := Tryd.sizeOf138
  v72 := Tryd.zeroValue138
  t75 := Tryd.underlying121
  a75 := Tryd.isAgg121
  z75 := Tryd.sizeOf121
  v75 := Tryd.zeroValue121
  t76 := Tryd.underlying139
  a76 := Tryd.isAgg139
  z76 := Tryd.sizeOf139
  v76 := Tryd.zeroValue139
  t109 := Tryd.underlying169
  a109 := Tryd.isAgg169
  z109 := Tryd.sizeOf169
  v109 := Tryd.zeroValue169
  t127 := Tryd.underlying173
  a127 := Tryd.isAgg173
  z127 := Tryd.sizeOf173
  v127 := Tryd.zeroValue173
  t146 := Tryd.underlying196
  a146 := Tryd.isAgg196
  z146 := Tryd.sizeOf196
  v146 := Tryd.zeroValue196
  t148 := Tryd.underlying199
  a148 := Tryd.isAgg199
  z148 := Tryd.sizeOf199
  v148 := Tryd.zeroValue199
  t164 := Tryd.underlying201
  a164 := Tryd.isAgg201
  z164 := Tryd.sizeOf201
  v164 := Tryd.zeroValue201 }
theorem Tryd.Builder_Extra_105 : Builder.Extra Tryd.prog Tryd.lays105_ren := {
  sizeBuilder := by kernel_rfl
  liesBuilder := by kernel_rfl
  t5 := Tryd.underlying5
  a5 := Tryd.isAgg5
  z5 := Tryd.sizeOf5
  v5 := Tryd.zeroValue5
  infoByte := by kernel_rfl
  cellsByte := by kernel_rfl
  sizeByte := by kernel_rfl
  neB5 := by decide }
open Go.RowKit Go.Lib in
theorem Tryd.strings_Repeat (s : ByteArray) (c : Nat) (w : World) (hc : c ≤ 9223372036854775807) (hlen : s.size * c ≤ 140737488355328) :
    Calls Tryd.prog 111 #[.string s, .int .i64 c] w fun e w' => e = .returned (.string ⟨(Lib.repeatL s.data.toList c).toArray⟩) ∧ Below w.heap.size w w' := Any.strings_Repeat Tryd.lays105 Tryd.Builder_Extra_105 s c w hc hlen
end Go.Proofs

namespace Go.Proofs.YthfkdofnoomhaaaDoor
open Go.RowKit

/-- the decimal numeral of an int -/
def numB (n : Int) : ByteArray := ⟨(Lib.itoa n).toArray⟩
/-- one byte as a text -/
def byteB (c : Int) : ByteArray := ⟨#[UInt8.ofNat c.toNat]⟩

/-- string([]byte{c}), the cell known -/
theorem conv_cell (W : World) (b : Nat) (c : Int) (h : W.cell? ⟨b, 0, none⟩ = some (.int .u8 c)) : (convert 55 9 (.slice (some ⟨b, 0, none⟩) 1 1)).run Tryd.prog W = .ok (.string (byteB c)) W := by
  rw [run_convert_bytes_string _ 55 9 5 _ _ _ Tryd.underlying55 Tryd.underlying5 Tryd.underlying9]
  rw [run_bytesToString _ _ 1 1 [c] ?_]
  · rfl
  · simp [loadCells, loadCellsFrom, go_sem, Addr.add, h]

theorem dec_small (u : Nat) (h : u < 10) : Lib.decDigits u = [UInt8.ofNat (48 + u)] := by rw [Lib.decDigits, dif_pos h]
theorem dec_big (u : Nat) (h : ¬ u < 10) : Lib.decDigits u = Lib.decDigits (u / 10) ++ [UInt8.ofNat (48 + u % 10)] := by rw [Lib.decDigits, dif_neg h]
theorem num_neg_small (n : Int) (h : n < 0) (h1 : -10 < n) : (⟨#[45]⟩ : ByteArray) ++ byteB (48 - n) = numB n := by
  unfold numB byteB Lib.itoa
  rw [if_pos h, dec_small _ (by omega), show (48 - n).toNat = 48 + n.natAbs from by omega]
  apply ByteArray.ext
  simp
theorem num_neg_big (n : Int) (h : n ≤ -10) : numB (n.tdiv 10) ++ byteB (48 - n.tmod 10) = numB n := by
  have hq : n.tdiv 10 = -((n.natAbs / 10 : Nat) : Int) := by
    obtain ⟨m, rfl⟩ : ∃ m : Nat, n = -(m : Int) := ⟨n.natAbs, by omega⟩
    rw [Int.neg_tdiv, Int.natAbs_neg, Int.natAbs_natCast]
    rfl
  have hr : n.tmod 10 = -((n.natAbs % 10 : Nat) : Int) := by
    obtain ⟨m, rfl⟩ : ∃ m : Nat, n = -(m : Int) := ⟨n.natAbs, by omega⟩
    rw [Int.neg_tmod, Int.natAbs_neg, Int.natAbs_natCast]
    rfl
  unfold numB byteB Lib.itoa
  rw [hq, hr, if_pos (by omega), if_pos (by omega), dec_big n.natAbs (by omega), show (48 - -((n.natAbs % 10 : Nat) : Int)).toNat = 48 + n.natAbs % 10 from by omega, show (-((n.natAbs / 10 : Nat) : Int)).natAbs = n.natAbs / 10 from by omega]
  apply ByteArray.ext
  simp
theorem numB_size (n : Int) (k : Nat) (h : n.natAbs < 10 ^ (k + 1)) : (numB n).size ≤ k + 2 := by
  have hd : ∀ (k u : Nat), u < 10 ^ (k + 1) → (Lib.decDigits u).length ≤ k + 1 := by
    intro k
    induction k with
    | zero => intro u hu; rw [dec_small u (by simpa using hu)]; simp
    | succ k ih =>
      intro u hu
      by_cases hs : u < 10
      · rw [dec_small u hs]; simp
      · rw [dec_big u hs, List.length_append]
        have := ih (u / 10) (by rw [Nat.pow_succ] at hu; omega)
        simp; omega
  have e : (numB n).size = (Lib.itoa n).length := rfl
  rw [e]
  unfold Lib.itoa
  split
  · have := hd k n.natAbs h; simp; omega
  · have := hd k n.toNat (by omega); omega

theorem quo_small (n : Int) (h : n < 0) (h1 : -10 < n) : (n.tdiv 10 == 0) = true := by
  rw [beq_iff_eq]
  obtain ⟨m, rfl⟩ : ∃ m : Nat, n = -(m : Int) := ⟨n.natAbs, by omega⟩
  rw [Int.neg_tdiv, Int.tdiv_eq_zero_of_lt (by omega) (by omega)]
  rfl
theorem quo_rem (n : Int) (h : n ≤ 0) : n.tdiv 10 * 10 + n.tmod 10 = n ∧ -9 ≤ n.tmod 10 ∧ n.tmod 10 ≤ 0 := by
  obtain ⟨m, rfl⟩ : ∃ m : Nat, n = -(m : Int) := ⟨n.natAbs, by omega⟩
  have hq : (-(m : Int)).tdiv 10 = -((m / 10 : Nat) : Int) := by rw [Int.neg_tdiv]; rfl
  have hr : (-(m : Int)).tmod 10 = -((m % 10 : Nat) : Int) := by rw [Int.neg_tmod]; rfl
  rw [hq, hr]
  omega

set_option maxHeartbeats 400000 in
set_option maxRecDepth 100000 in
theorem specIntText_negSmall (n : Int) (w : World) (hn : n < 0) (hp : -10 < n) :
    Calls Tryd.prog 110 #[.int .i64 n] w fun e w' => e = .returned (.string (numB n)) ∧ Below w.heap.size w w' := by
  have hcv := conv_cell
  have hq := quo_small n hn hp
  go_enter Tryd.func110, Tryd.ntmps110
  go_wp2
  go_ret
  exact ⟨ret_str (num_neg_small n hn hp), (Below.refl _ _).alloc (Nat.le_refl _) _⟩

set_option maxHeartbeats 1000000 in
set_option maxRecDepth 100000 in
theorem specIntText_neg (k : Nat) : ∀ (n : Int) (w : World), k ≤ 18 → n < 0 → n.natAbs < 10 ^ (k + 1) → -9223372036854775808 ≤ n →
    Calls Tryd.prog 110 #[.int .i64 n] w fun e w' => e = .returned (.string (numB n)) ∧ Below w.heap.size w w' := by
  induction k with
  | zero =>
    intro n w hk hn hp hl
    exact specIntText_negSmall n w hn (by simp at hp; omega)
  | succ k ih =>
    intro n w hk hn hp hl
    have IH := Lib.hid ih
    clear ih
    by_cases hs : -10 < n
    · exact specIntText_negSmall n w hn hs
    · have hcv := conv_cell
      have hqr := quo_rem n (by omega)
      have HF := Lib.hid (num_neg_big n (by omega))
      have hq : (n.tdiv 10 == 0) = false := by rw [beq_eq_false_iff_ne]; omega
      have hpq : (n.tdiv 10).natAbs < 10 ^ (k + 1) := by rw [Nat.pow_succ] at hp; omega
      have hsz := numB_size _ k hpq
      have HC := Lib.hid (fun w' : World => IH.out (n.tdiv 10) w' (by omega) (by omega) hpq (by omega))
      have hbs : ∀ c : Int, (byteB c).size = 1 := fun _ => rfl
      have hcat : ¬ 9223372036854775807 < (numB (n.tdiv 10)).size + 1 := by omega
      have hw1 : IntKind.i64.wrap (n.tdiv 10) = n.tdiv 10 := IntWalk.i64_in _ (by omega)
      have hw2 : IntKind.i64.wrap (n.tmod 10) = n.tmod 10 := IntWalk.i64_in _ (by omega)
      have hw3 : IntKind.i64.wrap (48 - n.tmod 10) = 48 - n.tmod 10 := IntWalk.i64_in _ (by omega)
      have hw4 : IntKind.u8.wrap (48 - n.tmod 10) = 48 - n.tmod 10 := by rw [IntKind.wrap_u8]; omega
      clear hp hpq IH
      go_enter Tryd.func110, Tryd.ntmps110
      go_wp2
      go_region_with (go_at_call 110; refine (HC.out _).mono ?_; rintro e w1 ⟨rfl, hb1⟩; obtain ⟨hc1, hf1⟩ := below_rules hb1)
      all_goals go_wp2
      all_goals go_ret
      all_goals refine ⟨ret_str HF.out, ?_⟩
      all_goals first
        | exact (Below.next (Below.refl _ w).drew hb1).alloc hb1.size _
        | exact Below.next ((Below.refl _ w).drew.alloc (Nat.le_refl _) _) hb1
        | exact Below.next ((Below.refl _ w).alloc (Nat.le_refl _) _).drew hb1

/-- the digits of m ahead of what has been written -/
theorem pos_step (m : Nat) (acc : List UInt8) (h : ¬ m < 10) : Lib.decDigits m ++ acc = Lib.decDigits (m / 10) ++ (UInt8.ofNat (48 + m % 10) :: acc) := by
  rw [dec_big m h, List.append_assoc]
  rfl
theorem byte_app (m : Nat) (acc : List UInt8) : byteB (48 + (m : Int) % 10) ++ (⟨acc.toArray⟩ : ByteArray) = ⟨(UInt8.ofNat (48 + m % 10) :: acc).toArray⟩ := by
  unfold byteB
  rw [show (48 + (m : Int) % 10).toNat = 48 + m % 10 from by omega]
  apply ByteArray.ext
  simp
theorem pos_last (n m : Nat) (acc : List UInt8) (h : m < 10) (hd : Lib.decDigits m ++ acc = Lib.decDigits n) : byteB (48 + (m : Int)) ++ (⟨acc.toArray⟩ : ByteArray) = numB n := by
  unfold byteB numB Lib.itoa
  rw [if_neg (by omega), Int.toNat_natCast, ← hd, dec_small m h, show (48 + (m : Int)).toNat = 48 + m from by omega]
  apply ByteArray.ext
  simp

set_option maxHeartbeats 400000 in
set_option maxRecDepth 100000 in
theorem specIntText_pos (n : Nat) (w : World) (hn : n ≤ 9223372036854775807) :
    Calls Tryd.prog 110 #[.int .i64 n] w fun e w' => e = .returned (.string (numB n)) ∧ Below w.heap.size w w' := by
  have hcv := conv_cell
  have hbs : ∀ c : Int, (byteB c).size = 1 := fun _ => rfl
  have hn0 : ¬ (n : Int) < 0 := by omega
  go_enter Tryd.func110, Tryd.ntmps110
  go_wp2
  go_loopw [0, 3] (fun a o wr => ∃ (m f : Nat) (acc : List UInt8), m < 10 ^ f ∧ acc.length + f ≤ 19 ∧ m ≤ 9223372036854775807 ∧ a = .int .i64 m ∧ o = .string ⟨acc.toArray⟩ ∧ Hid (Lib.decDigits m ++ acc = Lib.decDigits n) ∧ Below w.heap.size w wr) (fun a _ _ => (intOf a).toNat)
  case atStart => exact ⟨n, 19, [], by omega, by simp, by omega, rfl, rfl, Lib.hid (List.append_nil _), Below.refl _ _⟩
  case round =>
    obtain ⟨m, f, acc, hf, hl, hm, rfl, rfl, HD, hb⟩ := hrel
    by_cases hs : m < 10
    · go_wp2
      go_ret
      exact ⟨ret_str (pos_last n m acc hs HD.out), hb.alloc hb.size _⟩
    · have HS := Lib.hid ((pos_step m acc hs).symm.trans HD.out)
      obtain ⟨g, rfl⟩ : ∃ g, f = g + 1 := by
        cases f with
        | zero => simp at hf; omega
        | succ g => exact ⟨g, rfl⟩
      have hg : m / 10 < 10 ^ g := by rw [Nat.pow_succ] at hf; omega
      clear hf
      go_wp2
      go_roundw
      case rel => exact ⟨m / 10, g, _, hg, by simp; omega, by omega, by go_num, by rw [byte_app], HS, hb.alloc hb.size _⟩
      case measure => simp [intOf]; omega

theorem specIntText_any (n : Int) (w : World) (h0 : -9223372036854775808 ≤ n) (h1 : n ≤ 9223372036854775807) :
    Calls Tryd.prog 110 #[.int .i64 n] w fun e w' => e = .returned (.string (numB n)) ∧ Below w.heap.size w w' := by
  by_cases h : n < 0
  · exact specIntText_neg 18 n w (by omega) h (by omega) h0
  · obtain ⟨m, rfl⟩ := Int.eq_ofNat_of_zero_le (show 0 ≤ n by omega)
    exact specIntText_pos m w (by omega)

/-- the table that the library reads is at hand -/
def Tab (w : World) : Prop := Lib.TabIs Tryd.prog w "internal/strconv.uint64pow10" .u64 Lib.pow10Tab
theorem powGlobal : Tryd.prog.globalNamed "internal/strconv.uint64pow10" = some 6 := by kernel_rfl
theorem Tab.lt {w : World} (h : Tab w) : 6 < w.heap.size := by
  unfold Tab Lib.TabIs World.var? at h
  rw [powGlobal] at h
  simp only [Option.bind_some] at h
  split at h
  · rename_i hh; exact (Array.getElem?_eq_some_iff.1 hh).1
  · cases h
theorem Tab.below {w w' : World} (h : Tab w) (hb : Below w.heap.size w w') : Tab w' := by
  have hl := h.lt
  unfold Tab Lib.TabIs World.var? at h ⊢
  rw [powGlobal] at h ⊢
  simp only [Option.bind_some] at h ⊢
  rw [hb.block _ hl]
  exact h
theorem Tab.drewN {w : World} (h : Tab w) (n : Nat) : Tab (w.drewN n) := h

theorem below_grow (w : World) (k : Nat) (os : Array Obj) : Below w.heap.size w (Sort.grow (w.drewN k) os) :=
  ⟨rfl, rfl, rfl, by show w.heap.size ≤ (w.heap ++ os).size; simp, fun i hi => by show (w.heap ++ os)[i]? = _; rw [Array.getElem?_append_left hi]⟩

theorem itoa_any (n : Int) (w : World) (h0 : -9223372036854775808 ≤ n) (h1 : n ≤ 9223372036854775807) (ht : Tab w) :
    Calls Tryd.prog 163 #[.int .i64 n] w fun e w' => e = .returned (.string (numB n)) ∧ Below w.heap.size w w' := by
  refine (Tryd.strconv_Itoa n h0 h1 w ht).mono ?_
  rintro e w' ⟨rfl, k, os, rfl⟩
  exact ⟨rfl, below_grow w k os⟩

set_option maxHeartbeats 400000 in
set_option maxRecDepth 100000 in
theorem implIntText_any (n : Int) (w : World) (h0 : -9223372036854775808 ≤ n) (h1 : n ≤ 9223372036854775807) (ht : Tab w) :
    Calls Tryd.prog 112 #[.int .i64 n] w fun e w' => e = .returned (.string (numB n)) ∧ Below w.heap.size w w' := by
  go_enter Tryd.func112, Tryd.ntmps112
  go_wp2_with fail
  refine (itoa_any n _ h0 h1 ht).mono ?_
  rintro e w1 ⟨rfl, hb⟩
  go_wp2
  go_ret
  exact ⟨rfl, hb⟩
end Go.Proofs.YthfkdofnoomhaaaDoor

namespace Go.Proofs.YthfkdofnoomhaaaDoor
open Go.RowKit

theorem sizeBuilder : (Tryd.prog.info? 138).map (fun i => i.size) = some 2 := by kernel_rfl
theorem liesBuilder : liesAt Tryd.prog Tryd.prog.depth 138 (2 / Tryd.prog.cellsOf 138) 0 138 1 = true := by kernel_rfl
theorem byteInfo : (Tryd.prog.info? 5).map (fun i => (i.zero, i.size, i.bytes)) = some (some (.int .u8 0), 1, 1) := by kernel_rfl

set_option maxHeartbeats 400000 in
set_option maxRecDepth 100000 in
theorem copyCheck_used (b : Nat) (w : World) (h0 : w.cell? ⟨b, 0, none⟩ = some (.pointer (some ⟨b, 0, none⟩))) :
    Calls Tryd.prog 164 #[.pointer (some ⟨b, 0, none⟩)] w fun e w' => e = .returned (.tuple #[]) ∧ w = w' := by
  obtain ⟨j, hj, _⟩ := Option.map_eq_some_iff.1 sizeBuilder
  go_enter Tryd.func164, Tryd.ntmps164
  go_wp2
  rw [Lib.run_neq_ptr_same w _ Tryd.underlying136 hj]
  go_wp2
  go_end0
  exact ⟨rfl, rfl⟩

set_option maxHeartbeats 400000 in
set_option maxRecDepth 100000 in
theorem copyCheck_fresh (b : Nat) (w : World) (h0 : w.cell? ⟨b, 0, none⟩ = some (.pointer none)) (hsh : w.shape? b = some (138, 2)) (hfz : w.frozen? ⟨b, 0, none⟩ = false) :
    Calls Tryd.prog 164 #[.pointer (some ⟨b, 0, none⟩)] w fun e w' => e = .returned (.tuple #[]) ∧ w.setCell ⟨b, 0, none⟩ (.pointer (some ⟨b, 0, none⟩)) = w' := by
  obtain ⟨j, hj, hjs⟩ := Option.map_eq_some_iff.1 sizeBuilder
  go_enter Tryd.func164, Tryd.ntmps164
  go_wp2
  rw [Lib.run_to_unsafe w ⟨b, 0, none⟩ Tryd.underlying136 Tryd.underlying201 hj (by rw [hjs]; decide) hsh (Nat.zero_lt_succ 1)]
  simp only [Result.andThen]
  rw [Oper.upon_value]
  go_wp2
  rw [run_callFunc_extern Tryd.func186 (by kernel_rfl) (by kernel_rfl) (by kernel_rfl) (e := Extern.AbiNoEscape.same) (by kernel_rfl)]
  rw [Lib.run_noEscape]
  simp only [Result.andThen]
  rw [Oper.upon_value]
  go_wp2
  rw [Lib.run_from_unsafe w ⟨b, 0, none⟩ Tryd.underlying201 Tryd.underlying136 hj hsh liesBuilder]
  simp only [Result.andThen]
  rw [Oper.upon_value]
  go_wp2
  go_end0
  exact ⟨rfl, rfl⟩

/-- a builder of the call's own, with what it holds, and the frame above it -/
def Built (B b : Nat) (bs : List Value) (w w' : World) : Prop := Lib.IsBuilderF 138 5 B b bs w' ∧ Below B w w' ∧ Lib.OthersKept 5 (some b) w w'

theorem copyCheck_any (B b : Nat) (bs : List Value) (w : World) (h : Lib.IsBuilderF 138 5 B b bs w) :
    Calls Tryd.prog 164 #[.pointer (some ⟨b, 0, none⟩)] w fun e w' => e = .returned (.tuple #[]) ∧ Lib.BuilderAtF 138 5 B b (.pointer (some ⟨b, 0, none⟩)) bs w' ∧ Below B w w' ∧ Lib.OthersKept 5 (some b) w w' := by
  rcases h with h | h
  · refine (copyCheck_fresh b w h.cell0 h.shape h.frozen0).mono ?_
    rintro e w' ⟨rfl, rfl⟩
    exact ⟨rfl, h.used _, (Below.refl B w).setCell (p := ⟨b, 0, none⟩) h.1 _, (Lib.OthersKept.refl _ _ w).setCell ⟨b, 0, none⟩ rfl _⟩
  · refine (copyCheck_used b w h.cell0).mono ?_
    rintro e w' ⟨rfl, rfl⟩
    exact ⟨rfl, h, Below.refl B _, Lib.OthersKept.refl _ _ _⟩

set_option maxHeartbeats 1000000 in
set_option maxRecDepth 100000 in
theorem writeString_any (B b : Nat) (bs : List Value) (s : ByteArray) (w : World) (h : Lib.IsBuilderF 138 5 B b bs w) (hlen : bs.length + s.size ≤ 140737488355328) (hBw : B ≤ w.heap.size) :
    Calls Tryd.prog 114 #[.pointer (some ⟨b, 0, none⟩), .string s] w fun e w' => e = .returned (.tuple #[.int .i64 s.size, .nilIface]) ∧ Built B b (bs ++ Lib.strCells s) w w' := by
  obtain ⟨i0, hi, hz0, hz1, hz2⟩ := info_parts byteInfo
  go_enter Tryd.func114, Tryd.ntmps114
  go_wp2_with fail
  refine (copyCheck_any B b bs _ h).mono ?_
  rintro e w1 ⟨rfl, h1, hb1, hk1⟩
  obtain ⟨hB, v, hbk, hown, hne⟩ := h1
  have c1 : w1.cell? ⟨b, 1, none⟩ = some v := by rw [Lib.cell_of_heap hbk]; rfl
  go_wp2_with (at_builtin; refine Lib.wpList_append_own_stringF _ rfl _ _ 55 9 rfl B 5 i0 Tryd.underlying55 Tryd.underlying9 hi hz0 hz1 hz2 _ _ _ rfl hown s rfl ?c3 ?c4 ?c5 ?_)
  case c3 => unfold maxLen; omega
  case c4 => omega
  case c5 => have := hb1.size; omega
  intro v' w2 hown' hgrow _
  have hlt : b < w1.heap.size := (Array.getElem?_eq_some_iff.1 hbk).1
  have hb2 : w2.heap[b]? = some (.cells #[.pointer (some ⟨b, 0, none⟩), v] 138 (0, 0)) := by
    rw [hgrow.block b hlt (fun e => hne e.symm)]
    exact hbk
  have d1 : w2.cell? ⟨b, 1, none⟩ = some v := by rw [Lib.cell_of_heap hb2]; rfl
  have f1 : w2.frozen? ⟨b, 1, none⟩ = false := Lib.frozen_of_heap hb2 1
  obtain ⟨ao, n', cap, rfl⟩ : ∃ ao n' cap, v' = .slice ao n' cap := by
    rcases hown'.2 with ⟨hv, _⟩ | ⟨g, cap, cur, fz, hv, _⟩
    · exact ⟨_, _, _, hv⟩
    · exact ⟨_, _, _, hv⟩
  go_wp2
  go_ret2
  refine ⟨rfl, .inr ?_, ?_, (hk1.grown hgrow (Lib.ownsRowF_kind hown)).setCell ⟨b, 1, none⟩ rfl _⟩
  · exact Lib.BuilderAtF.put hB hb2 (bs' := bs ++ Lib.strCells s) (by simpa [Lib.strCells_length] using hown') (by decide)
  · exact (hb1.grown hgrow (by have := hb1.size; omega) (fun k hk => (hown.lt k hk).1)).setCell (p := ⟨b, 1, none⟩) hB _
end Go.Proofs.YthfkdofnoomhaaaDoor

namespace Go.Proofs.YthfkdofnoomhaaaDoor
open Go.RowKit

/-- the first k parts with by between them -/
def joinTo (by_ : ByteArray) (ss : List ByteArray) : Nat → List UInt8
  | 0 => []
  | k + 1 => joinTo by_ ss k ++ (if 0 < k then by_.data.toList else []) ++ (ss.getD k ByteArray.empty).data.toList
def joinB (by_ : ByteArray) (ss : List ByteArray) : ByteArray := ⟨(joinTo by_ ss ss.length).toArray⟩

theorem joinTo_length (by_ : ByteArray) (ss : List ByteArray) (hy : by_.size ≤ 1048576) (hs : ∀ s ∈ ss, s.size ≤ 1048576) (k : Nat) : (joinTo by_ ss k).length ≤ k * 2097152 := by
  induction k with
  | zero => simp [joinTo]
  | succ k ih =>
    have h1 : (ss.getD k ByteArray.empty).data.toList.length ≤ 1048576 := by
      rw [List.getD_eq_getElem?_getD]
      by_cases hk : k < ss.length
      · rw [List.getElem?_eq_getElem hk]
        exact hs _ (List.getElem_mem hk)
      · rw [List.getElem?_eq_none (by omega)]
        exact Nat.zero_le _
    have h2 : (if 0 < k then by_.data.toList else []).length ≤ 1048576 := by
      split
      · exact hy
      · exact Nat.zero_le _
    unfold joinTo
    rw [List.length_append, List.length_append]
    omega

theorem joinTo_more (by_ : ByteArray) (ss : List ByteArray) (k : Nat) (h0 : 0 < k) (h : k < ss.length) : joinTo by_ ss (k + 1) = joinTo by_ ss k ++ by_.data.toList ++ ss[k].data.toList := by
  rw [joinTo, if_pos h0, List.getD_eq_getElem?_getD, List.getElem?_eq_getElem h]
  rfl
theorem joinTo_first (by_ : ByteArray) (ss : List ByteArray) (k : Nat) (h0 : ¬ 0 < k) (h : k < ss.length) : joinTo by_ ss (k + 1) = joinTo by_ ss k ++ ss[k].data.toList := by
  rw [joinTo, if_neg h0, List.getD_eq_getElem?_getD, List.getElem?_eq_getElem h, List.append_nil]
  rfl

set_option maxHeartbeats 1000000 in
set_option maxRecDepth 100000 in
theorem joinAll_any (by_ : ByteArray) (v : Value) (ss : List ByteArray) (lo hi : Nat) (w : World) (hhi : hi ≤ w.heap.size) (hn : ss.length ≤ 1048576) (hy : by_.size ≤ 1048576) (hs : ∀ s ∈ ss, s.size ≤ 1048576)
    (hr : Row w lo hi v (ss.map Value.string)) :
    Calls Tryd.prog 66 #[.string by_, v] w fun e w' => e = .returned (.string (joinB by_ ss)) ∧ Below w.heap.size w w' := by
  obtain ⟨A, c, rfl, hA⟩ := hr
  rw [List.length_map]
  have HA := Lib.hid hA
  have HS := Lib.hid hs
  clear hA hs
  go_enter Tryd.func66, Tryd.ntmps66
  go_wp2
  go_loopw [10] (fun i wr => ∃ k : Nat, k ≤ ss.length ∧ i = .int .i64 k ∧ Lib.IsBuilderF 138 5 w.heap.size w.heap.size (Lib.byteCells (joinTo by_ ss k)) wr ∧ Below w.heap.size w wr) (fun i _ => ss.length - (intOf i).toNat)
  case atStart => exact ⟨0, Nat.zero_le _, rfl, .inl ⟨Nat.le_refl _, .slice none 0 0, heap_alloc_new w _, ⟨rfl, .inl ⟨rfl, rfl⟩⟩, by simp [Value.ownBlock]⟩, (Below.refl _ _).alloc (Nat.le_refl _) _⟩
  case round =>
    obtain ⟨k, hk, rfl, hB, hb⟩ := hrel
    have hjl := joinTo_length by_ ss hy HS.out k
    by_cases hlt : k < ss.length
    · obtain ⟨a, rfl, _, hab, hca⟩ := HA.out k (.string ss[k]) (by simp [hlt])
      have hca' : wr.cell? (a.add k) = some (.string ss[k]) := (hb.cell (by rw [block_add]; omega)).trans hca
      clear hca
      have hsk : ss[k].size ≤ 1048576 := HS.out _ (List.getElem_mem hlt)
      by_cases h0 : 0 < k
      · have HJ := Lib.hid (joinTo_more by_ ss k h0 hlt)
        go_wp2_with fail
        refine (writeString_any w.heap.size w.heap.size _ by_ _ hB (by rw [Lib.byteCells_length]; omega) hb.size).mono ?_
        rintro e w1 ⟨rfl, hB1, hb1, _⟩
        go_wp2_with fail
        refine (writeString_any w.heap.size w.heap.size _ ss[k] _ hB1 (by rw [List.length_append, Lib.byteCells_length, Lib.strCells_length]; omega) (by have := hb.size; have := hb1.size; omega)).mono ?_
        rintro e w2 ⟨rfl, hB2, hb2, _⟩
        rw [Lib.strCells_eq, Lib.strCells_eq, ← Lib.byteCells_append, ← Lib.byteCells_append] at hB2
        go_wp2
        go_roundw
        case rel => exact ⟨k + 1, by omega, by go_num, by rw [HJ.out]; exact hB2, (hb.trans hb1).trans hb2⟩
        case measure => simp [intOf]; omega
      · have HJ := Lib.hid (joinTo_first by_ ss k h0 hlt)
        go_wp2_with fail
        refine (writeString_any w.heap.size w.heap.size _ ss[k] _ hB (by rw [Lib.byteCells_length]; omega) hb.size).mono ?_
        rintro e w1 ⟨rfl, hB1, hb1, _⟩
        rw [Lib.strCells_eq, ← Lib.byteCells_append] at hB1
        go_wp2
        go_roundw
        case rel => exact ⟨k + 1, by omega, by go_num, by rw [HJ.out]; exact hB1, hb.trans hb1⟩
        case measure => simp [intOf]; omega
    · obtain rfl : k = ss.length := by omega
      go_wp2_with fail
      refine (Tryd.Builder_String_any_k w.heap.size w.heap.size _ _ hB hb.size).mono ?_
      rintro e w1 ⟨rfl, _, hb1, _⟩
      go_wp2
      go_ret
      exact ⟨rfl, hb.trans hb1⟩

theorem app_one (acc : List UInt8) (b : ByteArray) : (⟨acc.toArray⟩ : ByteArray) ++ b = ⟨(acc ++ b.data.toList).toArray⟩ := by
  apply ByteArray.ext
  simp
theorem app_two (acc : List UInt8) (a b : ByteArray) : (⟨acc.toArray⟩ : ByteArray) ++ a ++ b = ⟨(acc ++ a.data.toList ++ b.data.toList).toArray⟩ := by
  rw [app_one, app_one]

set_option maxHeartbeats 400000 in
set_option maxRecDepth 100000 in
theorem implJoin_any (v : Value) (by_ : ByteArray) (ss : List ByteArray) (lo hi : Nat) (w : World) (hhi : hi ≤ w.heap.size) (hn : ss.length ≤ 1048576) (hy : by_.size ≤ 1048576) (hs : ∀ s ∈ ss, s.size ≤ 1048576)
    (hr : Row w lo hi v (ss.map Value.string)) :
    Calls Tryd.prog 113 #[v, .string by_] w fun e w' => e = .returned (.string (joinB by_ ss)) ∧ Below w.heap.size w w' := by
  have HS := Lib.hid hs
  clear hs
  go_enter Tryd.func113, Tryd.ntmps113
  go_wp2_with fail
  refine (joinAll_any by_ v ss lo hi _ hhi hn hy HS.out hr).mono ?_
  rintro e w1 ⟨rfl, hb⟩
  go_wp2
  go_ret
  exact ⟨rfl, hb⟩

end Go.Proofs.YthfkdofnoomhaaaDoor

namespace Go.Proofs.YthfkdofnoomhaaaDoor
open Go.RowKit

/-- zeros ahead of a text -/
def padB (s : ByteArray) (n : Int) : ByteArray := ⟨(List.replicate (n.toNat - s.size) (48 : UInt8) ++ s.data.toList).toArray⟩

theorem padB_same (s : ByteArray) (n : Int) (h : n ≤ s.size) : padB s n = s := by
  unfold padB
  rw [show n.toNat - s.size = 0 from by omega]
  apply ByteArray.ext
  simp
theorem padB_step (s : ByteArray) (n : Int) (h : (s.size : Int) < n) : padB ((⟨#[48]⟩ : ByteArray) ++ s) n = padB s n := by
  have e : n.toNat - s.size = (n.toNat - (s.size + 1)) + 1 := by omega
  have hsz : ((⟨#[48]⟩ : ByteArray) ++ s).size = s.size + 1 := by rw [ByteArray.size_append]; show 1 + s.size = _; omega
  unfold padB
  rw [hsz, e, List.replicate_succ']
  apply ByteArray.ext
  simp
theorem repeat_zero (c : Nat) : Lib.repeatL [48] c = List.replicate c 48 := by
  induction c with
  | zero => rfl
  | succ c ih => rw [Lib.repeatL, ih, List.replicate_succ]; rfl
/-- so many zeros -/
def zerosB (m : Int) : ByteArray := ⟨(List.replicate m.toNat (48 : UInt8)).toArray⟩
theorem zerosB_size (m : Int) : (zerosB m).size = m.toNat := by
  unfold zerosB
  show (List.replicate m.toNat (48 : UInt8)).toArray.size = _
  simp
def strSize : Value → Nat
  | .string t => t.size
  | _ => 0
theorem size_zero_app (t : ByteArray) : ((⟨#[48]⟩ : ByteArray) ++ t).size = t.size + 1 := by
  rw [ByteArray.size_append]
  show 1 + t.size = _
  omega
theorem repeat_any (m : Int) (w : World) (h0 : 0 ≤ m) (h1 : m ≤ 2000) :
    Calls Tryd.prog 111 #[.string ⟨#[48]⟩, .int .i64 m] w fun e w' => e = .returned (.string (zerosB m)) ∧ Below w.heap.size w w' := by
  obtain ⟨c, rfl⟩ := Int.eq_ofNat_of_zero_le h0
  refine (Tryd.strings_Repeat ⟨#[48]⟩ c w (by omega) (by show 1 * c ≤ _; omega)).mono fun e w' ⟨he, hb⟩ => ⟨?_, hb⟩
  rw [he]
  exact ret_str (by rw [zerosB, Int.toNat_natCast, ← repeat_zero])
theorem join_pad (s : ByteArray) (n : Int) (h : (s.size : Int) < n) : joinB ⟨#[]⟩ [zerosB (n - s.size), s] = padB s n := by
  unfold joinB padB zerosB
  rw [show (n - s.size).toNat = n.toNat - s.size from by omega]
  simp [joinTo]

set_option maxHeartbeats 400000 in
set_option maxRecDepth 100000 in
theorem specPad_any (s : ByteArray) (n : Int) (w : World) (hs : s.size ≤ 1048576) (hn : n ≤ 2000) :
    Calls Tryd.prog 61 #[.string s, .int .i64 n] w fun e w' => e = .returned (.string (padB s n)) ∧ w = w' := by
  go_enter Tryd.func61, Tryd.ntmps61
  go_wp2
  go_loop [0] (fun a => ∃ t : ByteArray, t.size ≤ 1048576 ∧ a = .string t ∧ Hid (padB t n = padB s n)) (fun a => n.toNat - strSize a)
  case atStart => exact ⟨s, hs, rfl, Lib.hid rfl⟩
  case round =>
    obtain ⟨t, ht, rfl, HP⟩ := hrel
    by_cases hlt : (t.size : Int) < n
    · have HS := Lib.hid (padB_step t n hlt)
      have HZ := Lib.hid (size_zero_app t)
      go_wp2
      go_round
      case rel => exact ⟨_, by rw [HZ.out]; omega, rfl, Lib.hid (HS.out.trans HP.out)⟩
      case measure => simp only [strSize, HZ.out]; omega
    · go_wp2
      go_ret
      exact ⟨ret_str (by rw [← HP.out, padB_same t n (by omega)]), rfl⟩

set_option maxHeartbeats 400000 in
set_option maxRecDepth 100000 in
theorem implPad_any (s : ByteArray) (n : Int) (w : World) (hs : s.size ≤ 1048576) (hn : n ≤ 2000) (h63 : -9223372036854775808 ≤ n) :
    Calls Tryd.prog 64 #[.string s, .int .i64 n] w fun e w' => e = .returned (.string (padB s n)) ∧ Below w.heap.size w w' := by
  by_cases hlt : (s.size : Int) < n
  · go_enter Tryd.func64, Tryd.ntmps64
    go_wp2_with fail
    refine (repeat_any _ _ (by omega) (by omega)).mono ?_
    rintro e w1 ⟨rfl, hb1⟩
    have hz1 := hb1.size
    have hzs := Lib.hid (zerosB_size (n - s.size))
    go_wp2_with fail
    refine (joinAll_any ⟨#[]⟩ _ [zerosB (n - s.size), s] w1.heap.size (w1.heap.size + 1) _ (by simp) (by simp) (by decide) ?_ (Row.lit2 _ _ _ _)).mono ?_
    · intro x hx
      rcases List.mem_cons.1 hx with rfl | hx
      · rw [hzs.out]; omega
      · rw [List.mem_singleton.1 hx]; exact hs
    rintro e w2 ⟨rfl, hb2⟩
    go_wp2
    go_ret
    exact ⟨ret_str (join_pad s n hlt), Below.next (hb1.alloc (by omega) _) hb2⟩
  · go_enter Tryd.func64, Tryd.ntmps64
    go_wp2
    go_ret
    exact ⟨ret_str (padB_same s n (by omega)).symm, Below.refl _ _⟩

set_option maxHeartbeats 400000 in
set_option maxRecDepth 100000 in
theorem specPad_big (s : ByteArray) (n : Int) (w : World) (hn : 2000 < n) :
    Calls Tryd.prog 61 #[.string s, .int .i64 n] w fun e w' => e = .returned (.string s) ∧ w = w' := by
  go_enter Tryd.func61, Tryd.ntmps61
  go_wp2
  go_ret
  exact ⟨rfl, rfl⟩
set_option maxHeartbeats 400000 in
set_option maxRecDepth 100000 in
theorem implPad_big (s : ByteArray) (n : Int) (w : World) (_hs : s.size ≤ 1048576) (hn : 2000 < n) :
    Calls Tryd.prog 64 #[.string s, .int .i64 n] w fun e w' => e = .returned (.string s) ∧ w = w' := by
  by_cases hlt : (s.size : Int) < n
  · go_enter Tryd.func64, Tryd.ntmps64
    go_wp2
    go_ret
    exact ⟨rfl, rfl⟩
  · go_enter Tryd.func64, Tryd.ntmps64
    go_wp2
    go_ret
    exact ⟨rfl, rfl⟩

end Go.Proofs.YthfkdofnoomhaaaDoor
