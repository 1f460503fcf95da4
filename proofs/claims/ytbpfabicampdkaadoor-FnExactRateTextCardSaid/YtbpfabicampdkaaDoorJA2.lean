/-
  Values of type impl.Money: what laws.toMoney, eqMoney, markMoney, heldMoney and szMoney return; results that lie in their boxes.
  What the functions of chapter 3 of package spec return, for slices that read as lists of limbs.
  What NatAdd, NatSub, NatOf and NatInt of package spec return.
  Products of limbs, and what l02Mul and NatMul of package spec return.
  What NatOf and NatInt of package spec return.
  What l03Small and l03Digit of package spec return.
  What l03Div and NatDiv of package spec return.
  What NatDiv, NatGcd, NatTen, NatScale, NatCut and NatEven of package spec return.
  What NatGcd, NatTen, NatScale, NatCut and NatEven of package spec return.
  Decimal numbers as data, and what the functions of chapter 8 make of them (those that reckon without fractions).
  Values of type impl.Dec: what laws.toDec, eqDec, markDec, heldDec and szDec return; results that lie in their boxes.
  Amounts of money in plain words: what impl's ways of reckoning come to.
  Exchange rates in plain words: what each function of chapter 11 answers.
  Values of type impl.Rate: what laws.toRate, eqRate, markRate, heldRate and szRate return; results that lie in their boxes.
-/
import Derived.Laws.AppendOwnNone
import Derived.Deep.LoopGhost
import Derived.Test.YtbpfabicampdkaaDoorJA1
namespace Go.Proofs.YtbpfabicampdkaaDoor
open Go.RowKit

/-- a value that stands for it, its limbs of the call's own -/
def OwnM (v : Value) (q : MI) (w : World) : Prop := ∃ u, v = .agg #[.string q.1, .bool q.2.1, u] ∧ OwnI u q.2.2 w
def MarkM (v : Value) (q : MI) (m : Int) (w : World) : Prop := ∃ u, v = .agg #[.string q.1, .bool q.2.1, u] ∧ MarkI u q.2.2 m w
/-- a value that reads as it -/
def RdM (w : World) (v : Value) (q : MI) : Prop := ∃ u, v = .agg #[.string q.1, .bool q.2.1, u] ∧ Row w 0 w.heap.size u (intsV q.2.2)
theorem OwnM.rd {v : Value} {q : MI} {w : World} (h : OwnM v q w) : RdM w v q := by
  obtain ⟨u, rfl, o⟩ := h
  exact ⟨u, rfl, o.row⟩
theorem OwnM.mk {u : Value} {q : MI} {w : World} (h : OwnI u q.2.2 w) : OwnM (.agg #[.string q.1, .bool q.2.1, u]) q w := ⟨u, rfl, h⟩
theorem OwnM.below {w W : World} {v : Value} {q : MI} (h : OwnM v q w) (hb : Below w.heap.size w W) : OwnM v q W := by
  obtain ⟨u, rfl, o⟩ := h
  exact ⟨u, rfl, own_below o hb⟩
theorem RdM.below {w W : World} {v : Value} {q : MI} (h : RdM w v q) (hb : Below w.heap.size w W) : RdM W v q := by
  obtain ⟨u, rfl, o⟩ := h
  exact ⟨u, rfl, (o.below hb (Nat.le_refl _)).wide (Nat.le_refl _) hb.size⟩
def capM (q : MI) : Prop := q.1.size ≤ 9223372036854775807 ∧ q.2.2.length ≤ 9223372036854775807
theorem szM_nonneg (q : MI) : 0 ≤ szM q := by unfold szM szS szI; omega
theorem szM_len {q : MI} (h : szM q ≤ 1048576) : q.1.size ≤ 1048576 ∧ q.2.2.length ≤ 1048576 := by unfold szM szS szI at h; omega
theorem capM_of {q : MI} (h : szM q ≤ 1048576) : capM q := by have := szM_len h; unfold capM; omega
theorem mkM_range (q : MI) : 0 ≤ mkM q ∧ mkM q ≤ szM q := by unfold mkM szM szS szI; omega
theorem ownM_form {v : Value} {q : MI} {w : World} (h : OwnM v q w) : ∃ A c, v = .agg #[.string q.1, .bool q.2.1, .slice A q.2.2.length c] := by
  obtain ⟨u, rfl, o⟩ := h
  obtain ⟨A, c, rfl⟩ := own_len o
  exact ⟨A, c, rfl⟩
theorem rdM_form {v : Value} {q : MI} {w : World} (h : RdM w v q) : ∃ A c, v = .agg #[.string q.1, .bool q.2.1, .slice A q.2.2.length c] := by
  obtain ⟨u, rfl, o⟩ := h
  obtain ⟨A, c, rfl⟩ := row_form o
  rw [intsV_length]
  exact ⟨A, c, rfl⟩
theorem ownM_open {u c s : Value} {q : MI} {w : World} (h : OwnM (.agg #[c, s, u]) q w) : OwnI u q.2.2 w := by
  obtain ⟨u', e, hu⟩ := h
  injection e with e
  simp at e
  obtain ⟨_, _, e2⟩ := e
  subst e2
  exact hu
theorem ownS_openM {u c : Value} {x : SI} {w : World} (h : OwnS (.agg #[c, u]) x w) : OwnI u x.2 w := by
  obtain ⟨u', e, hu⟩ := h
  injection e with e
  simp at e
  obtain ⟨_, e2⟩ := e
  subst e2
  exact hu
/-- a value whose blocks stay while others are written -/
theorem newV_chgM {φ : Value → World → Prop} {S T : List Nat} {v : Value} {w W : World} (o : At S (φ v) W) (hd : ∀ i ∈ S, i ∉ T) (hT : ∀ i ∈ T, w.heap.size ≤ i) (l : ∀ i ∈ S, w.heap.size ≤ i) (hW : Below w.heap.size w W) :
    ∀ W', Chg T W W' → NewV φ w (.returned v) W' :=
  fun _ hc => ⟨v, S, rfl, o.chg hc hd, fun i hi => ⟨l i hi, Nat.lt_of_lt_of_le (o.lt i hi) hc.size⟩, below_chg hW hc hW.size hT⟩
/-- what a call answers: a new amount and a bool -/
def PostMb (R0 : MI) (R1 : Bool) (w : World) (e : Ending) (w' : World) : Prop :=
  ∃ (v : Value) (S : List Nat), e = .returned (.tuple #[v, .bool R1]) ∧ At S (OwnM v R0) w' ∧ Within S w.heap.size w'.heap.size ∧ Below w.heap.size w w'
theorem postMb_is {q : MI × Bool} {X : MI} {b : Bool} (e : q = (X, b)) {w w' : World} {n : Ending} (h : PostMb q.1 q.2 w n w') : PostMb X b w n w' := by rw [e] at h; exact h
theorem postMb_eq {q p : MI × Bool} (e : q = p) {w w' : World} {n : Ending} (h : PostMb q.1 q.2 w n w') : PostMb p.1 p.2 w n w' := by rw [e] at h; exact h
theorem postMb_chg {S T : List Nat} {v : Value} {x : MI} {b : Bool} {w W : World} (o : At S (OwnM v x) W) (hd : ∀ i ∈ S, i ∉ T) (hT : ∀ i ∈ T, w.heap.size ≤ i) (l : ∀ i ∈ S, w.heap.size ≤ i) (hW : Below w.heap.size w W) :
    ∀ W', Chg T W W' → PostMb x b w (.returned (.tuple #[v, .bool b])) W' :=
  fun _ hc => ⟨v, S, rfl, o.chg hc hd, fun i hi => ⟨l i hi, Nat.lt_of_lt_of_le (o.lt i hi) hc.size⟩, below_chg hW hc hW.size hT⟩
theorem chg_set3M {r : Nat} {c0 c1 c2 : Value} {W : World} : Chg [r] W (((W.setCell ⟨r, 0, none⟩ c0).setCell ⟨r, 1, none⟩ c1).setCell ⟨r, 2, none⟩ c2) := (((Chg.refl _ _).setCell (by simp) _).setCell (by simp) _).setCell (by simp) _
theorem newMb_at {r B : Nat} {S : List Nat} {c0 c1 c2 : Value} {x : MI} {b : Bool} {w W : World} (o : At S (OwnM (.agg #[c0, c1, c2]) x) W) (l : Within S B W.heap.size) (hrB : r < B) (hr : w.heap.size ≤ r) (hW : Below w.heap.size w W) :
    PostMb x b w (.returned (.tuple #[.agg #[c0, c1, c2], .bool b])) (((W.setCell ⟨r, 0, none⟩ c0).setCell ⟨r, 1, none⟩ c1).setCell ⟨r, 2, none⟩ c2) :=
  postMb_chg o (fun i hi hm => by have := l i hi; simp at hm; omega) (fun i hi => by simp at hi; omega) (fun i hi => by have := l i hi; omega) hW _ chg_set3M
theorem ownM_zero (w : World) : OwnM (.agg #[.string ⟨#[]⟩, .bool false, .slice none 0 0]) zeroM w := ⟨_, rfl, World.ownsRow_nil _ _ _ _⟩
theorem atM_zero (w : World) : At [] (OwnM (.agg #[.string ⟨#[]⟩, .bool false, .slice none 0 0]) zeroM) w := ⟨ownM_zero _, fun _ hg => absurd hg List.not_mem_nil, fun w' _ => ownM_zero w'⟩
theorem newMb_zero {w W : World} (b : Bool) (hW : Below w.heap.size w W) : PostMb zeroM b w (.returned (.tuple #[.agg #[.string ⟨#[]⟩, .bool false, .slice none 0 0], .bool b])) W :=
  ⟨_, [], rfl, atM_zero _, fun _ hg => absurd hg List.not_mem_nil, hW⟩
end Go.Proofs.YtbpfabicampdkaaDoor

namespace Go.Proofs.YtbpfabicampdkaaDoor
open Go.RowKit

theorem drew_three (w : World) (a b c : Nat) : ∃ q, w.drewN q = ((w.drewN a).drewN b).drewN c := ⟨a + b + c, by rw [World.drewN_drewN, World.drewN_drewN, Nat.add_assoc]⟩
/-- between two bounds -/
def inB (n lo hi : Int) : Bool := decide (lo ≤ n ∧ n ≤ hi)
set_option maxHeartbeats 400000 in
set_option maxRecDepth 100000 in
theorem specIn_any (n lo hi : Int) (b : Bool) (w : World) (hb : inB n lo hi = b) :
    Calls Tryd.prog 53 #[.int .i64 n, .int .i64 lo, .int .i64 hi] w fun e w' => e = .returned (.bool b) ∧ w = w' := by
  subst hb
  go_enter Tryd.func53, Tryd.ntmps53
  go_wp2
  all_goals go_ret
  · exact ⟨by simp [inB, *], rfl⟩
  · exact ⟨by simp [inB]; omega, rfl⟩

theorem all_upto (xs : List Int) (k : Nat) (h : (xs.take k).all digB = true) (hk : ¬ k < xs.length) : xs.all digB = true := by
  rwa [List.take_of_length_le (by omega)] at h
theorem all_succ (xs : List Int) (k : Nat) (hk : k < xs.length) (h : (xs.take k).all digB = true) (hd : digB xs[k] = true) : (xs.take (k + 1)).all digB = true := by
  rw [List.take_succ_eq_append_getElem hk, List.all_append, h]
  simp [hd]
theorem not_all (xs : List Int) (k : Nat) (hk : k < xs.length) (hd : digB xs[k] = false) : natOkB xs = false := by
  have : xs.all digB = false := by
    rw [List.all_eq_false]
    exact ⟨xs[k], List.getElem_mem hk, by simp [hd]⟩
  unfold natOkB
  rw [this]
  rfl
theorem ok_nil : natOkB [] = true := rfl
theorem ok_long (xs : List Int) (h : ¬ xs.length ≤ 50) : natOkB xs = false := by
  unfold natOkB
  rw [decide_eq_false h, Bool.false_and, Bool.and_false]
theorem last_at (xs : List Int) (h : xs.length - 1 < xs.length) : xs.getLastD 1 = xs[xs.length - 1] := by
  rw [List.getLastD_eq_getLast?, List.getLast?_eq_getElem?, List.getElem?_eq_getElem h]
  rfl
theorem ok_last (xs : List Int) (ha : xs.all digB = true) (hl : xs.length ≤ 50) (h : xs.length - 1 < xs.length) : (xs[xs.length - 1] != 0) = natOkB xs := by
  unfold natOkB
  rw [ha, decide_eq_true hl, Bool.true_and, Bool.true_and, last_at xs h]
  by_cases e : xs[xs.length - 1] = 0
  · rw [e]; rfl
  · rw [decide_eq_true e, bne_iff_ne]; exact e

set_option maxHeartbeats 400000 in
set_option maxRecDepth 100000 in
theorem specNatOk_any (v : Value) (xs : List Int) (lo hi : Nat) (w : World) (hl : xs.length ≤ 1048576) (hr : Row w lo hi v (intsV xs)) :
    Calls Tryd.prog 76 #[v] w fun e w' => e = .returned (.bool (natOkB xs)) ∧ w = w' := by
  obtain ⟨A, c, rfl, hA⟩ := hr
  have HA := Lib.hid hA
  rw [intsV_length]
  clear hA
  go_enter Tryd.func76, Tryd.ntmps76
  go_wp2
  go_loop [7] (fun i => ∃ k : Nat, k ≤ xs.length ∧ i = .int .i64 k ∧ Hid ((xs.take k).all digB = true)) (fun i => xs.length - (intOf i).toNat)
  case atStart => exact ⟨0, Nat.zero_le _, rfl, Lib.hid rfl⟩
  case round =>
    obtain ⟨k, hk, rfl, HD⟩ := hrel
    by_cases hlt : k < xs.length
    · obtain ⟨a, rfl, _, _, hca⟩ := HA.out k _ (intsV_at xs k hlt)
      by_cases hd : digB xs[k] = true
      · have HS := Lib.hid (all_succ xs k hlt HD.out hd)
        go_wp2_with (go_at_call 53; refine (specIn_any _ _ _ true _ hd).mono ?_; rintro e w' ⟨rfl, rfl⟩)
        go_round
        case rel => exact ⟨k + 1, by omega, by go_num, HS⟩
        case measure => simp [intOf]; omega
      · have hd' : digB xs[k] = false := by simpa using hd
        have HN := Lib.hid (not_all xs k hlt hd')
        go_wp2_with (go_at_call 53; refine (specIn_any _ _ _ false _ hd').mono ?_; rintro e w' ⟨rfl, rfl⟩)
        go_ret
        exact ⟨ret_bool HN.out.symm, rfl⟩
    · have HF := Lib.hid (all_upto xs k HD.out hlt)
      by_cases h50 : xs.length ≤ 50
      · by_cases h0 : xs.length = 0
        · have hz : ((xs.length : Int) == 0) = true := by simp [h0]
          obtain rfl : xs = [] := List.eq_nil_of_length_eq_zero h0
          clear h0
          go_wp2
          go_ret
          exact ⟨rfl, rfl⟩
        · have hz : ((xs.length : Int) == 0) = false := by rw [beq_eq_false_iff_ne]; omega
          have hlt2 : xs.length - 1 < xs.length := by omega
          obtain ⟨a, rfl, _, _, hca⟩ := HA.out (xs.length - 1) _ (intsV_at xs (xs.length - 1) hlt2)
          have HL := Lib.hid (ok_last xs HF.out h50 hlt2)
          clear h0
          go_wp2
          go_ret
          exact ⟨ret_bool HL.out, rfl⟩
      · have HN := Lib.hid (ok_long xs h50)
        go_wp2
        go_ret
        exact ⟨ret_bool HN.out.symm, rfl⟩

theorem cmp_lt {x y : Int} (h : x < y) : cmpI x y = -1 := by unfold cmpI; rw [if_pos h]
theorem cmp_gt {x y : Int} (h : y < x) : cmpI x y = 1 := by unfold cmpI; rw [if_neg (by omega), if_pos h]
theorem cmp_eq {x y : Int} (h : x = y) : cmpI x y = 0 := by unfold cmpI; rw [if_neg (by omega), if_neg (by omega)]
theorem drop_same (a b : List Int) (k : Nat) (ha : k < a.length) (hb : k < b.length) (h : a.drop (k + 1) = b.drop (k + 1)) (e : a[k] = b[k]) : a.drop k = b.drop k := by
  rw [List.drop_eq_getElem_cons ha, List.drop_eq_getElem_cons hb, h, e]

set_option maxHeartbeats 1000000 in
set_option maxRecDepth 100000 in
theorem specCmp_any (va vb : Value) (a b : List Int) (la ha lb hb : Nat) (w : World) (hal : a.length ≤ 1048576) (_hbl : b.length ≤ 1048576) (oa : DigN a ∧ a.getLastD 1 ≠ 0) (ob : DigN b ∧ b.getLastD 1 ≠ 0)
    (hra : Row w la ha va (intsV a)) (hrb : Row w lb hb vb (intsV b)) :
    Calls Tryd.prog 77 #[va, vb] w fun e w' => e = .returned (.int .i64 (cmpI (nval a) (nval b))) ∧ ∃ q, w.drewN q = w' := by
  obtain ⟨A, c, rfl, hA⟩ := hra
  obtain ⟨B, d, rfl, hB⟩ := hrb
  rw [intsV_length, intsV_length]
  have HA := Lib.hid hA
  have HB := Lib.hid hB
  have OA := Lib.hid oa
  have OB := Lib.hid ob
  clear hA hB oa ob
  by_cases hlen : a.length = b.length
  · have HL := Lib.hid hlen
    have hbe : ((a.length : Int) != (b.length : Int)) = false := by simp [hlen]
    clear hlen
    go_enter Tryd.func77, Tryd.ntmps77
    go_wp2
    go_loopw [5] (fun i wr => ∃ k q : Nat, k ≤ a.length ∧ i = .int .i64 ((k : Int) - 1) ∧ wr = w.drewN q ∧ Hid (a.drop k = b.drop k)) (fun i _ => (intOf i + 1).toNat)
    case atStart => exact ⟨a.length, 0, Nat.le_refl _, rfl, rfl, Lib.hid (by rw [List.drop_of_length_le (Nat.le_refl _), List.drop_of_length_le (by have := HL.out; omega)])⟩
    case round =>
      obtain ⟨k, q, hk, rfl, rfl, HT⟩ := hrel
      by_cases hz : 0 < k
      · obtain ⟨m, rfl⟩ : ∃ m, k = m + 1 := ⟨k - 1, by omega⟩
        have hlt : m < a.length := by omega
        have hlt2 : m < b.length := by have := HL.out; omega
        obtain ⟨p, rfl, _, _, hca⟩ := HA.out m _ (intsV_at a m hlt)
        obtain ⟨r, rfl, _, _, hcb⟩ := HB.out m _ (intsV_at b m hlt2)
        have hm1 : ((m + 1 : Nat) : Int) - 1 = (m : Int) := by omega
        rw [hm1]
        clear hm1 hz
        by_cases h1 : a[m] < b[m]
        · have HV := Lib.hid (nval_lt_down a b OA.out.1 OB.out.1 HL.out m (by rw [nval_drop a m hlt, nval_drop b m hlt2, HT.out]; omega))
          go_wp2
          go_quiet (fail)
          go_wp2
          go_ret
          exact ⟨ret_int (cmp_lt HV.out).symm, _, (World.drewN_drewN _ _ _).symm⟩
        · by_cases h2 : b[m] < a[m]
          · have HV := Lib.hid (nval_lt_down b a OB.out.1 OA.out.1 HL.out.symm m (by rw [nval_drop a m hlt, nval_drop b m hlt2, HT.out]; omega))
            go_wp2
            go_quiet (fail)
            go_wp2
            go_quiet (fail)
            go_wp2
            go_ret
            exact ⟨ret_int (cmp_gt HV.out).symm, drew_three _ _ _ _⟩
          · have HS := Lib.hid (drop_same a b m hlt hlt2 HT.out (by omega))
            go_wp2
            go_quiet (fail)
            go_wp2
            go_quiet (fail)
            go_wp2
            go_roundw
            case rel => exact ⟨m, _, by omega, rfl, rfl, HS⟩
            case measure => simp [intOf]
      · obtain rfl : k = 0 := by omega
        go_wp2
        go_ret
        exact ⟨ret_int (cmp_eq (by have := HT.out; rw [List.drop_zero, List.drop_zero] at this; rw [this])).symm, q, rfl⟩
  · have hbe : ((a.length : Int) != (b.length : Int)) = true := by simp; omega
    by_cases hs : a.length < b.length
    · have HV := Lib.hid (nval_short a b OA.out.1 OB.out.1 hs OB.out.2)
      go_enter Tryd.func77, Tryd.ntmps77
      go_wp2
      go_ret
      exact ⟨ret_int (cmp_lt HV.out).symm, 0, rfl⟩
    · have HV := Lib.hid (nval_short b a OB.out.1 OA.out.1 (by omega) OA.out.2)
      go_enter Tryd.func77, Tryd.ntmps77
      go_wp2
      go_ret
      exact ⟨ret_int (cmp_gt HV.out).symm, 0, rfl⟩

theorem ok_dig {xs : List Int} (h : natOkB xs = true) : DigN xs ∧ xs.getLastD 1 ≠ 0 := ⟨(natOk_parts h).1, (natOk_parts h).2.2⟩
/-- what NatCmp answers -/
def cmpN (a b : List Int) : Int := if natOkB a = true ∧ natOkB b = true then cmpI (nval a) (nval b) else 0


/-- the first k of a row that the call owns -/
theorem own_take {w : World} {base n : Nat} {e : TypeId} {A : Option Addr} {c : Nat} {xs : List Value} (k : Nat) (hk : k ≤ n) (h : w.ownsRow base e 1 (.slice A n c) n xs) : w.ownsRow base e 1 (.slice A k c) k (xs.take k) := by
  obtain ⟨hl, ⟨h1, h2⟩ | ⟨g, cap, cur, e1, hb, hh, hn, hc, hs, ht⟩⟩ := h
  · cases h1
    obtain rfl : k = 0 := by omega
    exact ⟨by simp, .inl ⟨rfl, rfl⟩⟩
  · obtain ⟨rfl, rfl⟩ : A = some ⟨g, 0, none⟩ ∧ cap = c := by cases e1; exact ⟨rfl, rfl⟩
    refine ⟨by rw [List.length_take]; omega, .inr ⟨g, cap, cur, rfl, hb, hh, by omega, hc, hs, ?_⟩⟩
    rw [← ht, List.take_take]
    congr 1
    omega
theorem intsV_take (xs : List Int) (k : Nat) : (intsV xs).take k = intsV (xs.take k) := by simp [intsV, List.map_take]

/-- the first elements of an own row of ints, handed back -/
def OwnPost (base : Nat) (ys : List Int) (w : World) (e : Ending) (w' : World) : Prop :=
  w = w' ∧ ∃ v, e = .returned v ∧ w.ownsRow base 3 1 v ys.length (intsV ys)

/-- the first elements of an own row of ints, told by its address -/
def TrimPost (A : Option Addr) (c base : Nat) (ys : List Int) (w : World) (e : Ending) (w' : World) : Prop :=
  w = w' ∧ e = .returned (.slice A ys.length c) ∧ w.ownsRow base 3 1 (.slice A ys.length c) ys.length (intsV ys)
set_option maxHeartbeats 400000 in
set_option maxRecDepth 100000 in
theorem specTrim_at (A : Option Addr) (c : Nat) (xs : List Int) (base : Nat) (w : World) (hl : xs.length ≤ 1048576) (ho : w.ownsRow base 3 1 (.slice A xs.length c) xs.length (intsV xs)) :
    Calls Tryd.prog 89 #[.slice A xs.length c] w (TrimPost A c base (trimL xs) w) := by
  have hA : ∀ j u, (intsV xs)[j]? = some u → ∃ a : Addr, A = some a ∧ base ≤ a.block ∧ a.block < w.heap.size ∧ w.cell? (a.add j) = some u := by
    obtain ⟨A', c', e1, hA⟩ := Row.of_own ho
    injection e1 with e1 e2 e3
    subst e1
    exact hA
  have HA := Lib.hid hA
  have HO := Lib.hid ho
  have hcap : xs.length ≤ c := by
    rcases ho.2 with ⟨h1, h2⟩ | ⟨g, cap, cur, e1, _, _, hn, _⟩
    · omega
    · injection e1 with _ _ e3; omega
  clear hA ho
  go_enter Tryd.func89, Tryd.ntmps89
  go_wp2
  go_loop [3] (fun n => ∃ k : Nat, k ≤ xs.length ∧ n = .int .i64 k ∧ Hid (∀ j (h : j < xs.length), k ≤ j → xs[j] = 0)) (fun n => (intOf n).toNat)
  case atStart => exact ⟨xs.length, Nat.le_refl _, rfl, Lib.hid (fun j h hj => absurd h (by omega))⟩
  case round =>
    obtain ⟨k, hk, rfl, HZ⟩ := hrel
    by_cases h0 : 0 < k
    · obtain ⟨m, rfl⟩ : ∃ m, k = m + 1 := ⟨k - 1, by omega⟩
      have hlt : m < xs.length := by omega
      obtain ⟨a, rfl, _, _, hca⟩ := HA.out m _ (intsV_at xs m hlt)
      by_cases hz : xs[m] = 0
      · have hzb : (xs[m] == 0) = true := by rw [beq_iff_eq]; exact hz
        have HN : Hid (∀ j (h : j < xs.length), m ≤ j → xs[j] = 0) := Lib.hid (fun j h hj => by
          by_cases e : j = m
          · subst e; exact hz
          · exact HZ.out j h (by omega))
        clear hz
        go_wp2
        go_round
        case rel => exact ⟨m, by omega, rfl, HN⟩
        case measure => simp [intOf]
      · have hzb : (xs[m] == 0) = false := by rw [beq_eq_false_iff_ne]; exact hz
        have HT := Lib.hid (trim_prefix xs (m + 1) hk HZ.out (fun _ _ => hz))
        clear hz
        go_wp2
        go_ret
        refine ⟨rfl, ?_⟩
        rw [HT.out, ← intsV_take, List.length_take, show min (m + 1) xs.length = m + 1 from by omega]
        exact ⟨rfl, own_take (m + 1) hk HO.out⟩
    · obtain rfl : k = 0 := by omega
      have HT := Lib.hid (trim_prefix xs 0 hk HZ.out (fun _ h => absurd h (by omega)))
      go_wp2
      go_ret
      refine ⟨rfl, ?_⟩
      rw [HT.out, ← intsV_take, List.length_take, Nat.zero_min]
      exact ⟨rfl, own_take 0 hk HO.out⟩
theorem specTrim_any (v : Value) (xs : List Int) (base : Nat) (w : World) (hl : xs.length ≤ 1048576) (ho : w.ownsRow base 3 1 v xs.length (intsV xs)) :
    Calls Tryd.prog 89 #[v] w (OwnPost base (trimL xs) w) := by
  obtain ⟨A, c, rfl⟩ := own_len ho
  refine (specTrim_at A c xs base w hl ho).mono ?_
  rintro e w' ⟨rfl, rfl, h⟩
  exact ⟨rfl, _, rfl, h⟩

theorem trimL_length (xs : List Int) : (trimL xs).length ≤ xs.length := by
  induction xs with
  | nil => exact Nat.le_refl _
  | cons d r ih =>
    unfold trimL
    split
    · simp
    · simp; omega
set_option maxHeartbeats 400000 in
set_option maxRecDepth 100000 in
theorem specCap_any (v : Value) (xs : List Int) (base : Nat) (w : World) (hl : xs.length ≤ 1048576) (ho : w.ownsRow base 3 1 v xs.length (intsV xs)) :
    Calls Tryd.prog 82 #[v] w (OwnPost base (capL (trimL xs)) w) := by
  have hlt := trimL_length xs
  by_cases h50 : 50 < (trimL xs).length
  · have HC := Lib.hid (show capL (trimL xs) = [] by unfold capL; rw [if_pos h50])
    go_enter Tryd.func82, Tryd.ntmps82
    go_wp2_with fail
    refine (specTrim_any v xs base _ hl ho).mono ?_
    rintro e w' ⟨rfl, v', rfl, ho'⟩
    obtain ⟨A, c, rfl⟩ := own_len ho'
    go_wp2
    go_ret
    exact ⟨rfl, _, rfl, by rw [HC.out]; exact ⟨rfl, .inl ⟨rfl, rfl⟩⟩⟩
  · have HC := Lib.hid (show capL (trimL xs) = trimL xs by unfold capL; rw [if_neg h50])
    go_enter Tryd.func82, Tryd.ntmps82
    go_wp2_with fail
    refine (specTrim_any v xs base _ hl ho).mono ?_
    rintro e w' ⟨rfl, v', rfl, ho'⟩
    obtain ⟨A, c, rfl⟩ := own_len ho'
    go_wp2
    go_ret
    exact ⟨rfl, _, rfl, by rw [HC.out]; exact ho'⟩

/-! ### l02Add -/
theorem addL_both (a b : List Int) (i : Nat) (c : Int) (h1 : i < a.length) (h2 : i < b.length) : addL (a.drop i) (b.drop i) c = (c + a[i] + b[i]) % 1000000000 :: addL (a.drop (i + 1)) (b.drop (i + 1)) ((c + a[i] + b[i]) / 1000000000) := by
  rw [List.drop_eq_getElem_cons h1, List.drop_eq_getElem_cons h2, addL]
theorem addL_left (a b : List Int) (i : Nat) (c : Int) (h1 : i < a.length) (h2 : ¬ i < b.length) : addL (a.drop i) (b.drop i) c = (c + a[i]) % 1000000000 :: addL (a.drop (i + 1)) (b.drop (i + 1)) ((c + a[i]) / 1000000000) := by
  rw [List.drop_eq_getElem_cons h1, List.drop_of_length_le (l := b) (by omega), List.drop_of_length_le (l := b) (by omega), addL]
theorem addL_right (a b : List Int) (i : Nat) (c : Int) (h1 : ¬ i < a.length) (h2 : i < b.length) : addL (a.drop i) (b.drop i) c = (c + b[i]) % 1000000000 :: addL (a.drop (i + 1)) (b.drop (i + 1)) ((c + b[i]) / 1000000000) := by
  rw [List.drop_eq_getElem_cons h2, List.drop_of_length_le (l := a) (by omega), List.drop_of_length_le (l := a) (by omega), addL]
theorem addL_end (a b : List Int) (i : Nat) (c : Int) (h1 : ¬ i < a.length) (h2 : ¬ i < b.length) : addL (a.drop i) (b.drop i) c = if 0 < c then [c] else [] := by
  rw [List.drop_of_length_le (by omega), List.drop_of_length_le (by omega), addL]

/-- what the loop of l02Add knows at its head -/
def AddRel (a b : List Int) (w : World) (v c i : Value) (wr : World) : Prop :=
  ∃ (k : Nat) (cr : Int) (out : List Int), k ≤ a.length + b.length + 1 ∧ i = .int .i64 k ∧ c = .int .i64 cr ∧ 0 ≤ cr ∧ cr ≤ 1 ∧ out.length = k ∧ out ++ addL (a.drop k) (b.drop k) cr = addL a b 0 ∧
    wr.ownsRow w.heap.size 3 1 v out.length (intsV out) ∧ Below w.heap.size w wr
theorem add_step {a b out : List Int} {w w1 : World} {v1 : Value} {k : Nat} {n : Int} (hk : k + 1 ≤ a.length + b.length + 1) (h0 : 0 ≤ n / 1000000000) (h1 : n / 1000000000 ≤ 1) (hl : out.length = k) (e : out ++ n % 1000000000 :: addL (a.drop (k + 1)) (b.drop (k + 1)) (n / 1000000000) = addL a b 0)
    (ho : w1.ownsRow w.heap.size 3 1 v1 (out.length + 1) (intsV out ++ [.int .i64 (n % 1000000000)])) (hb : Below w.heap.size w w1) : AddRel a b w v1 (.int .i64 (n / 1000000000)) (.int .i64 ((k : Int) + 1)) w1 := by
  refine ⟨k + 1, n / 1000000000, out ++ [n % 1000000000], hk, by go_num, rfl, h0, h1, by simp [hl], by rw [List.append_assoc]; exact e, ?_, hb⟩
  simpa [intsV] using ho

end Go.Proofs.YtbpfabicampdkaaDoor

namespace Go.Proofs.YtbpfabicampdkaaDoor
open Go.RowKit

/-- what NatAdd, NatSub and NatMul answer -/
def addN (a b : List Int) : List Int := if natOkB a = true ∧ natOkB b = true then natRes (nval a + nval b) else []
def subN (a b : List Int) : List Int := if natOkB a = true ∧ natOkB b = true then natRes (nval a - nval b) else []
def mulN (a b : List Int) : List Int := if natOkB a = true ∧ natOkB b = true then natRes (nval a * nval b) else []
theorem res_of {n : Int} {xs : List Int} (h : DigN xs) (e : nval xs = n) : capL (trimL xs) = natRes n := by
  unfold natRes
  rw [trim_limbs xs h, e]
theorem nil_own {w : World} {base : Nat} {e : TypeId} : w.ownsRow base e 1 (.slice none 0 0) 0 [] := ⟨rfl, .inl ⟨rfl, rfl⟩⟩
theorem new_nil {w w' : World} (hb : Below w.heap.size w w') : NewInts [] w (.returned (.slice none 0 0)) w' := ⟨_, rfl, nil_own, hb⟩
theorem new_of {w w1 w2 : World} {xs : List Int} {v : Value} (h : NewInts xs w1 (.returned v) w2) (hb : Below w.heap.size w w1) : NewInts xs w (.returned v) w2 := by
  obtain ⟨v', e, ho, hb2⟩ := h
  cases e
  have hs := hb.size
  refine ⟨v, rfl, ?_, Below.next hb hb2⟩
  obtain ⟨hl, h | ⟨g, cap, cur, e1, hg, r⟩⟩ := ho
  · exact ⟨hl, .inl h⟩
  · exact ⟨hl, .inr ⟨g, cap, cur, e1, by omega, r⟩⟩
theorem own_lower {w : World} {base base' n : Nat} {e : TypeId} {v : Value} {xs : List Value} (h : w.ownsRow base e 1 v n xs) (hb : base' ≤ base) : w.ownsRow base' e 1 v n xs := by
  obtain ⟨hl, h | ⟨g, cap, cur, e1, hg, r⟩⟩ := h
  · exact ⟨hl, .inl h⟩
  · exact ⟨hl, .inr ⟨g, cap, cur, e1, by omega, r⟩⟩





/-! ### l02Sub -/
theorem subL_drop (a b : List Int) (i : Nat) (c : Int) (h1 : i < a.length) : subL (a.drop i) (b.drop i) c = if a[i] - c - b.getD i 0 < 0 then (a[i] - c - b.getD i 0 + 1000000000) :: subL (a.drop (i + 1)) (b.drop (i + 1)) 1 else (a[i] - c - b.getD i 0) :: subL (a.drop (i + 1)) (b.drop (i + 1)) 0 := by
  have hh : (b.drop i).headD 0 = b.getD i 0 := by
    rw [List.headD_eq_head?_getD, List.head?_drop, List.getD_eq_getElem?_getD]
  have ht : (b.drop i).tail = b.drop (i + 1) := by rw [List.tail_drop]
  rw [List.drop_eq_getElem_cons h1, subL, hh, ht]
theorem getD_in (b : List Int) (i : Nat) (h : i < b.length) : b.getD i 0 = b[i] := by
  rw [List.getD_eq_getElem?_getD, List.getElem?_eq_getElem h]
  rfl
theorem getD_out (b : List Int) (i : Nat) (h : ¬ i < b.length) : b.getD i 0 = 0 := by
  rw [List.getD_eq_getElem?_getD, List.getElem?_eq_none (by omega)]
  rfl
/-- what the loop of l02Sub knows at its head -/
def SubRel (a b : List Int) (w : World) (v c i : Value) (wr : World) : Prop :=
  ∃ (k : Nat) (cr : Int) (out : List Int), k ≤ a.length ∧ i = .int .i64 k ∧ c = .int .i64 cr ∧ 0 ≤ cr ∧ cr ≤ 1 ∧ out.length = k ∧ out ++ subL (a.drop k) (b.drop k) cr = subL a b 0 ∧
    wr.ownsRow w.heap.size 3 1 v out.length (intsV out) ∧ Below w.heap.size w wr
theorem sub_step {a b out : List Int} {w w1 : World} {v1 : Value} {k : Nat} {n c : Int} (hk : k + 1 ≤ a.length) (h0 : 0 ≤ c) (h1 : c ≤ 1) (hl : out.length = k) (e : out ++ n :: subL (a.drop (k + 1)) (b.drop (k + 1)) c = subL a b 0)
    (ho : w1.ownsRow w.heap.size 3 1 v1 (out.length + 1) (intsV out ++ [.int .i64 n])) (hb : Below w.heap.size w w1) : SubRel a b w v1 (.int .i64 c) (.int .i64 ((k : Int) + 1)) w1 := by
  refine ⟨k + 1, c, out ++ [n], hk, by go_num, rfl, h0, h1, by simp [hl], by rw [List.append_assoc]; exact e, ?_, hb⟩
  simpa [intsV] using ho


theorem capL_trim_sub (a b : List Int) (h : (subL a b 0).length ≤ 50) : capL (trimL (subL a b 0)) = trimL (subL a b 0) := by
  have := trimL_length (subL a b 0)
  unfold capL
  rw [if_neg (by omega)]
theorem natRes_neg (n : Int) (h : n < 0) : natRes n = [] := by
  unfold natRes
  rw [show n.toNat = 0 from by omega, limbs, dif_pos rfl]
  rfl
theorem len_of_le (a b : List Int) (ha : DigN a) (hb : DigN b ∧ b.getLastD 1 ≠ 0) (h : nval b ≤ nval a) : b.length ≤ a.length := by
  rcases Nat.lt_or_ge a.length b.length with hl | hl
  · have := nval_short a b ha hb.1 hl hb.2
    omega
  · exact hl
end Go.Proofs.YtbpfabicampdkaaDoor

namespace Go.Proofs.YtbpfabicampdkaaDoor
open Go.RowKit

/-- one row of the school method: x times b added into R -/
def rowL (x : Int) : List Int → List Int → Int → List Int
  | [], _ :: R, c => c :: R
  | [], [], _ => []
  | y :: b, r :: R, c => (r + x * y + c) % 1000000000 :: rowL x b R ((r + x * y + c) / 1000000000)
  | _ :: _, [], _ => []
/-- all rows -/
def mulL : List Int → List Int → List Int → List Int
  | [], _, R => R
  | x :: a, b, R => (rowL x b R 0).headD 0 :: mulL a b (rowL x b R 0).tail
theorem mul_bound (x y : Int) (hx0 : 0 ≤ x) (hx1 : x ≤ 999999999) (hy0 : 0 ≤ y) (hy1 : y ≤ 999999999) : 0 ≤ x * y ∧ x * y ≤ 999999998000000001 := by
  refine ⟨Int.mul_nonneg hx0 hy0, ?_⟩
  have h : x * y ≤ 999999999 * 999999999 := Int.mul_le_mul hx1 hy1 hy0 (by omega)
  omega
theorem rowL_val (x : Int) (hx0 : 0 ≤ x) (hx1 : x ≤ 999999999) : ∀ (b R : List Int) (c : Int), DigN b → DigN R → b.length < R.length → (∀ d ∈ R.drop b.length, d = 0) → 0 ≤ c → c ≤ 999999999 →
    nval (rowL x b R c) = nval R + x * nval b + c ∧ DigN (rowL x b R c) ∧ (rowL x b R c).length = R.length ∧ ∀ d ∈ (rowL x b R c).drop (b.length + 1), d = 0 := by
  intro b
  induction b with
  | nil =>
    intro R c _ hR hl hz h0 h1
    cases R with
    | nil => simp at hl
    | cons r R =>
      have hr : r = 0 := hz r (by simp)
      subst hr
      refine ⟨?_, DigN.cons h0 h1 hR.tail, rfl, fun d hd => hz d (by simp at hd ⊢; exact .inr hd)⟩
      show c + 1000000000 * nval R = (0 + 1000000000 * nval R) + x * 0 + c
      omega
  | cons y b ih =>
    intro R c hb hR hl hz h0 h1
    cases R with
    | nil => simp at hl
    | cons r R =>
      have hm := mul_bound x y hx0 hx1 hb.head.1 hb.head.2
      have hr := hR.head
      have hy := hb.head
      obtain ⟨i1, i2, i3, i4⟩ := ih R ((r + x * y + c) / 1000000000) hb.tail hR.tail (by simpa using hl) (fun d hd => hz d (by simpa using hd)) (by omega) (by omega)
      refine ⟨?_, DigN.cons (by omega) (by omega) i2, by simp [rowL, i3], fun d hd => i4 d (by simpa [rowL] using hd)⟩
      show (r + x * y + c) % 1000000000 + 1000000000 * nval (rowL x b R ((r + x * y + c) / 1000000000)) = (r + 1000000000 * nval R) + x * (y + 1000000000 * nval b) + c
      have hd : x * (y + 1000000000 * nval b) = x * y + 1000000000 * (x * nval b) := by rw [Int.mul_add, Int.mul_left_comm]
      rw [hd, i1]
      omega
theorem mulL_val (b : List Int) (hb : DigN b) : ∀ (a R : List Int), DigN a → DigN R → R.length = a.length + b.length → (∀ d ∈ R.drop b.length, d = 0) →
    nval (mulL a b R) = nval R + nval a * nval b ∧ DigN (mulL a b R) ∧ (mulL a b R).length = R.length := by
  intro a
  induction a with
  | nil =>
    intro R _ hR _ _
    refine ⟨?_, hR, rfl⟩
    show nval R = nval R + 0 * nval b
    omega
  | cons x a ih =>
    intro R ha hR hl hz
    obtain ⟨i1, i2, i3, i4⟩ := rowL_val x ha.head.1 ha.head.2 b R 0 hb hR (by simp at hl; omega) hz (by omega) (by omega)
    unfold mulL
    cases hrow : rowL x b R 0 with
    | nil => rw [hrow] at i3; simp at hl i3; omega
    | cons h T =>
      rw [hrow] at i1 i2 i3 i4
      obtain ⟨j1, j2, j3⟩ := ih T ha.tail i2.tail (by simp at i3 hl; omega) (fun d hd => i4 d (by simpa using hd))
      refine ⟨?_, DigN.cons i2.head.1 i2.head.2 j2, by simp [j3]; simpa using i3⟩
      show h + 1000000000 * nval (mulL a b T) = nval R + (x + 1000000000 * nval a) * nval b
      have hd : (x + 1000000000 * nval a) * nval b = x * nval b + 1000000000 * (nval a * nval b) := by rw [Int.add_mul, Int.mul_assoc]
      have i1' : h + 1000000000 * nval T = nval R + x * nval b + 0 := i1
      rw [hd, j1]
      omega

theorem rowL_drop (x : Int) (b O : List Int) (j m : Nat) (c : Int) (hj : j < b.length) (hm : m < O.length) : rowL x (b.drop j) (O.drop m) c = (O[m] + x * b[j] + c) % 1000000000 :: rowL x (b.drop (j + 1)) (O.drop (m + 1)) ((O[m] + x * b[j] + c) / 1000000000) := by
  rw [List.drop_eq_getElem_cons hj, List.drop_eq_getElem_cons hm, rowL]
theorem set_split (O : List Int) (m : Nat) (u : Int) (h : m < O.length) : (O.set m u).take (m + 1) = O.take m ++ [u] ∧ (O.set m u).drop (m + 1) = O.drop (m + 1) ∧ O.set m u = O.take m ++ u :: O.drop (m + 1) := by
  refine ⟨?_, ?_, List.set_eq_take_append_cons_drop .. |>.trans (by rw [if_pos h])⟩
  · rw [List.take_succ_eq_append_getElem (by simpa using h), List.take_set_of_le (Nat.le_refl _), List.getElem_set_self]
  · rw [List.drop_set_of_lt (by omega)]
theorem intsV_set (O : List Int) (m : Nat) (u : Int) : (intsV O).set m (.int .i64 u) = intsV (O.set m u) := by simp [intsV, List.map_set]
theorem DigN.setM {O : List Int} (h : DigN O) (m : Nat) (u : Int) (h0 : 0 ≤ u) (h1 : u ≤ 999999999) : DigN (O.set m u) := by
  intro d hd
  rcases List.mem_or_eq_of_mem_set hd with hd | rfl
  · exact h d hd
  · exact ⟨h0, h1⟩

theorem make_sum (m n : Nat) (hm : m ≤ 1048576) (hn : n ≤ 1048576) (W : World) :
    (Instr.makeSlice 22 (.int .i64 ((m : Int) + (n : Int))) (.int .i64 ((m : Int) + (n : Int)))).run Tryd.prog W = .ok (.slice (some ⟨W.heap.size, 0, none⟩) (m + n) (m + n)) (W.alloc (.cells (madeCells #[.int .i64 0] (m + n)) 3)) := by
  have h := make_ints (m + n) (by omega) W
  rwa [Int.natCast_add] at h

/-- what the outer loop of l02Mul knows: O is what has been written -/
def MulRel (a b : List Int) (w : World) (i : Value) (wr : World) : Prop :=
  ∃ (k : Nat) (O : List Int), k ≤ a.length ∧ i = .int .i64 k ∧ O.length = a.length + b.length ∧ DigN O ∧ O.take k ++ mulL (a.drop k) b (O.drop k) = mulL a b (List.replicate (a.length + b.length) 0) ∧
    wr.ownsRow w.heap.size 3 1 (.slice (some ⟨w.heap.size, 0, none⟩) (a.length + b.length) (a.length + b.length)) (a.length + b.length) (intsV O) ∧ Below w.heap.size w wr
theorem rowL_nil (x : Int) (O : List Int) (m : Nat) (c : Int) (h : m < O.length) : rowL x [] (O.drop m) c = c :: O.drop (m + 1) := by
  rw [List.drop_eq_getElem_cons h, rowL]
/-- what the inner loop knows: T is what the row comes to -/
def RowRel (b : List Int) (x : Int) (k n : Nat) (T : List Int) (w : World) (cr i : Value) (wr : World) : Prop :=
  ∃ (j : Nat) (c : Int) (O : List Int), j ≤ b.length ∧ i = .int .i64 j ∧ cr = .int .i64 c ∧ 0 ≤ c ∧ c ≤ 999999999 ∧ O.length = n ∧ DigN O ∧ O.take (k + j) ++ rowL x (b.drop j) (O.drop (k + j)) c = T ∧
    wr.ownsRow w.heap.size 3 1 (.slice (some ⟨w.heap.size, 0, none⟩) n n) n (intsV O) ∧ Below w.heap.size w wr
theorem mul_next (a b O T : List Int) (k : Nat) (hk : k < a.length) (hO : k < O.length) (hT : O.take k ++ rowL a[k] b (O.drop k) 0 = T) (hr : 0 < (rowL a[k] b (O.drop k) 0).length) :
    T.take (k + 1) ++ mulL (a.drop (k + 1)) b (T.drop (k + 1)) = O.take k ++ mulL (a.drop k) b (O.drop k) := by
  have hlt : (O.take k).length = k := by rw [List.length_take]; omega
  rw [List.drop_eq_getElem_cons hk, mulL]
  cases hrow : rowL a[k] b (O.drop k) 0 with
  | nil => rw [hrow] at hr; simp at hr
  | cons h R =>
    rw [hrow] at hT
    have e1 : (O.take k ++ h :: R).take (k + 1) = O.take k ++ [h] := by
      rw [List.take_append, hlt, show k + 1 - k = 1 from by omega, List.take_of_length_le (l := O.take k) (by omega)]
      rfl
    have e2 : (O.take k ++ h :: R).drop (k + 1) = R := by
      rw [List.drop_append, hlt, show k + 1 - k = 1 from by omega, List.drop_of_length_le (l := O.take k) (by omega)]
      rfl
    rw [← hT, e1, e2, List.append_assoc]
    rfl


theorem limbs_zero : limbs 0 = [] := by rw [limbs, dif_pos rfl]
theorem mul_val' (a b : List Int) (ha : DigN a) (hb : DigN b) : nval (mulL a b (List.replicate (a.length + b.length) 0)) = nval a * nval b ∧ DigN (mulL a b (List.replicate (a.length + b.length) 0)) ∧ (mulL a b (List.replicate (a.length + b.length) 0)).length = a.length + b.length := by
  have hz : ∀ n, nval (List.replicate n 0) = 0 := by
    intro n
    induction n with
    | zero => rfl
    | succ n ih => rw [List.replicate_succ]; show (0 : Int) + 1000000000 * nval (List.replicate n 0) = 0; omega
  have h := mulL_val b hb a (List.replicate (a.length + b.length) 0) ha (fun d hd => by rw [(List.mem_replicate.1 hd).2]; omega) (by simp) (fun d hd => (List.mem_replicate.1 (List.mem_of_mem_drop hd)).2)
  rw [hz, List.length_replicate] at h
  exact ⟨by rw [h.1]; omega, h.2⟩
theorem trim_trim (xs : List Int) (h : DigN xs) : trimL (trimL xs) = trimL xs ∧ DigN (trimL xs) := by
  induction xs with
  | nil => exact ⟨rfl, h⟩
  | cons d r ih =>
    obtain ⟨i1, i2⟩ := ih h.tail
    by_cases hc : trimL r = [] ∧ d = 0
    · have e : trimL (d :: r) = [] := by show (if _ then _ else _) = _; rw [if_pos hc]
      rw [e]
      exact ⟨rfl, fun x hx => by cases hx⟩
    · have e : trimL (d :: r) = d :: trimL r := by show (if _ then _ else _) = _; rw [if_neg hc]
      rw [e]
      refine ⟨?_, DigN.cons h.head.1 h.head.2 i2⟩
      show (if _ then _ else _) = _
      rw [i1, if_neg hc]


end Go.Proofs.YtbpfabicampdkaaDoor

namespace Go.Proofs.YtbpfabicampdkaaDoor
open Go.RowKit

theorem limbs_pos (n : Nat) (h : n ≠ 0) : limbs n = ((n % 1000000000 : Nat) : Int) :: limbs (n / 1000000000) := by rw [limbs, dif_neg h]
theorem limbs_none : limbs 0 = [] := by rw [limbs, dif_pos rfl]
theorem Row.lit (w : World) (cs : Array Value) (t : TypeId) : Row (w.alloc (.cells cs t)) w.heap.size (w.heap.size + 1) (.slice (some ⟨w.heap.size, 0, none⟩) cs.size cs.size) cs.toList := by
  refine ⟨_, _, rfl, fun j u hu => ⟨_, rfl, Nat.le_refl _, Nat.lt_succ_self _, ?_⟩⟩
  have e1 : (Addr.add ⟨w.heap.size, 0, none⟩ j) = ⟨w.heap.size, j, none⟩ := by
    unfold Addr.add
    split
    · simp_all
    · simp
  rw [e1, World.cell?_alloc_at _ _ _ _ rfl]
  simpa using hu


/-- what NatInt answers -/
def natIntN (a : List Int) : Int × Bool := if natOkB a = true ∧ nval a ≤ 9223372036854775807 then (nval a, true) else (0, false)
def TwoPost (r : Int × Bool) (w : World) (e : Ending) (w' : World) : Prop := e = .returned (.tuple #[.int .i64 r.1, .bool r.2]) ∧ Below w.heap.size w w'
theorem nval_drop_le (a : List Int) (ha : DigN a) (k : Nat) : nval (a.drop k) ≤ nval a := by
  induction k with
  | zero => simp
  | succ k ih =>
    by_cases h : k < a.length
    · have h1 := nval_drop a k h
      have h2 := ha.at_ k h
      have h3 := nval_nonneg (a.drop (k + 1)) (ha.drop _)
      omega
    · rw [List.drop_of_length_le (by omega)]
      exact nval_nonneg a ha
theorem max_nat : nval [854775807, 223372036, 9] = 9223372036854775807 := by simp [nval]
theorem max_dig : DigN [854775807, 223372036, 9] ∧ [854775807, 223372036, (9 : Int)].getLastD 1 ≠ 0 := by
  refine ⟨fun d hd => ?_, by decide⟩
  simp at hd
  omega

end Go.Proofs.YtbpfabicampdkaaDoor

namespace Go.Proofs.YtbpfabicampdkaaDoor
open Go.RowKit

/-- a new row and a number -/
def RowNum (xs : List Int) (r : Int) (w : World) (e : Ending) (w' : World) : Prop :=
  ∃ v, e = .returned (.tuple #[v, .int .i64 r]) ∧ w'.ownsRow w.heap.size 3 1 v xs.length (intsV xs) ∧ Below w.heap.size w w'



end Go.Proofs.YtbpfabicampdkaaDoor

namespace Go.Proofs.YtbpfabicampdkaaDoor
open Go.RowKit

/-- append of a row of the call's own, nil let in -/
theorem append_owned {P : Program} {w : World} {ops : Array Oper} {rest : List Oper} {o : Oper} {a : Act} {Q : Exit → Act → World → Prop} (hgd : o.guard = none) (s x : Operand) (t : TypeId)
    (ho : o.op = .call { callee := .builtin .append, args := #[s, x], argTypes := #[t, t] }) (base : Nat) (e : TypeId) (i : TypeInfo) (z : Value) (bytes : Nat) (ht : P.underlying t = some (.slice e)) (hi : P.info? e = some i)
    (hz : i.zero = some z) (hsize : i.size = 1) (hby : i.bytes = bytes) (hzs : z.cells.size = 1) (v : Value) (n : Nat) (xs : List Value) (hs : a.eval s = v) (hown : w.ownsRow base e 1 v n xs)
    (vx : Value) (m base2 : Nat) (e2 : TypeId) (news : List Value) (hx : a.eval x = vx) (hsrc : w.ownsRow base2 e2 1 vx m news) (h1 : ∀ u ∈ news, u.oneCell' = true) (h63 : n + m ≤ maxLen) (hbytes : (n + m) * bytes ≤ 140737488355328) (hbase : base ≤ w.heap.size)
    (h : ∀ v' w', w'.ownsRow base e 1 v' (n + m) (xs ++ news) → w.grownBy w' v.ownBlock → wpList P ops Q rest (a.put o.dst v') w') : wpList P ops Q (o :: rest) a w := by
  have hm : news.length = m := by have := hsrc.1; omega
  rcases hsrc.2 with ⟨rfl, rfl⟩ | ⟨g, cap, cur, rfl, _⟩
  · obtain rfl : news = [] := List.eq_nil_of_length_eq_zero hm
    exact wpList_append_own_none hgd s x t ho base e i 1 ht hi v n xs hs hown hx (h v w (by simpa using hown) (World.grownBy.refl _ _))
  · refine wpList_append_own _ hgd s x t ho base e i z 1 bytes ht hi hz hsize hby hzs (by omega) v n xs hs hown ⟨g, 0, none⟩ m cap news hx (by omega) (fun j u hu => hsrc.cells (g := g) rfl j u hu) h1 h63 hbytes hbase ?_
    intro v' w' h2 h3 _
    exact h v' w' h2 h3

/-- two new rows apart from each other -/
def TwoRows (xs ys : List Int) (w : World) (e : Ending) (w' : World) : Prop :=
  ∃ v1 v2, e = .returned (.tuple #[v1, v2]) ∧ w'.ownsRow w.heap.size 3 1 v1 xs.length (intsV xs) ∧ w'.ownsRow w.heap.size 3 1 v2 ys.length (intsV ys) ∧
    (∀ x y, v1.ownBlock = some x → v2.ownBlock = some y → x ≠ y) ∧ Below w.heap.size w w'

theorem limbs_mono {m n : Int} (h0 : 0 ≤ m) (h : m ≤ n) : (limbs m.toNat).length ≤ (limbs n.toNat).length := by
  rcases Nat.lt_or_ge (limbs n.toNat).length (limbs m.toNat).length with hl | hl
  · have := nval_short (limbs n.toNat) (limbs m.toNat) (limbs_digN _) (limbs_digN _) hl (limbs_lastN _)
    rw [limbs_toNat m h0, limbs_toNat n (by omega)] at this
    omega
  · exact hl
theorem own_base {w : World} {base base' n : Nat} {e : TypeId} {v : Value} {xs : List Value} (h : w.ownsRow base e 1 v n xs) (hb : base' ≤ base) : w.ownsRow base' e 1 v n xs := by
  obtain ⟨hl, h | ⟨g, cap, cur, rfl, hg, r⟩⟩ := h
  · exact ⟨hl, .inl h⟩
  · exact ⟨hl, .inr ⟨g, cap, cur, rfl, by omega, r⟩⟩
/-- limb k of a division brought down -/
theorem down_limb {x R : Int} (hx0 : 0 ≤ x) (hx1 : x ≤ 999999999) (hR : 0 ≤ R) : trimL (x :: limbs R.toNat) = limbs (R * 1000000000 + x).toNat := by
  have hd : DigN (x :: limbs R.toNat) := DigN.cons hx0 hx1 (limbs_digN _)
  rw [trim_limbs _ hd]
  congr 2
  show x + 1000000000 * nval (limbs R.toNat) = _
  rw [limbs_toNat R hR]
  omega
/-- the state of the loop: the quotient so far, and the rest -/
def DivS (w : World) (a : List Int) (D : Int) (k : Nat) (v : Value) (wr : World) : Prop :=
  ∃ (R : Int) (qs : List Int), DivR a D k R qs ∧ wr.ownsRow w.heap.size 3 1 (.slice (some ⟨w.heap.size, 0, none⟩) a.length a.length) a.length (intsV (List.replicate k 0 ++ qs)) ∧
    wr.ownsRow (w.heap.size + 1) 3 1 v (limbs R.toNat).length (intsV (limbs R.toNat)) ∧ Below w.heap.size w wr

end Go.Proofs.YtbpfabicampdkaaDoor

namespace Go.Proofs.YtbpfabicampdkaaDoor
open Go.RowKit

/-- a nil slice of the call's own, or an argument, has no capacity -/
def NoCap (v : Value) : Prop := ∀ n c, v = .slice none n c → c = 0
theorem own_noCap {w : World} {base n : Nat} {e : TypeId} {v : Value} {xs : List Value} (h : w.ownsRow base e 1 v n xs) : NoCap v := by
  intro m c e1
  rcases h.2 with ⟨rfl, _⟩ | ⟨g, cap, cur, rfl, _⟩
  · injection e1 with _ _ e3
    exact e3.symm
  · cases e1
/-- append of a slice that reads as a list, nil let in -/
theorem append_row {P : Program} {w : World} {ops : Array Oper} {rest : List Oper} {o : Oper} {a : Act} {Q : Exit → Act → World → Prop} (hgd : o.guard = none) (s x : Operand) (t : TypeId)
    (ho : o.op = .call { callee := .builtin .append, args := #[s, x], argTypes := #[t, t] }) (base : Nat) (e : TypeId) (i : TypeInfo) (z : Value) (bytes : Nat) (ht : P.underlying t = some (.slice e)) (hi : P.info? e = some i)
    (hz : i.zero = some z) (hsize : i.size = 1) (hby : i.bytes = bytes) (hzs : z.cells.size = 1) (v : Value) (n : Nat) (xs : List Value) (hs : a.eval s = v) (hown : w.ownsRow base e 1 v n xs)
    (vx : Value) (lo hi' : Nat) (news : List Value) (hx : a.eval x = vx) (hr : Row w lo hi' vx news) (hnc : NoCap vx) (h1 : ∀ u ∈ news, u.oneCell' = true) (h63 : n + news.length ≤ maxLen) (hbytes : (n + news.length) * bytes ≤ 140737488355328) (hbase : base ≤ w.heap.size)
    (h : ∀ v' w', w'.ownsRow base e 1 v' (n + news.length) (xs ++ news) → w.grownBy w' v.ownBlock → wpList P ops Q rest (a.put o.dst v') w') : wpList P ops Q (o :: rest) a w := by
  obtain ⟨A, c, rfl, hA⟩ := hr
  cases A with
  | none =>
    obtain rfl : news = [] := by
      cases news with
      | nil => rfl
      | cons y r => obtain ⟨_, e, _⟩ := hA 0 y rfl; cases e
    obtain rfl : c = 0 := hnc _ _ rfl
    exact wpList_append_own_none hgd s x t ho base e i 1 ht hi v n xs hs hown hx (h v w (by simpa using hown) (World.grownBy.refl _ _))
  | some ad =>
    refine wpList_append_own _ hgd s x t ho base e i z 1 bytes ht hi hz hsize hby hzs (by omega) v n xs hs hown ad news.length c news hx (by omega) (fun j u hu => ?_) h1 h63 hbytes hbase ?_
    · obtain ⟨p, e, _, _, hc⟩ := hA j u hu
      cases e
      exact hc
    · intro v' w' h2 h3 _
      exact h v' w' h2 h3


/-- what NatDiv answers -/
def divN (a b : List Int) : List Int × List Int := if natOkB a = true ∧ natOkB b = true ∧ 0 < b.length then (limbs (nval a / nval b).toNat, limbs (nval a % nval b).toNat) else ([], [])
theorem two_nil {w w' : World} (hb : Below w.heap.size w w') : TwoRows [] [] w (.returned (.tuple #[.slice none 0 0, .slice none 0 0])) w' := ⟨_, _, rfl, nil_own, nil_own, (fun x y hx _ => by cases hx), hb⟩

end Go.Proofs.YtbpfabicampdkaaDoor

namespace Go.Proofs.YtbpfabicampdkaaDoor
open Go.RowKit

/-- what NatGcd answers -/
def gcdN (a b : List Int) : List Int := if natOkB a = true ∧ natOkB b = true then limbs (Nat.gcd (nval a).toNat (nval b).toNat) else []
theorem gcd_step (X Y : Nat) : Nat.gcd Y (X % Y) = Nat.gcd X Y := by
  rw [Nat.gcd_comm Y, ← Nat.gcd_rec, Nat.gcd_comm]
theorem limbs_empty {n : Nat} (h : ¬ 0 < (limbs n).length) : n = 0 := by
  rcases Nat.eq_zero_or_pos n with h0 | h0
  · exact h0
  · rw [limbs, dif_neg (by omega)] at h
    simp at h
theorem limbs_some {n : Nat} (h : 0 < (limbs n).length) : 0 < n := by
  rcases Nat.eq_zero_or_pos n with h0 | h0
  · subst h0; rw [limbs, dif_pos rfl] at h; simp at h
  · exact h0
theorem limbs_mod_len (X Y : Nat) (h : (limbs Y).length ≤ 50) (h0 : 0 < Y) : (limbs (X % Y)).length ≤ 50 := by
  have hm := Nat.mod_lt X h0
  have := limbs_mono (m := ((X % Y : Nat) : Int)) (n := (Y : Int)) (by omega) (by omega)
  rw [Int.toNat_natCast, Int.toNat_natCast] at this
  omega
/-- the state of NatGcd's loop -/
def GcdS (w : World) (G : Nat) (n : Nat) (x y : Value) (wr : World) : Prop :=
  ∃ X Y : Nat, n = Y ∧ Nat.gcd X Y = G ∧ (limbs X).length ≤ 50 ∧ (limbs Y).length ≤ 50 ∧ wr.ownsRow w.heap.size 3 1 x (limbs X).length (intsV (limbs X)) ∧ wr.ownsRow w.heap.size 3 1 y (limbs Y).length (intsV (limbs Y)) ∧ Below w.heap.size w wr


/-- powers of ten -/
def tenN (k : Int) : List Int := if 0 ≤ k ∧ k ≤ 449 then limbs (10 ^ k.toNat) else []
theorem bp_ten (m : Nat) : bp m = 10 ^ (9 * m) := by
  induction m with
  | zero => rfl
  | succ m ih =>
    show 1000000000 * bp m = _
    rw [ih, show 9 * (m + 1) = 9 * m + 9 by omega, Int.pow_add, Int.mul_comm]
    rfl
theorem ten_pos (k : Nat) : (0 : Int) < 10 ^ k := Int.pow_pos (by omega)
theorem ten_eight (k : Nat) (h : k ≤ 8) : (10 : Int) ^ k ≤ 100000000 := by
  match k, h with
  | 0, _ => decide
  | 1, _ => decide
  | 2, _ => decide
  | 3, _ => decide
  | 4, _ => decide
  | 5, _ => decide
  | 6, _ => decide
  | 7, _ => decide
  | 8, _ => decide
theorem ten_limbs (k : Nat) : limbs (10 ^ k) = List.replicate (k / 9) 0 ++ [(10 : Int) ^ (k % 9)] := by
  have h8 := ten_eight (k % 9) (by omega)
  have hp := ten_pos (k % 9)
  have hd : DigN (List.replicate (k / 9) 0 ++ [(10 : Int) ^ (k % 9)]) := (dig_zeros _).append (dig_one (by omega) (by omega))
  have hl : (List.replicate (k / 9) 0 ++ [(10 : Int) ^ (k % 9)]).getLastD 1 ≠ 0 := by
    rw [List.getLastD_eq_getLast?, List.getLast?_append]
    simp
    omega
  have hv : nval (List.replicate (k / 9) 0 ++ [(10 : Int) ^ (k % 9)]) = 10 ^ k := by
    rw [nval_append, nval_zeros, List.length_replicate, bp_ten]
    show 0 + 10 ^ (9 * (k / 9)) * (10 ^ (k % 9) + 1000000000 * 0) = _
    rw [Int.mul_zero, Int.add_zero, Int.zero_add, ← Int.pow_add, Nat.div_add_mod]
  rw [← trim_last _ hl, trim_limbs _ hd, hv]
  congr 1


/-- what NatScale answers -/
def scaleN (a : List Int) (k : Int) : List Int := if k < 0 then [] else mulN a (tenN k)
theorem tenN_len (k : Int) : (tenN k).length ≤ 50 := by
  unfold tenN
  split
  · rename_i h
    rw [ten_limbs]
    simp
    omega
  · simp

/-- what NatCut answers -/
def cutN (a : List Int) (k : Int) : List Int × List Int := if 0 ≤ k ∧ k ≤ 440 then divN a (tenN k) else ([], [])

/-- what NatEven answers -/
def evenB (a : List Int) : Bool := natOkB a && decide (a.headD 0 % 2 = 0)
end Go.Proofs.YtbpfabicampdkaaDoor

namespace Go.Proofs.YtbpfabicampdkaaDoor
open Go.RowKit

/-- a decimal number as data: its number, its scale -/
abbrev DI : Type := SI × Int
def zeroD : DI := (zeroS, 0)
/-- DecOk -/
def okD (d : DI) : Bool := okS d.1 && (decide (d.1.2.length ≤ 6) && decide (0 ≤ d.2 ∧ d.2 ≤ 30))
def numD (d : DI) : Int := valS d.1
structure PartsD (d : DI) : Prop where
  ok : okS d.1 = true
  len : d.1.2.length ≤ 6
  lo : 0 ≤ d.2
  hi : d.2 ≤ 30
theorem partsD {d : DI} (h : okD d = true) : PartsD d := by
  unfold okD at h
  rw [Bool.and_eq_true, Bool.and_eq_true, decide_eq_true_eq, decide_eq_true_eq] at h
  exact ⟨h.1, h.2.1, h.2.2.1, h.2.2.2⟩
theorem okD_of {d : DI} (h : PartsD d) : okD d = true := by
  unfold okD
  rw [h.ok, decide_eq_true h.len, decide_eq_true (show 0 ≤ d.2 ∧ d.2 ≤ 30 from ⟨h.lo, h.hi⟩)]
  rfl
/-- a number with a scale, where that is right -/
def decD (x : SI) (k : Int) : DI × Bool := if okD (x, k) = true then ((x, k), true) else (zeroD, false)
/-- the same over an integer -/
def decZ (z k : Int) : DI × Bool := if (z.natAbs : Int) < bp 6 ∧ 0 ≤ k ∧ k ≤ 30 then ((ofZ z, k), true) else (zeroD, false)
/-- ten to the power k -/
def pt (k : Int) : Int := 10 ^ k.toNat
def tenS (k : Int) : SI := (false, tenN k)
def topD (d e : DI) : Int := if d.2 < e.2 then e.2 else d.2
def liftD (d : DI) (s : Int) : Int := numD d * pt (s - d.2)
def addD (d e : DI) : DI × Bool := if okD d = true ∧ okD e = true then decZ (liftD d (topD d e) + liftD e (topD d e)) (topD d e) else (zeroD, false)
def subD (d e : DI) : DI × Bool := if okD d = true ∧ okD e = true then decZ (liftD d (topD d e) - liftD e (topD d e)) (topD d e) else (zeroD, false)
def mulD (d e : DI) : DI × Bool := if okD d = true ∧ okD e = true then decZ (numD d * numD e) (d.2 + e.2) else (zeroD, false)
def cmpD (d e : DI) : Int := if okD d = true ∧ okD e = true then cmpI (liftD d (topD d e)) (liftD e (topD d e)) else 0
def atD (d : DI) (k : Int) : DI × Bool :=
  if okD d = true ∧ 0 ≤ k ∧ k ≤ 30 then
    (if d.2 ≤ k then decZ (liftD d k) k
     else if numD d % pt (d.2 - k) = 0 then decZ (numD d / pt (d.2 - k)) k else (zeroD, false))
  else (zeroD, false)

theorem pt_pos (k : Int) : 0 < pt k := ten_pos k.toNat
theorem pt_nat (k : Int) : ((10 ^ k.toNat : Nat) : Int) = pt k := by unfold pt; rw [Int.natCast_pow]; rfl
theorem bp_four : (10 : Int) ^ 30 < bp 4 := by decide
theorem pt_mono {j k : Int} (h : j ≤ k) : pt j ≤ pt k := by
  rw [← pt_nat, ← pt_nat]
  exact Int.ofNat_le.2 (Nat.pow_le_pow_right (by omega) (by omega))
theorem pt_lt {k : Int} (h : k ≤ 30) : pt k < bp 4 := by
  have h1 := pt_mono h
  have h2 : pt 30 < bp 4 := bp_four
  omega
theorem tenN_pt {k : Int} (h0 : 0 ≤ k) (h1 : k ≤ 30) : tenN k = limbs (10 ^ k.toNat) ∧ (tenN k).length ≤ 4 ∧ natOkB (tenN k) = true ∧ nval (tenN k) = pt k := by
  have e : tenN k = limbs (10 ^ k.toNat) := by unfold tenN; rw [if_pos ⟨h0, by omega⟩]
  have hl : (limbs (10 ^ k.toNat)).length ≤ 4 := limbs_length_le _ 4 (by rw [pt_nat]; exact pt_lt h1)
  refine ⟨e, by rw [e]; exact hl, by rw [e]; exact limbs_okL _ (by omega), ?_⟩
  rw [e, limbs_val, pt_nat]
theorem tenS_ok {k : Int} (h0 : 0 ≤ k) (h1 : k ≤ 30) : okS (tenS k) = true ∧ valS (tenS k) = pt k ∧ (tenS k).2.length ≤ 4 := by
  obtain ⟨_, h2, h3, h4⟩ := tenN_pt h0 h1
  exact ⟨by unfold okS tenS; rw [h3]; rfl, h4, h2⟩
/-- a right number of few limbs is small -/
theorem few_lt {x : SI} {k : Nat} (ok : okS x = true) (hl : x.2.length ≤ k) : ((valS x).natAbs : Int) < bp k := by
  have hp := okS_parts ok
  have ha := valS_abs x hp.1
  have h3 := nval_lt x.2 (natOk_parts hp.1).1
  have h4 := nval_ok hp.1
  have h5 : bp x.2.length ≤ bp k := bp_mono hl
  omega
theorem few_len {z : Int} {k : Nat} (hk : k ≤ 50) : (ofZ z).2.length ≤ k ∧ (limbs z.natAbs).length ≤ 50 ↔ (z.natAbs : Int) < bp k := by
  constructor
  · intro ⟨h, hl⟩
    have := few_lt (ofZ_ok z) h
    rw [ofZ_val hl] at this
    exact this
  · intro h
    have hl := limbs_length_le z.natAbs k h
    refine ⟨?_, by omega⟩
    unfold ofZ
    rw [if_pos (by omega)]
    exact hl
theorem ofZ_few {z : Int} {k : Nat} (h : (z.natAbs : Int) < bp k) (hk : k ≤ 50) : okS (ofZ z) = true ∧ valS (ofZ z) = z := ⟨ofZ_ok z, ofZ_val (by have := limbs_length_le z.natAbs k h; omega)⟩
theorem decD_ofZ {z : Int} (k : Int) (h : (z.natAbs : Int) < bp 50) : decD (ofZ z) k = decZ z k := by
  have hl := limbs_length_le z.natAbs 50 h
  unfold decD decZ
  by_cases hc : (z.natAbs : Int) < bp 6 ∧ 0 ≤ k ∧ k ≤ 30
  · rw [if_pos hc, if_pos (okD_of ⟨ofZ_ok z, ((few_len (by omega)).2 hc.1).1, hc.2.1, hc.2.2⟩)]
  · rw [if_neg hc, if_neg]
    intro ho
    have p := partsD ho
    exact hc ⟨(few_len (by omega)).1 ⟨p.len, hl⟩, p.lo, p.hi⟩
theorem decD_ok (x : SI) (k : Int) (h : (decD x k).2 = true) : okD (decD x k).1 = true := by
  unfold decD at h ⊢
  split
  · assumption
  · rename_i hn
    rw [if_neg hn] at h
    exact absurd h (by decide)
theorem decZ_yes {z k : Int} (h : (z.natAbs : Int) < bp 6) (h0 : 0 ≤ k) (h1 : k ≤ 30) : decZ z k = ((ofZ z, k), true) ∧ okD (ofZ z, k) = true ∧ numD (ofZ z, k) = z := by
  refine ⟨by unfold decZ; rw [if_pos ⟨h, h0, h1⟩], okD_of ⟨ofZ_ok z, ((few_len (by omega)).2 h).1, h0, h1⟩, (ofZ_few h (by omega)).2⟩
theorem decZ_parts {z k : Int} (h : (decZ z k).2 = true) : (z.natAbs : Int) < bp 6 ∧ 0 ≤ k ∧ k ≤ 30 := by
  unfold decZ at h
  by_cases hc : (z.natAbs : Int) < bp 6 ∧ 0 ≤ k ∧ k ≤ 30
  · exact hc
  · rw [if_neg hc] at h
    exact absurd h (by decide)
theorem num_lt {d : DI} (h : PartsD d) : ((numD d).natAbs : Int) < bp 6 := few_lt h.ok h.len
theorem absZ_mul (a b : Int) : ((a * b).natAbs : Int) = (a.natAbs : Int) * b.natAbs := by rw [Int.natAbs_mul]; exact Int.natCast_mul _ _
theorem mulZ_lt {a b : Int} {j k : Nat} (ha : (a.natAbs : Int) < bp j) (hb : (b.natAbs : Int) < bp k) : ((a * b).natAbs : Int) < bp (j + k) := by
  rw [absZ_mul, bp_add]
  have hk := bp_pos k
  exact Int.lt_of_le_of_lt (Int.mul_le_mul_of_nonneg_left (Int.le_of_lt hb) (by omega)) (Int.mul_lt_mul_of_pos_right ha hk)
theorem pt_abs {k : Int} (h : k ≤ 30) : ((pt k).natAbs : Int) < bp 4 := by
  have h1 := pt_pos k
  have h2 := pt_lt h
  omega
theorem lift_lt {d : DI} {s : Int} (h : PartsD d) (hs : s ≤ 30) : ((liftD d s).natAbs : Int) < bp 10 := by
  have hm := mulZ_lt (j := 6) (k := 4) (num_lt h) (pt_abs (k := s - d.2) (by have := h.lo; omega))
  exact hm
/-- what a multiplication by a power of ten gives -/
theorem mul_ten {d : DI} {j : Int} (h : PartsD d) (h0 : 0 ≤ j) (h1 : j ≤ 30) : mulS d.1 (tenS j) = ofZ (numD d * pt j) ∧ okS (mulS d.1 (tenS j)) = true ∧ valS (mulS d.1 (tenS j)) = numD d * pt j := by
  have t := tenS_ok h0 h1
  have e : mulS d.1 (tenS j) = ofZ (numD d * pt j) := by unfold mulS; rw [if_pos ⟨h.ok, t.1⟩, t.2.1]; rfl
  have s := ofZ_few (mulZ_lt (j := 6) (k := 4) (num_lt h) (pt_abs h1)) (by omega)
  exact ⟨e, by rw [e]; exact s.1, by rw [e]; exact s.2⟩
theorem topD_le {d e : DI} (hd : PartsD d) (he : PartsD e) : d.2 ≤ topD d e ∧ e.2 ≤ topD d e ∧ 0 ≤ topD d e ∧ topD d e ≤ 30 := by
  have := hd.lo; have := hd.hi; have := he.lo; have := he.hi
  unfold topD
  split <;> omega
theorem bp_ten_one : bp 10 + bp 10 ≤ bp 11 := by decide
theorem sum_few {x y : Int} (hx : (x.natAbs : Int) < bp 10) (hy : (y.natAbs : Int) < bp 10) : ((x + y).natAbs : Int) < bp 50 ∧ ((x - y).natAbs : Int) < bp 50 := by
  have h1 := bp_ten_one
  have h2 : bp 11 ≤ bp 50 := bp_mono (by omega)
  omega
def szD (q : DI) : Int := szS q.1
theorem decZ_sz (z k : Int) : szD (decZ z k).1 ≤ 1048576 := by
  unfold decZ
  split
  · have := ofZ_len z
    unfold szD szS szI
    simp only
    omega
  · decide
theorem decD_sz (x : SI) (k : Int) : szD (decD x k).1 ≤ 1048576 := by
  unfold decD
  split
  · rename_i h
    have := (partsD h).len
    unfold szD szS szI
    simp only at this ⊢
    omega
  · decide
theorem addD_is {d e : DI} (hd : okD d = true) (he : okD e = true) : decD (addS (mulS d.1 (tenS (topD d e - d.2))) (mulS e.1 (tenS (topD d e - e.2)))) (topD d e) = addD d e := by
  have pd := partsD hd
  have pe := partsD he
  have t := topD_le pd pe
  have md := mul_ten pd (j := topD d e - d.2) (by omega) (by have := pd.lo; omega)
  have me := mul_ten pe (j := topD d e - e.2) (by omega) (by have := pe.lo; omega)
  unfold addS
  rw [if_pos ⟨md.2.1, me.2.1⟩, md.2.2, me.2.2]
  unfold addD
  rw [if_pos ⟨hd, he⟩]
  exact decD_ofZ _ (sum_few (lift_lt pd t.2.2.2) (lift_lt pe t.2.2.2)).1
theorem subD_is {d e : DI} (hd : okD d = true) (he : okD e = true) : decD (subS (mulS d.1 (tenS (topD d e - d.2))) (mulS e.1 (tenS (topD d e - e.2)))) (topD d e) = subD d e := by
  have pd := partsD hd
  have pe := partsD he
  have t := topD_le pd pe
  have md := mul_ten pd (j := topD d e - d.2) (by omega) (by have := pd.lo; omega)
  have me := mul_ten pe (j := topD d e - e.2) (by omega) (by have := pe.lo; omega)
  unfold subS
  rw [if_pos ⟨md.2.1, me.2.1⟩, md.2.2, me.2.2]
  unfold subD
  rw [if_pos ⟨hd, he⟩]
  exact decD_ofZ _ (sum_few (lift_lt pd t.2.2.2) (lift_lt pe t.2.2.2)).2
theorem cmpD_is {d e : DI} (hd : okD d = true) (he : okD e = true) : cmpS (mulS d.1 (tenS (topD d e - d.2))) (mulS e.1 (tenS (topD d e - e.2))) = cmpD d e := by
  have pd := partsD hd
  have pe := partsD he
  have t := topD_le pd pe
  have md := mul_ten pd (j := topD d e - d.2) (by omega) (by have := pd.lo; omega)
  have me := mul_ten pe (j := topD d e - e.2) (by omega) (by have := pe.lo; omega)
  unfold cmpS
  rw [if_pos ⟨md.2.1, me.2.1⟩, md.2.2, me.2.2]
  unfold cmpD
  rw [if_pos ⟨hd, he⟩]
  rfl
theorem mulD_is {d e : DI} (hd : okD d = true) (he : okD e = true) : decD (mulS d.1 e.1) (d.2 + e.2) = mulD d e := by
  have pd := partsD hd
  have pe := partsD he
  unfold mulS
  rw [if_pos ⟨pd.ok, pe.ok⟩]
  unfold mulD
  rw [if_pos ⟨hd, he⟩]
  have h := mulZ_lt (j := 6) (k := 6) (num_lt pd) (num_lt pe)
  have h2 : bp (6 + 6) ≤ bp 50 := bp_mono (by omega)
  exact decD_ofZ _ (by show ((numD d * numD e).natAbs : Int) < _; omega)
/-- the same number at another scale, upwards -/
theorem atD_up {d : DI} {k : Int} (hd : okD d = true) (h0 : 0 ≤ k) (h1 : k ≤ 30) (hk : d.2 ≤ k) : decD (mulS d.1 (tenS (k - d.2))) k = atD d k := by
  have pd := partsD hd
  have m := mul_ten pd (j := k - d.2) (by omega) (by have := pd.lo; omega)
  have h2 : bp 10 ≤ bp 50 := bp_mono (by omega)
  unfold atD
  rw [if_pos ⟨hd, h0, h1⟩, if_pos hk, m.1]
  exact decD_ofZ _ (by have := lift_lt pd h1; show ((liftD d k).natAbs : Int) < _; omega)
theorem trunc_of {n : Bool} {A : Nat} {P : Int} (hd : (A : Int) % P = 0) : (if n = true then -(A : Int) else A) % P = 0 ∧ (if n = true then -(A : Int) else A) / P = if n = true then -((A : Int) / P) else (A : Int) / P := by
  cases n
  · exact ⟨by simpa using hd, by simp⟩
  · have hdv : P ∣ (A : Int) := Int.dvd_of_emod_eq_zero hd
    simp only [if_true]
    exact ⟨Int.emod_eq_zero_of_dvd (Int.dvd_neg.2 hdv), Int.neg_ediv_of_dvd hdv⟩
/-- and downwards: cut off what is too much -/
theorem atD_down {d : DI} {k : Int} (hd : okD d = true) (h0 : 0 ≤ k) (hk : k < d.2) :
    (0 < (cutN d.1.2 (d.2 - k)).2.length → atD d k = (zeroD, false)) ∧ (¬ 0 < (cutN d.1.2 (d.2 - k)).2.length → decD (d.1.1, (cutN d.1.2 (d.2 - k)).1) k = atD d k) := by
  have pd := partsD hd
  have hi := pd.hi
  have t := tenN_pt (k := d.2 - k) (by omega) (by omega)
  have hp := okS_parts pd.ok
  have hn := nval_ok hp.1
  have hP := pt_pos (d.2 - k)
  have ht : 0 < (tenN (d.2 - k)).length := by
    rcases Nat.eq_zero_or_pos (tenN (d.2 - k)).length with h | h
    · have e : tenN (d.2 - k) = [] := List.eq_nil_of_length_eq_zero h
      have := t.2.2.2
      rw [e] at this
      simp only [nval] at this
      omega
    · exact h
  have hc : cutN d.1.2 (d.2 - k) = (limbs (nval d.1.2 / pt (d.2 - k)).toNat, limbs (nval d.1.2 % pt (d.2 - k)).toNat) := by
    unfold cutN
    rw [if_pos (by omega)]
    unfold divN
    rw [if_pos ⟨hp.1, t.2.2.1, ht⟩, t.2.2.2]
  rw [hc]
  show (0 < (limbs (nval d.1.2 % pt (d.2 - k)).toNat).length → _) ∧ (¬ 0 < (limbs (nval d.1.2 % pt (d.2 - k)).toNat).length → _)
  have hm0 := Int.emod_nonneg (nval d.1.2) (Int.ne_of_gt hP)
  have hv : numD d = if d.1.1 = true then -((nval d.1.2).toNat : Int) else (nval d.1.2).toNat := by
    unfold numD valS
    rw [Int.toNat_of_nonneg hn]
  have hA : ((nval d.1.2).toNat : Int) = nval d.1.2 := Int.toNat_of_nonneg hn
  have key : (limbs (nval d.1.2 % pt (d.2 - k)).toNat).length = 0 ↔ numD d % pt (d.2 - k) = 0 := by
    rw [limbs_zero_iff]
    constructor
    · intro h
      rw [hv]
      exact (trunc_of (by rw [hA]; omega)).1
    · intro h
      have : nval d.1.2 % pt (d.2 - k) = 0 := by
        rw [hv] at h
        split at h
        · rw [hA] at h
          exact Int.emod_eq_zero_of_dvd (Int.dvd_neg.1 (Int.dvd_of_emod_eq_zero h))
        · rw [hA] at h
          exact h
      omega
  unfold atD
  rw [if_pos ⟨hd, h0, by omega⟩, if_neg (by omega)]
  refine ⟨fun h => by rw [if_neg (fun e => by rw [← key] at e; omega)], fun h => ?_⟩
  have hz : numD d % pt (d.2 - k) = 0 := key.1 (by omega)
  rw [if_pos hz]
  have hr : nval d.1.2 % pt (d.2 - k) = 0 := by
    have := (limbs_zero_iff _).1 (key.2 hz)
    omega
  have tr := trunc_of (n := d.1.1) (A := (nval d.1.2).toNat) (by rw [hA]; exact hr)
  have hq0 : 0 ≤ nval d.1.2 / pt (d.2 - k) := Int.ediv_nonneg hn (by omega)
  have hql : nval d.1.2 / pt (d.2 - k) ≤ nval d.1.2 := Int.ediv_le_self _ hn
  have hlt := num_lt pd
  have hab : ((numD d).natAbs : Int) = nval d.1.2 := by rw [hv]; split <;> omega
  have hb : (((numD d / pt (d.2 - k)).natAbs : Nat) : Int) < bp 6 := by
    rw [hv, tr.2, hA]
    split <;> omega
  have hl6 : (limbs (nval d.1.2 / pt (d.2 - k)).toNat).length ≤ 6 := limbs_length_le _ 6 (by omega)
  have he : ((d.1.1, limbs (nval d.1.2 / pt (d.2 - k)).toNat) : SI) = ofZ (numD d / pt (d.2 - k)) := by
    have e1 : mkS d.1.1 (limbs (nval d.1.2 / pt (d.2 - k)).toNat) = ofZ (numD d / pt (d.2 - k)) := by
      rw [mkS_limbs, hv, tr.2, hA, Int.toNat_of_nonneg hq0]
    rw [← e1]
    unfold mkS capL
    rw [if_neg (by omega)]
    refine Prod.ext ?_ rfl
    show d.1.1 = (d.1.1 && decide (0 < (limbs (nval d.1.2 / pt (d.2 - k)).toNat).length))
    cases hs : d.1.1 with
    | false => rfl
    | true =>
      have h3 : 0 < nval d.1.2 := okS_pos pd.ok (hp.2 hs)
      have h4 : nval d.1.2 / pt (d.2 - k) ≠ 0 := fun e => by
        have := Int.mul_ediv_add_emod (nval d.1.2) (pt (d.2 - k))
        rw [e, hr] at this
        omega
      have h5 : 0 < (limbs (nval d.1.2 / pt (d.2 - k)).toNat).length := by
        rcases Nat.eq_zero_or_pos (limbs (nval d.1.2 / pt (d.2 - k)).toNat).length with h | h
        · have := (limbs_zero_iff _).1 h
          omega
        · exact h
      rw [decide_eq_true h5]
      rfl
  rw [he]
  exact decD_ofZ _ (by have : bp 6 ≤ bp 50 := bp_mono (by omega); omega)

/-! ### the smallest scale -/
theorem decZ_num {d : DI} (h : okD d = true) : decZ (numD d) d.2 = (d, true) := by
  have p := partsD h
  rw [(decZ_yes (num_lt p) p.lo p.hi).1]
  show ((ofZ (valS d.1), d.2), true) = (d, true)
  rw [okS_ofZ p.ok]
theorem pt_zero : pt 0 = 1 := rfl
theorem at_self {d : DI} (h : okD d = true) : atD d d.2 = (d, true) := by
  have p := partsD h
  unfold atD liftD
  rw [if_pos ⟨h, p.lo, p.hi⟩, if_pos (Int.le_refl _), Int.sub_self, pt_zero, Int.mul_one]
  exact decZ_num h
theorem at_parts {d : DI} {k : Int} (hd : okD d = true) (h : (atD d k).2 = true) (hk : k ≤ d.2) : okD (atD d k).1 = true ∧ (atD d k).1.2 = k ∧ liftD (atD d k).1 d.2 = numD d := by
  rcases Int.lt_or_eq_of_le hk with hk | rfl
  · unfold atD at h ⊢
    split at h
    · rename_i hc
      rw [if_pos hc] 
      rw [if_neg (by omega)] at h ⊢
      split at h
      · rename_i hz
        rw [if_pos hz]
        have b := decZ_parts h
        have y := decZ_yes b.1 b.2.1 b.2.2
        rw [y.1]
        refine ⟨y.2.1, rfl, ?_⟩
        unfold liftD
        show numD (ofZ (numD d / pt (d.2 - k)), k) * pt (d.2 - k) = _
        rw [y.2.2]
        exact Int.ediv_mul_cancel (Int.dvd_of_emod_eq_zero hz)
      · exact absurd h (by decide)
    · exact absurd h (by decide)
  · rw [at_self hd]
    refine ⟨hd, rfl, ?_⟩
    unfold liftD
    rw [Int.sub_self, pt_zero, Int.mul_one]
theorem at_back {q d : DI} (hd : okD d = true) (hq : okD q = true) (hk : q.2 ≤ d.2) (h : liftD q d.2 = numD d) : atD q d.2 = (d, true) := by
  have p := partsD hd
  unfold atD
  rw [if_pos ⟨hq, p.lo, p.hi⟩, if_pos hk, h]
  exact decZ_num hd
def lowFrom (d : DI) : Nat → Int → DI
  | 0, _ => zeroD
  | n + 1, k => if (atD d k).2 = true then (atD d k).1 else lowFrom d n (k + 1)
/-- the same number with the smallest scale -/
def lowD (d : DI) : DI := lowFrom d 31 0
theorem low_hit {d : DI} {n : Nat} {k : Int} (h : (atD d k).2 = true) : lowFrom d (n + 1) k = (atD d k).1 := if_pos h
theorem low_miss {d : DI} {n : Nat} {k : Int} (h : (atD d k).2 = false) : lowFrom d (n + 1) k = lowFrom d n (k + 1) := if_neg (by rw [h]; decide)
theorem low_none (d : DI) (k : Int) : lowFrom d 0 k = zeroD := rfl
theorem low_bad {d : DI} (h : ¬ okD d = true) : ∀ (n : Nat) (k : Int), lowFrom d n k = zeroD := by
  intro n
  induction n with
  | zero => intro k; rfl
  | succ n ih => intro k; rw [low_miss (by unfold atD; rw [if_neg (fun e => h e.1)])]; exact ih _
theorem low_from {d : DI} (hd : okD d = true) : ∀ (n : Nat) (k : Int), 0 ≤ k → k ≤ d.2 → d.2 < k + n → ∃ j, k ≤ j ∧ j ≤ d.2 ∧ (atD d j).2 = true ∧ lowFrom d n k = (atD d j).1 ∧ ∀ i, k ≤ i → i < j → (atD d i).2 = false := by
  intro n
  induction n with
  | zero => intro k h0 h1 h2; omega
  | succ n ih =>
    intro k h0 h1 h2
    by_cases hc : (atD d k).2 = true
    · exact ⟨k, Int.le_refl _, h1, hc, low_hit hc, fun i h3 h4 => by omega⟩
    · have hf : (atD d k).2 = false := by simpa using hc
      have hne : k ≠ d.2 := fun e => by rw [e, at_self hd] at hc; exact hc rfl
      obtain ⟨j, j1, j2, j3, j4, j5⟩ := ih (k + 1) (by omega) (by omega) (by omega)
      exact ⟨j, by omega, j2, j3, by rw [low_miss hf]; exact j4, fun i h3 h4 => by
        rcases Int.lt_or_eq_of_le h3 with h | rfl
        · exact j5 i (by omega) h4
        · exact hf⟩
theorem low_is_at {d : DI} (hd : okD d = true) : ∃ j, 0 ≤ j ∧ j ≤ d.2 ∧ (atD d j).2 = true ∧ lowD d = (atD d j).1 ∧ ∀ i, 0 ≤ i → i < j → (atD d i).2 = false :=
  low_from hd 31 0 (Int.le_refl _) (partsD hd).lo (by have := (partsD hd).hi; omega)
theorem lowD_ok {d : DI} (hd : okD d = true) : okD (lowD d) = true ∧ (lowD d).2 ≤ d.2 ∧ liftD (lowD d) d.2 = numD d ∧ atD (lowD d) d.2 = (d, true) := by
  obtain ⟨j, _, j2, j3, j4, _⟩ := low_is_at hd
  obtain ⟨k1, k2, k3⟩ := at_parts hd j3 j2
  rw [j4]
  exact ⟨k1, by rw [k2]; exact j2, k3, at_back hd k1 (by rw [k2]; exact j2) k3⟩
theorem atD_sz (d : DI) (k : Int) : szD (atD d k).1 ≤ 1048576 := by
  unfold atD
  split
  · split
    · exact decZ_sz _ _
    · split
      · exact decZ_sz _ _
      · decide
  · decide
theorem zeroD_sz : szD zeroD ≤ 1048576 := by decide
theorem lowD_sz (d : DI) : szD (lowD d) ≤ 1048576 := by
  by_cases h : okD d = true
  · obtain ⟨j, _, _, _, j4, _⟩ := low_is_at h
    rw [j4]
    exact atD_sz d j
  · unfold lowD
    rw [low_bad h]
    exact zeroD_sz
theorem addD_sz (d e : DI) : szD (addD d e).1 ≤ 1048576 := by unfold addD; split; exact decZ_sz _ _; exact zeroD_sz
theorem subD_sz (d e : DI) : szD (subD d e).1 ≤ 1048576 := by unfold subD; split; exact decZ_sz _ _; exact zeroD_sz
theorem mulD_sz (d e : DI) : szD (mulD d e).1 ≤ 1048576 := by unfold mulD; split; exact decZ_sz _ _; exact zeroD_sz
end Go.Proofs.YtbpfabicampdkaaDoor

namespace Go.Proofs.YtbpfabicampdkaaDoor
open Go.RowKit

/-- a value that stands for it, its limbs of the call's own -/
def OwnD (v : Value) (q : DI) (w : World) : Prop := ∃ u, v = .agg #[.bool q.1.1, u, .int .i64 q.2] ∧ OwnI u q.1.2 w
def MarkD (v : Value) (q : DI) (m : Int) (w : World) : Prop := ∃ u, v = .agg #[.bool q.1.1, u, .int .i64 q.2] ∧ MarkI u q.1.2 m w
/-- a value that reads as it -/
def RdD (w : World) (v : Value) (q : DI) : Prop := ∃ u, v = .agg #[.bool q.1.1, u, .int .i64 q.2] ∧ Row w 0 w.heap.size u (intsV q.1.2)
theorem OwnD.rd {v : Value} {q : DI} {w : World} (h : OwnD v q w) : RdD w v q := by
  obtain ⟨u, rfl, o⟩ := h
  exact ⟨u, rfl, o.row⟩
theorem OwnD.mk {u : Value} {q : DI} {w : World} (h : OwnI u q.1.2 w) : OwnD (.agg #[.bool q.1.1, u, .int .i64 q.2]) q w := ⟨u, rfl, h⟩
theorem OwnD.below {w W : World} {v : Value} {q : DI} (h : OwnD v q w) (hb : Below w.heap.size w W) : OwnD v q W := by
  obtain ⟨u, rfl, o⟩ := h
  exact ⟨u, rfl, own_below o hb⟩
theorem RdD.below {w W : World} {v : Value} {q : DI} (h : RdD w v q) (hb : Below w.heap.size w W) : RdD W v q := by
  obtain ⟨u, rfl, o⟩ := h
  exact ⟨u, rfl, (o.below hb (Nat.le_refl _)).wide (Nat.le_refl _) hb.size⟩
def capD (q : DI) : Prop := q.1.2.length ≤ 9223372036854775807
theorem szD_nonneg (q : DI) : 0 ≤ szD q := by unfold szD szS szI; omega
theorem szD_len {q : DI} (h : szD q ≤ 1048576) : q.1.2.length ≤ 1048576 := by unfold szD szS szI at h; omega
theorem capD_of {q : DI} (h : szD q ≤ 1048576) : capD q := by have := szD_len h; unfold capD; omega
theorem ownD_form {v : Value} {q : DI} {w : World} (h : OwnD v q w) : ∃ A c, v = .agg #[.bool q.1.1, .slice A q.1.2.length c, .int .i64 q.2] := by
  obtain ⟨u, rfl, o⟩ := h
  obtain ⟨A, c, rfl⟩ := own_len o
  exact ⟨A, c, rfl⟩
theorem rdD_form {v : Value} {q : DI} {w : World} (h : RdD w v q) : ∃ A c, v = .agg #[.bool q.1.1, .slice A q.1.2.length c, .int .i64 q.2] := by
  obtain ⟨u, rfl, o⟩ := h
  obtain ⟨A, c, rfl⟩ := row_form o
  rw [intsV_length]
  exact ⟨A, c, rfl⟩
theorem ownD_open {u c s : Value} {q : DI} {w : World} (h : OwnD (.agg #[c, u, s]) q w) : OwnI u q.1.2 w := by
  obtain ⟨u', e, hu⟩ := h
  injection e with e
  simp at e
  obtain ⟨_, e2, _⟩ := e
  subst e2
  exact hu
theorem ownS_openD {u c : Value} {x : SI} {w : World} (h : OwnS (.agg #[c, u]) x w) : OwnI u x.2 w := by
  obtain ⟨u', e, hu⟩ := h
  injection e with e
  simp at e
  obtain ⟨_, e2⟩ := e
  subst e2
  exact hu
/-- a value whose blocks stay while others are written -/
theorem newV_chg {φ : Value → World → Prop} {S T : List Nat} {v : Value} {w W : World} (o : At S (φ v) W) (hd : ∀ i ∈ S, i ∉ T) (hT : ∀ i ∈ T, w.heap.size ≤ i) (l : ∀ i ∈ S, w.heap.size ≤ i) (hW : Below w.heap.size w W) :
    ∀ W', Chg T W W' → NewV φ w (.returned v) W' :=
  fun _ hc => ⟨v, S, rfl, o.chg hc hd, fun i hi => ⟨l i hi, Nat.lt_of_lt_of_le (o.lt i hi) hc.size⟩, below_chg hW hc hW.size hT⟩
/-- what a call answers: a new decimal number and a bool -/
def PostDb (R0 : DI) (R1 : Bool) (w : World) (e : Ending) (w' : World) : Prop :=
  ∃ (v : Value) (S : List Nat), e = .returned (.tuple #[v, .bool R1]) ∧ At S (OwnD v R0) w' ∧ Within S w.heap.size w'.heap.size ∧ Below w.heap.size w w'
theorem postDb_is {q : DI × Bool} {X : DI} {b : Bool} (e : q = (X, b)) {w w' : World} {n : Ending} (h : PostDb q.1 q.2 w n w') : PostDb X b w n w' := by rw [e] at h; exact h
theorem postDb_eq {q p : DI × Bool} (e : q = p) {w w' : World} {n : Ending} (h : PostDb q.1 q.2 w n w') : PostDb p.1 p.2 w n w' := by rw [e] at h; exact h
theorem postn_eqD {a b : Int} (h : a = b) {w w' : World} {e : Ending} (k : Postn a w e w') : Postn b w e w' := h ▸ k
theorem newVD_eq {a b : DI} (e : a = b) {w w' : World} {n : Ending} (h : NewV (fun v => OwnD v a) w n w') : NewV (fun v => OwnD v b) w n w' := e ▸ h
theorem postDb_chg {S T : List Nat} {v : Value} {x : DI} {b : Bool} {w W : World} (o : At S (OwnD v x) W) (hd : ∀ i ∈ S, i ∉ T) (hT : ∀ i ∈ T, w.heap.size ≤ i) (l : ∀ i ∈ S, w.heap.size ≤ i) (hW : Below w.heap.size w W) :
    ∀ W', Chg T W W' → PostDb x b w (.returned (.tuple #[v, .bool b])) W' :=
  fun _ hc => ⟨v, S, rfl, o.chg hc hd, fun i hi => ⟨l i hi, Nat.lt_of_lt_of_le (o.lt i hi) hc.size⟩, below_chg hW hc hW.size hT⟩
theorem chg_set3 {r : Nat} {c0 c1 c2 : Value} {W : World} : Chg [r] W (((W.setCell ⟨r, 0, none⟩ c0).setCell ⟨r, 1, none⟩ c1).setCell ⟨r, 2, none⟩ c2) := (((Chg.refl _ _).setCell (by simp) _).setCell (by simp) _).setCell (by simp) _
/-- results that lie in their cells at block r -/
theorem newD_at {r B : Nat} {S : List Nat} {c0 c1 c2 : Value} {x : DI} {w W : World} (o : At S (OwnD (.agg #[c0, c1, c2]) x) W) (l : Within S B W.heap.size) (hrB : r < B) (hr : w.heap.size ≤ r) (hW : Below w.heap.size w W) :
    NewV (fun v => OwnD v x) w (.returned (.agg #[c0, c1, c2])) (((W.setCell ⟨r, 0, none⟩ c0).setCell ⟨r, 1, none⟩ c1).setCell ⟨r, 2, none⟩ c2) :=
  newV_chg o (fun i hi hm => by have := l i hi; simp at hm; omega) (fun i hi => by simp at hi; omega) (fun i hi => by have := l i hi; omega) hW _ chg_set3
theorem newDb_at {r B : Nat} {S : List Nat} {c0 c1 c2 : Value} {x : DI} {b : Bool} {w W : World} (o : At S (OwnD (.agg #[c0, c1, c2]) x) W) (l : Within S B W.heap.size) (hrB : r < B) (hr : w.heap.size ≤ r) (hW : Below w.heap.size w W) :
    PostDb x b w (.returned (.tuple #[.agg #[c0, c1, c2], .bool b])) (((W.setCell ⟨r, 0, none⟩ c0).setCell ⟨r, 1, none⟩ c1).setCell ⟨r, 2, none⟩ c2) :=
  postDb_chg o (fun i hi hm => by have := l i hi; simp at hm; omega) (fun i hi => by simp at hi; omega) (fun i hi => by have := l i hi; omega) hW _ chg_set3
theorem ownD_zero (w : World) : OwnD (.agg #[.bool false, .slice none 0 0, .int .i64 0]) zeroD w := ⟨_, rfl, World.ownsRow_nil _ _ _ _⟩
theorem atD_zero (w : World) : At [] (OwnD (.agg #[.bool false, .slice none 0 0, .int .i64 0]) zeroD) w := ⟨ownD_zero _, fun _ hg => absurd hg List.not_mem_nil, fun w' _ => ownD_zero w'⟩
theorem newDb_zero {w W : World} (b : Bool) (hW : Below w.heap.size w W) : PostDb zeroD b w (.returned (.tuple #[.agg #[.bool false, .slice none 0 0, .int .i64 0], .bool b])) W :=
  ⟨_, [], rfl, atD_zero _, fun _ hg => absurd hg List.not_mem_nil, hW⟩
theorem newD_zero {w W : World} (hW : Below w.heap.size w W) : NewV (fun v => OwnD v zeroD) w (.returned (.agg #[.bool false, .slice none 0 0, .int .i64 0])) W :=
  ⟨_, [], rfl, atD_zero _, fun _ hg => absurd hg List.not_mem_nil, hW⟩
set_option maxHeartbeats 400000 in
set_option maxRecDepth 100000 in
theorem eqD_cal (u v : Value) (x y : DI) (w : World) (hz : capD x) (hu : RdD w u x) (hv : RdD w v y) : Calls Tryd.prog 32 #[u, v] w (Postb (decide (x = y)) w) := by
  obtain ⟨p, rfl, hp⟩ := hu
  obtain ⟨q, rfl, hq⟩ := hv
  obtain ⟨Ap, cp, rfl⟩ := row_form hp
  obtain ⟨Aq, cq, rfl⟩ := row_form hq
  simp only [intsV_length] at hp hq ⊢
  have hb : Below w.heap.size w ((w.alloc (.cells #[.bool x.1.1, .slice Ap x.1.2.length cp, .int .i64 x.2] 33)).alloc (.cells #[.bool y.1.1, .slice Aq y.1.2.length cq, .int .i64 y.2] 33)) := below_al (below_al (Below.refl _ _) _) _
  have kx := (box_new w #[.bool x.1.1, .slice Ap x.1.2.length cp, .int .i64 x.2] 33).below (below_al (Below.refl _ _) (.cells #[.bool y.1.1, .slice Aq y.1.2.length cq, .int .i64 y.2] 33))
  have ky := box_new (w.alloc (.cells #[.bool x.1.1, .slice Ap x.1.2.length cp, .int .i64 x.2] 33)) #[.bool y.1.1, .slice Aq y.1.2.length cq, .int .i64 y.2] 33
  rw [show (w.alloc (.cells #[.bool x.1.1, .slice Ap x.1.2.length cp, .int .i64 x.2] 33)).heap.size = w.heap.size + 1 by simp] at ky
  go_enter Tryd.func32, Tryd.ntmps32
  go_wp2_with fail
  refine (eqSigned_at _ _ x.1 y.1 _ hz (rdS_below hp hb) (rdS_below hq hb)).mono ?_
  rintro e w1 ⟨rfl, b1⟩
  have bb1 := Below.next hb b1
  replace kx := kx.below b1
  replace ky := ky.below b1
  have cx2 := kx.here.cell 2 _ rfl
  have cy2 := ky.here.cell 2 _ rfl
  clear hp hq kx ky
  by_cases h1 : x.1 = y.1
  · rw [decide_eq_true h1]
    have H1 := Lib.hid h1
    clear h1
    by_cases h2 : x.2 = y.2
    · have HV := Lib.hid (show decide (x = y) = true from decide_eq_true (Prod.ext H1.out h2))
      have hq2 : (x.2 != y.2) = false := by rw [h2]; exact bne_self_eq_false _
      clear h2
      go_wp2
      go_ret
      exact ⟨ret_bool HV.out.symm, bb1⟩
    · have HV := Lib.hid (show decide (x = y) = false from decide_eq_false (fun e => h2 (by rw [e])))
      have hq2 : (x.2 != y.2) = true := by rw [bne_iff_ne]; exact h2
      clear h2
      go_wp2
      go_ret
      exact ⟨ret_bool HV.out.symm, bb1⟩
  · rw [decide_eq_false h1]
    have HV := Lib.hid (show decide (x = y) = false from decide_eq_false (fun e => h1 (by rw [e])))
    clear h1
    go_wp2
    go_ret
    exact ⟨ret_bool HV.out.symm, bb1⟩
set_option maxHeartbeats 400000 in
set_option maxRecDepth 100000 in
theorem szD_cal (v : Value) (x : DI) (left : Int) (w : World) (hl : capD x) (h0 : 0 ≤ left) (h1 : left ≤ 1048576) (h : RdD w v x) : Calls Tryd.prog 24 #[v, .int .i64 left] w (Postn (leftI left (szD x)) w) := by
  obtain ⟨p, rfl, hp⟩ := h
  obtain ⟨Ap, cp, rfl⟩ := row_form hp
  simp only [intsV_length] at hp ⊢
  have hb := below_al (Below.refl w.heap.size w) (.cells #[.bool x.1.1, .slice Ap x.1.2.length cp, .int .i64 x.2] 26)
  have kx := box_new w #[.bool x.1.1, .slice Ap x.1.2.length cp, .int .i64 x.2] 26
  have kx_c0 := kx.here.cell 0 _ rfl
  have kx_c1 := kx.here.cell 1 _ rfl
  go_enter Tryd.func24, Tryd.ntmps24
  go_wp2_with fail
  clear kx_c0 kx_c1 kx
  refine (szSigned_at _ x.1 left _ hl h0 h1 (rdS_below hp hb)).mono ?_
  rintro e w1 ⟨rfl, b1⟩
  have bb1 := Below.next hb b1
  have hq : leftI left (szS x.1) < 0 ∧ leftI left (szS x.1) = -1 ∨ ¬ leftI left (szS x.1) < 0 := by unfold leftI; split <;> omega
  obtain ⟨z, hz⟩ : ∃ z, leftI left (szS x.1) = z := ⟨_, rfl⟩
  have HL := Lib.hid (show leftI left (szD x) = z from hz)
  rw [hz] at hq ⊢
  clear hp hz
  rcases hq with ⟨h2, h3⟩ | h2
  · have hneg : decide (z < 0) = true := decide_eq_true h2
    have H3 := Lib.hid h3
    clear h2 h3
    go_wp2
    go_ret
    exact ⟨ret_int (H3.out.symm.trans HL.out.symm), bb1⟩
  · have hneg : decide (z < 0) = false := decide_eq_false h2
    clear h2
    go_wp2
    go_ret
    exact ⟨ret_int HL.out.symm, bb1⟩
set_option maxHeartbeats 1000000 in
set_option maxRecDepth 100000 in
theorem toD_new (v : Value) (x : DI) (w : World) (hz : szD x ≤ 1048576) (h : RdD w v x) : Calls Tryd.prog 28 #[v] w (NewV (fun u => OwnD u x) w) := by
  have hl := szD_len hz
  obtain ⟨p, rfl, hp⟩ := h
  obtain ⟨Ap, cp, rfl⟩ := row_form hp
  simp only [intsV_length] at hp ⊢
  have h3 := alloc3 w (.cells #[.bool x.1.1, .slice Ap x.1.2.length cp, .int .i64 x.2] 26) (.cells #[.bool false, .slice none 0 0, .int .i64 0] 33) (.cells #[.bool false, .slice none 0 0, .int .i64 0] 33)
  have hb3 := below3 w (.cells #[.bool x.1.1, .slice Ap x.1.2.length cp, .int .i64 x.2] 26) (.cells #[.bool false, .slice none 0 0, .int .i64 0] 33) (.cells #[.bool false, .slice none 0 0, .int .i64 0] 33)
  obtain ⟨W0, hW0⟩ : ∃ W0, W0 = (((w.alloc (.cells #[.bool x.1.1, .slice Ap x.1.2.length cp, .int .i64 x.2] 26)).alloc (.cells #[.bool false, .slice none 0 0, .int .i64 0] 33)).alloc (.cells #[.bool false, .slice none 0 0, .int .i64 0] 33)) := ⟨_, rfl⟩
  rw [← hW0] at h3 hb3
  have kb : At [w.heap.size] (BoxAt w.heap.size #[.bool x.1.1, .slice Ap x.1.2.length cp, .int .i64 x.2] 26) W0 := box_at h3.1
  have kr : At [w.heap.size + 1] (BoxAt (w.heap.size + 1) #[.bool false, .slice none 0 0, .int .i64 0] 33) W0 := box_at h3.2.1
  have ko : At [w.heap.size + 1 + 1] (BoxAt (w.heap.size + 1 + 1) #[.bool false, .slice none 0 0, .int .i64 0] 33) W0 := box_at h3.2.2.1
  have hz0 : W0.heap.size = w.heap.size + 3 := h3.2.2.2
  have HW := Lib.hid hW0
  clear h3 hW0
  have cb0 := kb.here.cell 0 _ rfl
  have cb1 := kb.here.cell 1 _ rfl
  go_enter Tryd.func28, Tryd.ntmps28
  go_wp2_with fail
  rw [← HW.out]
  refine (toSigned_at _ x.1 _ hl (rdS_below hp hb3)).mono ?_
  rintro e w1 ⟨u, rfl, o1, b1⟩
  obtain ⟨Au, cu, rfl⟩ := own_len o1
  have bb1 := Below.next hb3 b1
  replace kb := kb.below b1
  replace kr := kr.below b1
  replace ko := ko.below b1
  have HR := Lib.hid (newV_chg (φ := fun u => OwnD u x) (v := .agg #[.bool x.1.1, .slice Au x.1.2.length cu, .int .i64 x.2]) (T := [w.heap.size + 1, w.heap.size + 1 + 1]) ((own_at' o1).imp fun _ h => (OwnD.mk h : OwnD _ x _)) (fun i hi hm => by have := own_within o1 i hi; simp at hm; omega) (fun i hi => by simp at hi; omega) (fun i hi => by have := own_within o1 i hi; omega) bb1)
  have cb2 := kb.here.cell 2 _ rfl
  have co0 := ko.here.cell 0 _ rfl
  have co1 := ko.here.cell 1 _ rfl
  have co2 := ko.here.cell 2 _ rfl
  have fo0 := Lib.frozen_of_heap ko.here 0
  have fo1 := Lib.frozen_of_heap ko.here 1
  have fo2 := Lib.frozen_of_heap ko.here 2
  have cr0 := kr.here.cell 0 _ rfl
  have cr1 := kr.here.cell 1 _ rfl
  have cr2 := kr.here.cell 2 _ rfl
  have fr0 := Lib.frozen_of_heap kr.here 0
  have fr1 := Lib.frozen_of_heap kr.here 1
  have fr2 := Lib.frozen_of_heap kr.here 2
  clear kb kr ko o1 b1 bb1 hp cb0 cb1
  go_wp2
  refine bodyPost_ret (v := .agg #[.bool x.1.1, .slice Au x.1.2.length cu, .int .i64 x.2]) (by simp [results, Tryd.results28, go_sem, cr0, cr1, cr2]) rfl ?_
  exact HR.out _ ((((((Chg.refl _ _).setCell (by simp) _).setCell (by simp) _).setCell (by simp) _).setCell (by simp) _).setCell (by simp) _ |>.setCell (by simp) _)
set_option maxHeartbeats 400000 in
set_option maxRecDepth 100000 in
theorem markD_cal (v : Value) (x : DI) (S : List Nat) (m : Int) (w : World) (hm : m + szD x ≤ 9223372036854775807) (hm0 : 0 ≤ m) (h : At S (OwnD v x) w) :
    Calls Tryd.prog 45 #[v, .int .i64 m] w fun e w' => e = .returned (.int .i64 (m + szD x)) ∧ At S (MarkD v x m) w' ∧ Chg S w w' := by
  obtain ⟨A, c, rfl⟩ := ownD_form h.here
  have hbx := below_al (Below.refl w.heap.size w) (.cells #[.bool x.1.1, .slice A x.1.2.length c, .int .i64 x.2] 33)
  have kx := box_new w #[.bool x.1.1, .slice A x.1.2.length c, .int .i64 x.2] 33
  have ax := (h.below hbx).imp (fun _ h => (OwnS.mk (ownD_open h) : OwnS (.agg #[.bool x.1.1, .slice A x.1.2.length c]) x.1 _))
  have kx_c0 := kx.here.cell 0 _ rfl
  have kx_c1 := kx.here.cell 1 _ rfl
  have HZ := Lib.hid (show szD x = szS x.1 from rfl)
  have HBX := Lib.hid hbx
  clear h kx
  go_enter Tryd.func45, Tryd.ntmps45
  go_wp2_with fail
  clear kx_c0 kx_c1
  refine (markSigned_at _ x.1 S m _ hm hm0 ax).mono ?_
  rintro e w1 ⟨rfl, mu, c1⟩
  have hall := Lib.hid (mu.imp (fun _ h => (show MarkD (.agg #[.bool x.1.1, .slice A x.1.2.length c, .int .i64 x.2]) x m _ from by
    obtain ⟨u', e1, hu'⟩ := h
    injection e1 with e1
    have e2 : u' = .slice A x.1.2.length c := by simpa using e1.symm
    rw [e2] at hu'
    exact ⟨_, rfl, hu'⟩)))
  have hchg := Lib.hid ((Chg.of_below HBX.out).trans c1 : Chg S w w1)
  clear mu c1
  go_wp2
  go_ret
  exact ⟨ret_int (by rw [HZ.out]), hall.out, hchg.out⟩
end Go.Proofs.YtbpfabicampdkaaDoor

namespace Go.Proofs.YtbpfabicampdkaaDoor
open Go.RowKit

theorem negS_parts {x : SI} (h : okS x = true) : negS x = (decide (0 < cmpS x zeroS), x.2) := by
  have e := okS_ofZ h
  have hl : (limbs (valS x).natAbs).length ≤ 50 := by
    by_cases hl : (limbs (valS x).natAbs).length ≤ 50
    · exact hl
    · have e2 := e.symm.trans (ofZ_big hl)
      subst e2
      rw [zeroS_val, show (0 : Int).natAbs = 0 from rfl, show limbs 0 = [] by rw [limbs, dif_pos rfl]]
      decide
  have e2 : limbs (valS x).natAbs = x.2 := by
    unfold ofZ at e
    rw [if_pos hl] at e
    exact congrArg Prod.snd e
  unfold negS cmpS
  rw [if_pos h, if_pos ⟨h, zeroS_ok⟩, zeroS_val]
  unfold ofZ
  rw [Int.natAbs_neg, if_pos hl, e2]
  congr 1
  unfold cmpI
  rw [decide_eq_decide]
  split
  · omega
  · split <;> omega
theorem addS_zeroL {x : SI} (h : okS x = true) : addS zeroS x = x := by
  unfold addS
  rw [if_pos ⟨zeroS_ok, h⟩, zeroS_val, Int.zero_add, okS_ofZ h]
theorem okM_parts {m : MI} (h : okM m = true) : knownC m.1 = true ∧ okS m.2 = true ∧ m.2.2.length ≤ 4 := by
  unfold okM at h
  rw [Bool.and_eq_true, Bool.and_eq_true, decide_eq_true_eq] at h
  exact ⟨h.1.1, h.1.2, h.2⟩
theorem okM_of {m : MI} (h1 : knownC m.1 = true) (h2 : okS m.2 = true) (h3 : m.2.2.length ≤ 4) : okM m = true := by
  unfold okM
  rw [h1, h2, decide_eq_true h3]
  rfl
theorem bothM_parts {m n : MI} (h : bothM m n = true) : okM m = true ∧ okM n = true ∧ m.1 = n.1 := by
  unfold bothM at h
  rw [Bool.and_eq_true, Bool.and_eq_true, decide_eq_true_eq] at h
  exact ⟨h.1.1, h.1.2, h.2⟩
theorem knownC_empty : knownC ⟨#[]⟩ = false := by decide +kernel
theorem okM_zero : okM zeroM = false := by
  unfold okM
  rw [show knownC zeroM.1 = false from knownC_empty]
  rfl
theorem okM_negS {m : MI} (h : okM m = true) : okM (m.1, negS m.2) = true := by
  obtain ⟨h1, h2, h3⟩ := okM_parts h
  refine okM_of h1 (negS_ok _) ?_
  show (negS m.2).2.length ≤ 4
  rw [negS_parts h2]
  exact h3
theorem negM_good {m : MI} (h : okM m = true) : negM m = ((m.1, (decide (0 < cmpS m.2 zeroS), m.2.2)), true) := by
  unfold negM makeM
  rw [if_pos h, if_pos (okM_negS h), negS_parts (okM_parts h).2.1]
theorem negM_bad {m : MI} (h : ¬ okM m = true) : negM m = (zeroM, false) := by unfold negM; rw [if_neg h]
theorem negM_len {m : MI} (h : m.2.2.length ≤ 1048576) : (negM m).1.2.2.length ≤ 1048576 := by
  by_cases hk : okM m = true
  · rw [negM_good hk]; exact h
  · rw [negM_bad hk]; exact Nat.zero_le _
theorem sub_neg (m n : MI) : addM m (negM n).1 = subM m n := by
  by_cases h : okM n = true
  · have hp := okM_parts h
    have e : (negM n).1 = (n.1, negS n.2) := by rw [negM_good h, negS_parts hp.2.1]
    rw [e]
    unfold addM subM
    rw [show bothM m (n.1, negS n.2) = bothM m n by unfold bothM; rw [okM_negS h, h]]
    by_cases hb : bothM m n = true
    · rw [if_pos hb, if_pos hb]
      have hm := (okM_parts (bothM_parts hb).1).2.1
      show makeM m.1 (addS m.2 (negS n.2)) = makeM m.1 (subS m.2 n.2)
      congr 1
      unfold addS subS
      rw [if_pos ⟨hm, negS_ok _⟩, if_pos ⟨hm, hp.2.1⟩, negS_val hp.2.1, Int.sub_eq_add_neg]
    · rw [if_neg hb, if_neg hb]
  · rw [negM_bad h]
    unfold addM subM
    rw [if_neg (by unfold bothM; rw [okM_zero, Bool.and_false, Bool.false_and]; decide), if_neg (fun hb => h (bothM_parts hb).2.1)]
theorem okM_size {m : MI} (h : okM m = true) : m.1.size ≤ 3 := by
  obtain ⟨r, hr, e, _⟩ := known_row (okM_parts h).1
  rw [← e]
  have h : (specT.all fun r => decide (r.1.size ≤ 3)) = true := by decide +kernel
  exact of_decide_eq_true (List.all_eq_true.1 h r hr)
theorem makeM_sz (cu : ByteArray) (x : SI) : szM (makeM cu x).1 ≤ 1048576 := by
  unfold makeM
  split
  · rename_i h
    have h1 := okM_size h
    have h2 := (okM_parts h).2.2
    dsimp only at h1 h2
    unfold szM szS szI
    dsimp only
    omega
  · decide
theorem addM_sz (m n : MI) : szM (addM m n).1 ≤ 1048576 := by unfold addM; split; exact makeM_sz _ _; decide
theorem subM_sz (m n : MI) : szM (subM m n).1 ≤ 1048576 := by unfold subM; split; exact makeM_sz _ _; decide
theorem negM_sz (m : MI) : szM (negM m).1 ≤ 1048576 := by unfold negM; split; exact makeM_sz _ _; decide
theorem timesM_sz (m : MI) (k : Int) : szM (timesM m k).1 ≤ 1048576 := by unfold timesM; split; exact makeM_sz _ _; decide
end Go.Proofs.YtbpfabicampdkaaDoor

namespace Go.Proofs.YtbpfabicampdkaaDoor
open Go.RowKit

abbrev EI : Type := ByteArray × ByteArray × DI
def zeroE : EI := (⟨#[]⟩, ⟨#[]⟩, zeroD)
def szE (r : EI) : Int := r.1.size + r.2.1.size + szD r.2.2
/-- how many cells a mark of it takes -/
def mkE (r : EI) : Int := szD r.2.2
def okE (r : EI) : Bool := knownC r.1 && (knownC r.2.1 && (decide (¬ r.1 = r.2.1) && (okD r.2.2 && (decide (0 < cmpS r.2.2.1 zeroS) && decide (r.2.2.1.2.length ≤ 2)))))
theorem okE_parts {r : EI} (h : okE r = true) : knownC r.1 = true ∧ knownC r.2.1 = true ∧ ¬ r.1 = r.2.1 ∧ okD r.2.2 = true ∧ 0 < cmpS r.2.2.1 zeroS ∧ r.2.2.1.2.length ≤ 2 := by
  unfold okE at h
  rw [Bool.and_eq_true, Bool.and_eq_true, Bool.and_eq_true, Bool.and_eq_true, Bool.and_eq_true, decide_eq_true_eq, decide_eq_true_eq, decide_eq_true_eq] at h
  exact h
/-- a table: its pivot and its list -/
abbrev TI : Type := ByteArray × List EI
/-- where the rate of a pair stands, or the list's length -/
def atE (l : List EI) (a b : ByteArray) : Nat := l.findIdx fun r => decide (r.1 = a) && decide (r.2.1 = b)
/-- the same, as spec answers it: -1 for none -/
def posE (l : List EI) (a b : ByteArray) : Int := if atE l a b < l.length then atE l a b else -1
def okT (t : TI) : Bool := knownC t.1 && (decide (t.2.length ≤ 12) && (List.range t.2.length).all fun i => match t.2[i]? with
  | some r => okE r && decide (posE t.2 r.1 r.2.1 = i)
  | none => true)
def putT (t : TI) (r : EI) : TI × Bool :=
  if okT t = true ∧ okE r = true then
    (let u : TI := if posE t.2 r.1 r.2.1 < 0 then (t.1, t.2 ++ [r]) else (t.1, t.2.set (posE t.2 r.1 r.2.1).toNat r)
     if okT u = true then (u, true) else ((⟨#[]⟩, []), false))
  else ((⟨#[]⟩, []), false)
/-- how one step goes: 2 stored, 3 the other way round, 0 not at all -/
def legT (l : List EI) (a b : ByteArray) : Int := if 0 ≤ posE l a b then 2 else if 0 ≤ posE l b a then 3 else 0
def howT (t : TI) (a b : ByteArray) : Int :=
  if okT t = true ∧ knownC a = true ∧ knownC b = true then
    (if a = b then 1 else if legT t.2 a b ≠ 0 then legT t.2 a b
     else if ¬ a = t.1 ∧ ¬ b = t.1 ∧ legT t.2 a t.1 ≠ 0 ∧ legT t.2 t.1 b ≠ 0 then 4 else 0)
  else 0
def pathT (t : TI) (a b : ByteArray) : List ByteArray :=
  if howT t a b = 1 then [a] else if howT t a b = 2 ∨ howT t a b = 3 then [a, b] else if howT t a b = 4 then [a, t.1, b] else []
theorem atE_next {l : List EI} {a b : ByteArray} {k : Nat} {x : EI} (hk : k ≤ atE l a b) (hx : l[k]? = some x) (hn : ¬ (x.1 = a ∧ x.2.1 = b)) : k + 1 ≤ atE l a b := by
  obtain ⟨h1, h2⟩ := List.getElem?_eq_some_iff.1 hx
  rcases Nat.lt_or_eq_of_le hk with h | h
  · exact h
  · exfalso
    have hw : l.findIdx (fun r => decide (r.1 = a) && decide (r.2.1 = b)) < l.length := by show atE l a b < _; omega
    have hp := List.findIdx_getElem (w := hw)
    have he : l[l.findIdx (fun r => decide (r.1 = a) && decide (r.2.1 = b))]? = some x := by rw [← hx]; congr 1; exact h.symm
    rw [(List.getElem?_eq_some_iff.1 he).2] at hp
    simp at hp
    exact hn hp
theorem posE_hit {l : List EI} {a b : ByteArray} {k : Nat} {x : EI} (hk : k ≤ atE l a b) (hx : l[k]? = some x) (hn : x.1 = a ∧ x.2.1 = b) : posE l a b = k := by
  obtain ⟨h1, h2⟩ := List.getElem?_eq_some_iff.1 hx
  rcases Nat.lt_or_eq_of_le hk with h | h
  · exfalso
    have hp := List.not_of_lt_findIdx (xs := l) (p := fun r => decide (r.1 = a) && decide (r.2.1 = b)) h
    rw [h2] at hp
    simp at hp
    exact hp hn.1 hn.2
  · unfold posE
    rw [← h, if_pos h1]
theorem posE_none {l : List EI} {a b : ByteArray} (hk : l.length ≤ atE l a b) : posE l a b = -1 := by
  unfold posE
  rw [if_neg (by omega)]
theorem posE_at {l : List EI} {a b : ByteArray} (h : 0 ≤ posE l a b) : ∃ (n : Nat) (x : EI), posE l a b = n ∧ l[n]? = some x ∧ atE l a b = n := by
  unfold posE at h ⊢
  split at h
  · rename_i hn
    rw [if_pos hn]
    exact ⟨_, _, rfl, List.getElem?_eq_getElem hn, rfl⟩
  · omega
/-- what RatesOk asks of the element at i -/
def rowT (l : List EI) (i : Nat) : Bool := match l[i]? with
  | some r => okE r && decide (posE l r.1 r.2.1 = i)
  | none => true
theorem rowT_at {l : List EI} {i : Nat} {x : EI} (h : l[i]? = some x) : rowT l i = (okE x && decide (posE l x.1 x.2.1 = i)) := by unfold rowT; rw [h]
theorem okT_rows (t : TI) : okT t = (knownC t.1 && (decide (t.2.length ≤ 12) && (List.range t.2.length).all (rowT t.2))) := rfl
theorem rows_next {l : List EI} {k : Nat} (h : (List.range k).all (rowT l) = true) (hk : rowT l k = true) : (List.range (k + 1)).all (rowT l) = true := by
  rw [List.range_succ, List.all_append, h]
  simp [hk]
theorem rows_bad {l : List EI} {k : Nat} (hl : k < l.length) (hk : ¬ rowT l k = true) : (List.range l.length).all (rowT l) = false := by
  rw [Bool.eq_false_iff]
  intro h
  exact hk (List.all_eq_true.1 h k (List.mem_range.2 hl))
end Go.Proofs.YtbpfabicampdkaaDoor

namespace Go.Proofs.YtbpfabicampdkaaDoor
open Go.RowKit

/-- a value that stands for it, its limbs of the call's own -/
def OwnE (v : Value) (q : EI) (w : World) : Prop := ∃ u, v = .agg #[.string q.1, .string q.2.1, .bool q.2.2.1.1, u, .int .i64 q.2.2.2] ∧ OwnI u q.2.2.1.2 w
def MarkE (v : Value) (q : EI) (m : Int) (w : World) : Prop := ∃ u, v = .agg #[.string q.1, .string q.2.1, .bool q.2.2.1.1, u, .int .i64 q.2.2.2] ∧ MarkI u q.2.2.1.2 m w
/-- a value that reads as it -/
def RdE (w : World) (v : Value) (q : EI) : Prop := ∃ u, v = .agg #[.string q.1, .string q.2.1, .bool q.2.2.1.1, u, .int .i64 q.2.2.2] ∧ Row w 0 w.heap.size u (intsV q.2.2.1.2)
theorem OwnE.rd {v : Value} {q : EI} {w : World} (h : OwnE v q w) : RdE w v q := by
  obtain ⟨u, rfl, o⟩ := h
  exact ⟨u, rfl, o.row⟩
theorem OwnE.mk {u : Value} {q : EI} {w : World} (h : OwnI u q.2.2.1.2 w) : OwnE (.agg #[.string q.1, .string q.2.1, .bool q.2.2.1.1, u, .int .i64 q.2.2.2]) q w := ⟨u, rfl, h⟩
theorem OwnE.below {w W : World} {v : Value} {q : EI} (h : OwnE v q w) (hb : Below w.heap.size w W) : OwnE v q W := by
  obtain ⟨u, rfl, o⟩ := h
  exact ⟨u, rfl, own_below o hb⟩
theorem RdE.below {w W : World} {v : Value} {q : EI} (h : RdE w v q) (hb : Below w.heap.size w W) : RdE W v q := by
  obtain ⟨u, rfl, o⟩ := h
  exact ⟨u, rfl, (o.below hb (Nat.le_refl _)).wide (Nat.le_refl _) hb.size⟩
def capE (q : EI) : Prop := q.1.size ≤ 9223372036854775807 ∧ q.2.1.size ≤ 9223372036854775807 ∧ q.2.2.1.2.length ≤ 9223372036854775807
theorem szE_nonneg (q : EI) : 0 ≤ szE q := by have := szD_nonneg q.2.2; unfold szE; omega
theorem szE_len {q : EI} (h : szE q ≤ 1048576) : q.1.size ≤ 1048576 ∧ q.2.1.size ≤ 1048576 ∧ q.2.2.1.2.length ≤ 1048576 := by
  have h0 := szD_nonneg q.2.2
  unfold szE at h
  exact ⟨by omega, by omega, szD_len (by omega)⟩
theorem capE_of {q : EI} (h : szE q ≤ 1048576) : capE q := by have := szE_len h; unfold capE; omega
theorem mkE_range (q : EI) : 0 ≤ mkE q ∧ mkE q ≤ szE q := by have := szD_nonneg q.2.2; unfold mkE szE; omega
theorem ownE_form {v : Value} {q : EI} {w : World} (h : OwnE v q w) : ∃ A c, v = .agg #[.string q.1, .string q.2.1, .bool q.2.2.1.1, .slice A q.2.2.1.2.length c, .int .i64 q.2.2.2] := by
  obtain ⟨u, rfl, o⟩ := h
  obtain ⟨A, c, rfl⟩ := own_len o
  exact ⟨A, c, rfl⟩
theorem rdE_form {v : Value} {q : EI} {w : World} (h : RdE w v q) : ∃ A c, v = .agg #[.string q.1, .string q.2.1, .bool q.2.2.1.1, .slice A q.2.2.1.2.length c, .int .i64 q.2.2.2] := by
  obtain ⟨u, rfl, o⟩ := h
  obtain ⟨A, c, rfl⟩ := row_form o
  rw [intsV_length]
  exact ⟨A, c, rfl⟩
theorem ownE_open {u c s n k : Value} {q : EI} {w : World} (h : OwnE (.agg #[c, s, n, u, k]) q w) : OwnI u q.2.2.1.2 w := by
  obtain ⟨u', e, hu⟩ := h
  injection e with e
  simp at e
  obtain ⟨_, _, _, e2, _⟩ := e
  subst e2
  exact hu
/-- what a call answers: a new rate and a bool -/
def PostEb (R0 : EI) (R1 : Bool) (w : World) (e : Ending) (w' : World) : Prop :=
  ∃ (v : Value) (S : List Nat), e = .returned (.tuple #[v, .bool R1]) ∧ At S (OwnE v R0) w' ∧ Within S w.heap.size w'.heap.size ∧ Below w.heap.size w w'
theorem postEb_is {q : EI × Bool} {X : EI} {b : Bool} (e : q = (X, b)) {w w' : World} {n : Ending} (h : PostEb q.1 q.2 w n w') : PostEb X b w n w' := by rw [e] at h; exact h
theorem postEb_eq {q p : EI × Bool} (e : q = p) {w w' : World} {n : Ending} (h : PostEb q.1 q.2 w n w') : PostEb p.1 p.2 w n w' := by rw [e] at h; exact h
theorem postEb_chg {S T : List Nat} {v : Value} {x : EI} {b : Bool} {w W : World} (o : At S (OwnE v x) W) (hd : ∀ i ∈ S, i ∉ T) (hT : ∀ i ∈ T, w.heap.size ≤ i) (l : ∀ i ∈ S, w.heap.size ≤ i) (hW : Below w.heap.size w W) :
    ∀ W', Chg T W W' → PostEb x b w (.returned (.tuple #[v, .bool b])) W' :=
  fun _ hc => ⟨v, S, rfl, o.chg hc hd, fun i hi => ⟨l i hi, Nat.lt_of_lt_of_le (o.lt i hi) hc.size⟩, below_chg hW hc hW.size hT⟩
theorem chg_set5 {r : Nat} {c0 c1 c2 c3 c4 : Value} {W : World} : Chg [r] W (((((W.setCell ⟨r, 0, none⟩ c0).setCell ⟨r, 1, none⟩ c1).setCell ⟨r, 2, none⟩ c2).setCell ⟨r, 3, none⟩ c3).setCell ⟨r, 4, none⟩ c4) := (((((Chg.refl _ _).setCell (by simp) _).setCell (by simp) _).setCell (by simp) _).setCell (by simp) _).setCell (by simp) _
theorem newEb_at {r B : Nat} {S : List Nat} {c0 c1 c2 c3 c4 : Value} {x : EI} {b : Bool} {w W : World} (o : At S (OwnE (.agg #[c0, c1, c2, c3, c4]) x) W) (l : Within S B W.heap.size) (hrB : r < B) (hr : w.heap.size ≤ r) (hW : Below w.heap.size w W) :
    PostEb x b w (.returned (.tuple #[.agg #[c0, c1, c2, c3, c4], .bool b])) (((((W.setCell ⟨r, 0, none⟩ c0).setCell ⟨r, 1, none⟩ c1).setCell ⟨r, 2, none⟩ c2).setCell ⟨r, 3, none⟩ c3).setCell ⟨r, 4, none⟩ c4) :=
  postEb_chg o (fun i hi hm => by have := l i hi; simp at hm; omega) (fun i hi => by simp at hi; omega) (fun i hi => by have := l i hi; omega) hW _ chg_set5
theorem ownE_zero (w : World) : OwnE (.agg #[.string ⟨#[]⟩, .string ⟨#[]⟩, .bool false, .slice none 0 0, .int .i64 0]) zeroE w := ⟨_, rfl, World.ownsRow_nil _ _ _ _⟩
theorem atE_zero (w : World) : At [] (OwnE (.agg #[.string ⟨#[]⟩, .string ⟨#[]⟩, .bool false, .slice none 0 0, .int .i64 0]) zeroE) w := ⟨ownE_zero _, fun _ hg => absurd hg List.not_mem_nil, fun w' _ => ownE_zero w'⟩
theorem newEb_zero {w W : World} (b : Bool) (hW : Below w.heap.size w W) : PostEb zeroE b w (.returned (.tuple #[.agg #[.string ⟨#[]⟩, .string ⟨#[]⟩, .bool false, .slice none 0 0, .int .i64 0], .bool b])) W :=
  ⟨_, [], rfl, atE_zero _, fun _ hg => absurd hg List.not_mem_nil, hW⟩
theorem below_set5 {W0 W : World} {g : Nat} {a b c d e : Value} (h : Below W0.heap.size W0 W) (hg : W0.heap.size ≤ g) : Below W0.heap.size W0 (((((W.setCell ⟨g, 0, none⟩ a).setCell ⟨g, 1, none⟩ b).setCell ⟨g, 2, none⟩ c).setCell ⟨g, 3, none⟩ d).setCell ⟨g, 4, none⟩ e) :=
  ((((h.setCell (p := ⟨g, 0, none⟩) hg _).setCell (p := ⟨g, 1, none⟩) hg _).setCell (p := ⟨g, 2, none⟩) hg _).setCell (p := ⟨g, 3, none⟩) hg _).setCell (p := ⟨g, 4, none⟩) hg _
theorem newLocV_early5 {T : TypeId} {φ : Value → World → Prop} {W0 W W1 : World} {g : Nat} {z0 z1 z2 z3 z4 c0 c1 c2 c3 c4 : Value} {S : List Nat} (hb : BoxAt g #[z0, z1, z2, z3, z4] T W) (o : At S (φ (.agg #[c0, c1, c2, c3, c4])) W) (l : Within S W1.heap.size W.heap.size) (hg : W0.heap.size ≤ g) (hgB : g < W1.heap.size) (hW : Below W0.heap.size W0 W) :
    NewLocV T φ W0 (.pointer (some ⟨g, 0, none⟩)) (((((W.setCell ⟨g, 0, none⟩ c0).setCell ⟨g, 1, none⟩ c1).setCell ⟨g, 2, none⟩ c2).setCell ⟨g, 3, none⟩ c3).setCell ⟨g, 4, none⟩ c4) :=
  have hb' : W.heap[g]? = some (.cells #[z0, z1, z2, z3, z4] T (0, 0)) := hb
  newLocV_of (by simp [BoxAt, World.setCell, Array.getElem?_modify, hb']) o l hg hgB chg_set5 hW
set_option maxHeartbeats 1000000 in
set_option maxRecDepth 100000 in
theorem eqE_cal (u v : Value) (x y : EI) (w : World) (hz : capE x) (hu : RdE w u x) (hv : RdE w v y) : Calls Tryd.prog 11 #[u, v] w (Postb (decide (x = y)) w) := by
  obtain ⟨p, rfl, hp⟩ := hu
  obtain ⟨q, rfl, hq⟩ := hv
  obtain ⟨Ap, cp, rfl⟩ := row_form hp
  obtain ⟨Aq, cq, rfl⟩ := row_form hq
  simp only [intsV_length] at hp hq ⊢
  have hb : Below w.heap.size w ((w.alloc (.cells #[.string x.1, .string x.2.1, .bool x.2.2.1.1, .slice Ap x.2.2.1.2.length cp, .int .i64 x.2.2.2] 35)).alloc (.cells #[.string y.1, .string y.2.1, .bool y.2.2.1.1, .slice Aq y.2.2.1.2.length cq, .int .i64 y.2.2.2] 35)) := below_al (below_al (Below.refl _ _) _) _
  have kx := (box_new w #[.string x.1, .string x.2.1, .bool x.2.2.1.1, .slice Ap x.2.2.1.2.length cp, .int .i64 x.2.2.2] 35).below (below_al (Below.refl _ _) (.cells #[.string y.1, .string y.2.1, .bool y.2.2.1.1, .slice Aq y.2.2.1.2.length cq, .int .i64 y.2.2.2] 35))
  have ky := box_new (w.alloc (.cells #[.string x.1, .string x.2.1, .bool x.2.2.1.1, .slice Ap x.2.2.1.2.length cp, .int .i64 x.2.2.2] 35)) #[.string y.1, .string y.2.1, .bool y.2.2.1.1, .slice Aq y.2.2.1.2.length cq, .int .i64 y.2.2.2] 35
  rw [show (w.alloc (.cells #[.string x.1, .string x.2.1, .bool x.2.2.1.1, .slice Ap x.2.2.1.2.length cp, .int .i64 x.2.2.2] 35)).heap.size = w.heap.size + 1 by simp] at ky
  have kx_c0 := kx.here.cell 0 _ rfl
  have kx_c1 := kx.here.cell 1 _ rfl
  have kx_c2 := kx.here.cell 2 _ rfl
  have kx_c3 := kx.here.cell 3 _ rfl
  have kx_c4 := kx.here.cell 4 _ rfl
  have ky_c0 := ky.here.cell 0 _ rfl
  have ky_c1 := ky.here.cell 1 _ rfl
  have ky_c2 := ky.here.cell 2 _ rfl
  have ky_c3 := ky.here.cell 3 _ rfl
  have ky_c4 := ky.here.cell 4 _ rfl
  have HE := Lib.hid (eqD_cal (.agg #[.bool x.2.2.1.1, .slice Ap x.2.2.1.2.length cp, .int .i64 x.2.2.2]) (.agg #[.bool y.2.2.1.1, .slice Aq y.2.2.1.2.length cq, .int .i64 y.2.2.2]) x.2.2 y.2.2 _ hz.2.2 (RdD.below ⟨_, rfl, hp⟩ hb) (RdD.below ⟨_, rfl, hq⟩ hb))
  have HB := Lib.hid hb
  clear kx ky hp hq hb hz
  by_cases h1 : x.1 = y.1
  · by_cases h2 : x.2.1 = y.2.1
    · have HV := Lib.hid (show decide (x = y) = decide (x.2.2 = y.2.2) from decide_eq_decide.2 ⟨fun e => by rw [e], fun e => Prod.ext h1 (Prod.ext h2 e)⟩)
      rw [← h1] at ky_c0 HE HB
      rw [← h2] at ky_c1 HE HB
      have H1 := Lib.hid h1
      have H2 := Lib.hid h2
      clear h1 h2
      go_enter Tryd.func11, Tryd.ntmps11
      rw [← H1.out, ← H2.out]
      go_wp2_with fail
      refine HE.out.mono ?_
      rintro e w1 ⟨rfl, b1⟩
      have bb1 := Lib.hid (Below.next HB.out b1)
      clear kx_c0 kx_c1 kx_c2 kx_c3 kx_c4 ky_c0 ky_c1 ky_c2 ky_c3 ky_c4 b1
      by_cases h3 : x.2.2 = y.2.2
      · rw [decide_eq_true h3] at HV ⊢
        clear h3
        go_wp2
        go_ret
        exact ⟨ret_bool HV.out.symm, bb1.out⟩
      · rw [decide_eq_false h3] at HV ⊢
        clear h3
        go_wp2
        go_ret
        exact ⟨ret_bool HV.out.symm, bb1.out⟩
    · have hne := bytes_neC h2
      have hne2 : (x.2.1.toList != y.2.1.toList) = true := by rw [bne, hne]; rfl
      have HV := Lib.hid (show decide (x = y) = false from decide_eq_false (fun e => h2 (by rw [e])))
      rw [← h1] at ky_c0 HB
      have H1 := Lib.hid h1
      clear h1 h2 HE
      go_enter Tryd.func11, Tryd.ntmps11
      rw [← H1.out]
      go_wp2
      go_ret
      exact ⟨ret_bool HV.out.symm, HB.out⟩
  · have hne := bytes_neC h1
    have hne2 : (x.1.toList != y.1.toList) = true := by rw [bne, hne]; rfl
    have HV := Lib.hid (show decide (x = y) = false from decide_eq_false (fun e => h1 (by rw [e])))
    clear h1 HE
    go_enter Tryd.func11, Tryd.ntmps11
    go_wp2
    go_ret
    exact ⟨ret_bool HV.out.symm, HB.out⟩
set_option maxHeartbeats 1000000 in
set_option maxRecDepth 100000 in
theorem szE_cal (v : Value) (x : EI) (left : Int) (w : World) (hl : capE x) (h0 : 0 ≤ left) (h1 : left ≤ 1048576) (h : RdE w v x) : Calls Tryd.prog 7 #[v, .int .i64 left] w (Postn (leftI left (szE x)) w) := by
  obtain ⟨p, rfl, hp⟩ := h
  obtain ⟨Ap, cp, rfl⟩ := row_form hp
  simp only [intsV_length] at hp ⊢
  have hb := below_al (Below.refl w.heap.size w) (.cells #[.string x.1, .string x.2.1, .bool x.2.2.1.1, .slice Ap x.2.2.1.2.length cp, .int .i64 x.2.2.2] 28)
  have kx := box_new w #[.string x.1, .string x.2.1, .bool x.2.2.1.1, .slice Ap x.2.2.1.2.length cp, .int .i64 x.2.2.2] 28
  have kx_c0 := kx.here.cell 0 _ rfl
  have kx_c1 := kx.here.cell 1 _ rfl
  have kx_c2 := kx.here.cell 2 _ rfl
  have kx_c3 := kx.here.cell 3 _ rfl
  have kx_c4 := kx.here.cell 4 _ rfl
  obtain ⟨hl1, hl2, hl3⟩ := hl
  have hd0 := szD_nonneg x.2.2
  have HSD := Lib.hid (fun (z : Int) (hz0 : 0 ≤ z) (hz1 : z ≤ 1048576) => szD_cal (.agg #[.bool x.2.2.1.1, .slice Ap x.2.2.1.2.length cp, .int .i64 x.2.2.2]) x.2.2 z _ hl3 hz0 hz1 (RdD.below ⟨_, rfl, hp⟩ hb))
  by_cases hs : left - x.1.size < 0
  · have HV := Lib.hid (show leftI left (szE x) = -1 by unfold leftI szE; rw [if_pos (by omega)])
    have hw : IntKind.i64.wrap (left - (x.1.size : Int)) = left - x.1.size := IntWalk.i64_in _ (by omega)
    have hneg : decide (left - (x.1.size : Int) < 0) = true := decide_eq_true hs
    clear hs kx HSD
    go_enter Tryd.func7, Tryd.ntmps7
    go_wp2
    go_ret
    exact ⟨ret_int HV.out.symm, hb⟩
  · obtain ⟨z0, hz0⟩ : ∃ z0 : Int, left - x.1.size = z0 := ⟨_, rfl⟩
    have hw : IntKind.i64.wrap (left - (x.1.size : Int)) = z0 := by rw [IntWalk.i64_in _ (by omega)]; exact hz0
    have hneg0 : decide (z0 < 0) = false := decide_eq_false (by omega)
    have HZ := Lib.hid (show 0 ≤ z0 ∧ z0 ≤ 1048576 by omega)
    by_cases hs2 : z0 - x.2.1.size < 0
    · have HV := Lib.hid (show leftI left (szE x) = -1 by unfold leftI szE; rw [if_pos (by omega)])
      have hw2 : IntKind.i64.wrap (z0 - (x.2.1.size : Int)) = z0 - x.2.1.size := IntWalk.i64_in _ (by omega)
      have hneg : decide (z0 - (x.2.1.size : Int) < 0) = true := decide_eq_true hs2
      clear hs hs2 hz0 kx HSD
      go_enter Tryd.func7, Tryd.ntmps7
      go_wp2
      go_ret
      exact ⟨ret_int HV.out.symm, hb⟩
    · obtain ⟨z1, hz1⟩ : ∃ z1 : Int, z0 - x.2.1.size = z1 := ⟨_, rfl⟩
      have hw2 : IntKind.i64.wrap (z0 - (x.2.1.size : Int)) = z1 := by rw [IntWalk.i64_in _ (by omega)]; exact hz1
      have hneg1 : decide (z1 < 0) = false := decide_eq_false (by omega)
      have HZ1 := Lib.hid (show 0 ≤ z1 ∧ z1 ≤ 1048576 by omega)
      have HLL := Lib.hid (show leftI left (szE x) = leftI z1 (szD x.2.2) by unfold leftI szE; rw [show left - ((x.1.size : Int) + x.2.1.size + szD x.2.2) = z1 - szD x.2.2 by omega])
      clear hs hs2 hz0 hz1
      go_enter Tryd.func7, Tryd.ntmps7
      go_wp2_with fail
      clear kx_c0 kx_c1 kx_c2 kx_c3 kx_c4 kx
      refine (HSD.out z1 HZ1.out.1 HZ1.out.2).mono ?_
      rintro e w1 ⟨rfl, b1⟩
      have bb1 := Lib.hid (Below.next hb b1)
      have hq : leftI z1 (szD x.2.2) < 0 ∧ leftI z1 (szD x.2.2) = -1 ∨ ¬ leftI z1 (szD x.2.2) < 0 := by unfold leftI; split <;> omega
      generalize leftI z1 (szD x.2.2) = z at *
      clear hp hb b1 HZ HZ1 HSD
      rcases hq with ⟨h2, h3⟩ | h2
      · have hneg : decide (z < 0) = true := decide_eq_true h2
        have H3 := Lib.hid h3
        clear h2 h3
        go_wp2
        go_ret
        exact ⟨ret_int (H3.out.symm.trans HLL.out.symm), bb1.out⟩
      · have hneg : decide (z < 0) = false := decide_eq_false h2
        clear h2
        go_wp2
        go_ret
        exact ⟨ret_int HLL.out.symm, bb1.out⟩
set_option maxHeartbeats 2000000 in
set_option maxRecDepth 100000 in
theorem toE_new (v : Value) (x : EI) (w : World) (hz : szE x ≤ 1048576) (h : RdE w v x) : Calls Tryd.prog 9 #[v] w (NewV (fun u => OwnE u x) w) := by
  have hl : szD x.2.2 ≤ 1048576 := by have := szD_nonneg x.2.2; unfold szE at hz; omega
  obtain ⟨p, rfl, hp⟩ := h
  obtain ⟨Ap, cp, rfl⟩ := row_form hp
  simp only [intsV_length] at hp ⊢
  have h3 := alloc3 w (.cells #[.string x.1, .string x.2.1, .bool x.2.2.1.1, .slice Ap x.2.2.1.2.length cp, .int .i64 x.2.2.2] 28) (.cells #[.string ⟨#[]⟩, .string ⟨#[]⟩, .bool false, .slice none 0 0, .int .i64 0] 35) (.cells #[.string x.1, .string x.2.1, .bool false, .slice none 0 0, .int .i64 0] 35)
  have hb3 := below3 w (.cells #[.string x.1, .string x.2.1, .bool x.2.2.1.1, .slice Ap x.2.2.1.2.length cp, .int .i64 x.2.2.2] 28) (.cells #[.string ⟨#[]⟩, .string ⟨#[]⟩, .bool false, .slice none 0 0, .int .i64 0] 35) (.cells #[.string x.1, .string x.2.1, .bool false, .slice none 0 0, .int .i64 0] 35)
  obtain ⟨W0, hW0⟩ : ∃ W0, W0 = (((w.alloc (.cells #[.string x.1, .string x.2.1, .bool x.2.2.1.1, .slice Ap x.2.2.1.2.length cp, .int .i64 x.2.2.2] 28)).alloc (.cells #[.string ⟨#[]⟩, .string ⟨#[]⟩, .bool false, .slice none 0 0, .int .i64 0] 35)).alloc (.cells #[.string x.1, .string x.2.1, .bool false, .slice none 0 0, .int .i64 0] 35)) := ⟨_, rfl⟩
  rw [← hW0] at h3 hb3
  have kb : At [w.heap.size] (BoxAt w.heap.size #[.string x.1, .string x.2.1, .bool x.2.2.1.1, .slice Ap x.2.2.1.2.length cp, .int .i64 x.2.2.2] 28) W0 := box_at h3.1
  have kr : At [w.heap.size + 1] (BoxAt (w.heap.size + 1) #[.string ⟨#[]⟩, .string ⟨#[]⟩, .bool false, .slice none 0 0, .int .i64 0] 35) W0 := box_at h3.2.1
  have ko : At [w.heap.size + 1 + 1] (BoxAt (w.heap.size + 1 + 1) #[.string x.1, .string x.2.1, .bool false, .slice none 0 0, .int .i64 0] 35) W0 := box_at h3.2.2.1
  have hz0 : W0.heap.size = w.heap.size + 3 := h3.2.2.2
  have HW := Lib.hid hW0
  clear h3 hW0
  have kb_c0 := kb.here.cell 0 _ rfl
  have kb_c1 := kb.here.cell 1 _ rfl
  have kb_c2 := kb.here.cell 2 _ rfl
  have kb_c3 := kb.here.cell 3 _ rfl
  have kb_c4 := kb.here.cell 4 _ rfl
  go_enter Tryd.func9, Tryd.ntmps9
  go_wp2_with fail
  rw [← HW.out]
  refine (toD_new (.agg #[.bool x.2.2.1.1, .slice Ap x.2.2.1.2.length cp, .int .i64 x.2.2.2]) x.2.2 _ hl (RdD.below ⟨_, rfl, hp⟩ hb3)).mono ?_
  rintro e w1 ⟨u, Su, rfl, o1, l1, b1⟩
  obtain ⟨Au, cu, rfl⟩ := ownD_form o1.here
  have bb1 := Below.next hb3 b1
  replace kb := kb.below b1
  replace kr := kr.below b1
  replace ko := ko.below b1
  have HR := Lib.hid (newV_chgM (φ := fun u => OwnE u x) (v := .agg #[.string x.1, .string x.2.1, .bool x.2.2.1.1, .slice Au x.2.2.1.2.length cu, .int .i64 x.2.2.2]) (T := [w.heap.size + 1, w.heap.size + 1 + 1]) (o1.imp fun _ h => (OwnE.mk (ownD_open h) : OwnE _ x _)) (fun i hi hm => by have := (l1 i hi).1; simp at hm; omega) (fun i hi => by simp at hi; omega) (fun i hi => by have := (l1 i hi).1; omega) bb1)
  have ko_c0 := ko.here.cell 0 _ rfl
  have ko_c1 := ko.here.cell 1 _ rfl
  have ko_c2 := ko.here.cell 2 _ rfl
  have ko_c3 := ko.here.cell 3 _ rfl
  have ko_c4 := ko.here.cell 4 _ rfl
  have ko_f0 := Lib.frozen_of_heap ko.here 0
  have ko_f1 := Lib.frozen_of_heap ko.here 1
  have ko_f2 := Lib.frozen_of_heap ko.here 2
  have ko_f3 := Lib.frozen_of_heap ko.here 3
  have ko_f4 := Lib.frozen_of_heap ko.here 4
  have kr_c0 := kr.here.cell 0 _ rfl
  have kr_c1 := kr.here.cell 1 _ rfl
  have kr_c2 := kr.here.cell 2 _ rfl
  have kr_c3 := kr.here.cell 3 _ rfl
  have kr_c4 := kr.here.cell 4 _ rfl
  have kr_f0 := Lib.frozen_of_heap kr.here 0
  have kr_f1 := Lib.frozen_of_heap kr.here 1
  have kr_f2 := Lib.frozen_of_heap kr.here 2
  have kr_f3 := Lib.frozen_of_heap kr.here 3
  have kr_f4 := Lib.frozen_of_heap kr.here 4
  clear kb kr ko o1 b1 bb1 hp kb_c0 kb_c1 kb_c2 kb_c3 kb_c4
  go_wp2
  refine bodyPost_ret (v := .agg #[.string x.1, .string x.2.1, .bool x.2.2.1.1, .slice Au x.2.2.1.2.length cu, .int .i64 x.2.2.2]) (by simp [results, Tryd.results9, go_sem, kr_c0, kr_c1, kr_c2, kr_c3, kr_c4]) rfl ?_
  refine HR.out _ ?_
  repeat (first | with_reducible exact Chg.refl _ _ | with_reducible refine Chg.setCell ?_ (by simp) _)
set_option maxHeartbeats 1000000 in
set_option maxRecDepth 100000 in
theorem markE_cal (v : Value) (x : EI) (S : List Nat) (m : Int) (w : World) (hm : m + mkE x ≤ 9223372036854775807) (hm0 : 0 ≤ m) (h : At S (OwnE v x) w) :
    Calls Tryd.prog 20 #[v, .int .i64 m] w fun e w' => e = .returned (.int .i64 (m + mkE x)) ∧ At S (MarkE v x m) w' ∧ Chg S w w' := by
  obtain ⟨A, c, rfl⟩ := ownE_form h.here
  have hbx := below_al (Below.refl w.heap.size w) (.cells #[.string x.1, .string x.2.1, .bool x.2.2.1.1, .slice A x.2.2.1.2.length c, .int .i64 x.2.2.2] 35)
  have kx := box_new w #[.string x.1, .string x.2.1, .bool x.2.2.1.1, .slice A x.2.2.1.2.length c, .int .i64 x.2.2.2] 35
  have ax := (h.below hbx).imp (fun _ h => (OwnD.mk (ownE_open h) : OwnD (.agg #[.bool x.2.2.1.1, .slice A x.2.2.1.2.length c, .int .i64 x.2.2.2]) x.2.2 _))
  have kx_c0 := kx.here.cell 0 _ rfl
  have kx_c1 := kx.here.cell 1 _ rfl
  have kx_c2 := kx.here.cell 2 _ rfl
  have kx_c3 := kx.here.cell 3 _ rfl
  have kx_c4 := kx.here.cell 4 _ rfl
  have HZ := Lib.hid (show mkE x = szD x.2.2 from rfl)
  have HBX := Lib.hid hbx
  clear h kx
  go_enter Tryd.func20, Tryd.ntmps20
  go_wp2_with fail
  clear kx_c0 kx_c1 kx_c2 kx_c3 kx_c4
  refine (markD_cal _ x.2.2 S m _ hm hm0 ax).mono ?_
  rintro e w1 ⟨rfl, mu, c1⟩
  have hall := Lib.hid (mu.imp (fun _ h => (show MarkE (.agg #[.string x.1, .string x.2.1, .bool x.2.2.1.1, .slice A x.2.2.1.2.length c, .int .i64 x.2.2.2]) x m _ from by
    obtain ⟨u', e1, hu'⟩ := h
    injection e1 with e1
    have e2 : u' = .slice A x.2.2.1.2.length c := by simpa using e1.symm
    rw [e2] at hu'
    exact ⟨_, rfl, hu'⟩)))
  have hchg := Lib.hid ((Chg.of_below HBX.out).trans c1 : Chg S w w1)
  clear mu c1
  go_wp2
  go_ret
  exact ⟨ret_int (by rw [HZ.out]), hall.out, hchg.out⟩
end Go.Proofs.YtbpfabicampdkaaDoor
