/-
  JA2
-/
import Derived.Laws.AppendOwnNone
import Derived.Deep.LoopGhost
import Derived.Test.YtofehcpapdlcnabGreatDoorJE1
namespace Go.Proofs.YtofehcpapdlcnabGreatDoor
open Go.RowKit

theorem drew_three (w : World) (a b c : Nat) : ∃ q, w.drewN q = ((w.drewN a).drewN b).drewN c := ⟨a + b + c, by rw [World.drewN_drewN, World.drewN_drewN, Nat.add_assoc]⟩
/-- between two bounds -/
def inB (n lo hi : Int) : Bool := decide (lo ≤ n ∧ n ≤ hi)
set_option maxHeartbeats 400000 in
set_option maxRecDepth 100000 in
theorem specIn_any (n lo hi : Int) (b : Bool) (w : World) (hb : inB n lo hi = b) :
    Calls Tryz.prog 65 #[.int .i64 n, .int .i64 lo, .int .i64 hi] w fun e w' => e = .returned (.bool b) ∧ w = w' := by
  subst hb
  go_enter Tryz.func65, Tryz.ntmps65
  go_wp2
  all_goals go_ret
  · exact ⟨by simp [inB, *], rfl⟩
  · exact ⟨by simp [inB]; omega, rfl⟩

theorem all_upto (xs : List Int) (k : Nat) (h : (xs.take k).all digB = true) (hk : ¬ k < xs.length) : xs.all digB = true := by
  rwa [List.take_of_length_le (by omega)] at h
theorem all_succ (xs : List Int) (k : Nat) (hk : k < xs.length) (h : (xs.take k).all digB = true) (hd : digB xs[k] = true) : (xs.take (k + 1)).all digB = true := by
  rw [List.take_succ_eq_append_getElem hk, List.all_append, h]
  simp [hd]
theorem not_all (xs : List Int) (k : Nat) (hk : k < xs.length) (hd : digB xs[k] = false) : natOkB xs = false := by
  have : xs.all digB = false := by
    rw [List.all_eq_false]
    exact ⟨xs[k], List.getElem_mem hk, by simp [hd]⟩
  unfold natOkB
  rw [this]
  rfl
theorem ok_long (xs : List Int) (h : ¬ xs.length ≤ 50) : natOkB xs = false := by
  unfold natOkB
  rw [decide_eq_false h, Bool.false_and, Bool.and_false]
theorem last_at (xs : List Int) (h : xs.length - 1 < xs.length) : xs.getLastD 1 = xs[xs.length - 1] := by
  rw [List.getLastD_eq_getLast?, List.getLast?_eq_getElem?, List.getElem?_eq_getElem h]
  rfl
theorem ok_last (xs : List Int) (ha : xs.all digB = true) (hl : xs.length ≤ 50) (h : xs.length - 1 < xs.length) : (xs[xs.length - 1] != 0) = natOkB xs := by
  unfold natOkB
  rw [ha, decide_eq_true hl, Bool.true_and, Bool.true_and, last_at xs h]
  by_cases e : xs[xs.length - 1] = 0
  · rw [e]; rfl
  · rw [decide_eq_true e, bne_iff_ne]; exact e

set_option maxHeartbeats 400000 in
set_option maxRecDepth 100000 in
theorem specNatOk_any (v : Value) (xs : List Int) (lo hi : Nat) (w : World) (hl : xs.length ≤ 1048576) (hr : Row w lo hi v (intsV xs)) :
    Calls Tryz.prog 80 #[v] w fun e w' => e = .returned (.bool (natOkB xs)) ∧ w = w' := by
  obtain ⟨A, c, rfl, hA⟩ := hr
  have HA := Lib.hid hA
  rw [intsV_length]
  clear hA
  go_enter Tryz.func80, Tryz.ntmps80
  go_wp2
  go_loop [7] (fun i => ∃ k : Nat, k ≤ xs.length ∧ i = .int .i64 k ∧ Hid ((xs.take k).all digB = true)) (fun i => xs.length - (intOf i).toNat)
  case atStart => exact ⟨0, Nat.zero_le _, rfl, Lib.hid rfl⟩
  case round =>
    obtain ⟨k, hk, rfl, HD⟩ := hrel
    by_cases hlt : k < xs.length
    · obtain ⟨a, rfl, _, _, hca⟩ := HA.out k _ (intsV_at xs k hlt)
      by_cases hd : digB xs[k] = true
      · have HS := Lib.hid (all_succ xs k hlt HD.out hd)
        go_wp2_with (go_at_call 65; refine (specIn_any _ _ _ true _ hd).mono ?_; rintro e w' ⟨rfl, rfl⟩)
        go_round
        case rel => exact ⟨k + 1, by omega, by go_num, HS⟩
        case measure => simp [intOf]; omega
      · have hd' : digB xs[k] = false := by simpa using hd
        have HN := Lib.hid (not_all xs k hlt hd')
        go_wp2_with (go_at_call 65; refine (specIn_any _ _ _ false _ hd').mono ?_; rintro e w' ⟨rfl, rfl⟩)
        go_ret
        exact ⟨ret_bool HN.out.symm, rfl⟩
    · have HF := Lib.hid (all_upto xs k HD.out hlt)
      by_cases h50 : xs.length ≤ 50
      · by_cases h0 : xs.length = 0
        · have hz : ((xs.length : Int) == 0) = true := by simp [h0]
          obtain rfl : xs = [] := List.eq_nil_of_length_eq_zero h0
          clear h0
          go_wp2
          go_ret
          exact ⟨rfl, rfl⟩
        · have hz : ((xs.length : Int) == 0) = false := by rw [beq_eq_false_iff_ne]; omega
          have hlt2 : xs.length - 1 < xs.length := by omega
          obtain ⟨a, rfl, _, _, hca⟩ := HA.out (xs.length - 1) _ (intsV_at xs (xs.length - 1) hlt2)
          have HL := Lib.hid (ok_last xs HF.out h50 hlt2)
          clear h0
          go_wp2
          go_ret
          exact ⟨ret_bool HL.out, rfl⟩
      · have HN := Lib.hid (ok_long xs h50)
        go_wp2
        go_ret
        exact ⟨ret_bool HN.out.symm, rfl⟩

theorem cmp_lt {x y : Int} (h : x < y) : cmpI x y = -1 := by unfold cmpI; rw [if_pos h]
theorem cmp_gt {x y : Int} (h : y < x) : cmpI x y = 1 := by unfold cmpI; rw [if_neg (by omega), if_pos h]
theorem cmp_eq {x y : Int} (h : x = y) : cmpI x y = 0 := by unfold cmpI; rw [if_neg (by omega), if_neg (by omega)]
theorem drop_same (a b : List Int) (k : Nat) (ha : k < a.length) (hb : k < b.length) (h : a.drop (k + 1) = b.drop (k + 1)) (e : a[k] = b[k]) : a.drop k = b.drop k := by
  rw [List.drop_eq_getElem_cons ha, List.drop_eq_getElem_cons hb, h, e]

set_option maxHeartbeats 1000000 in
set_option maxRecDepth 100000 in
theorem specCmp_any (va vb : Value) (a b : List Int) (la ha lb hb : Nat) (w : World) (hal : a.length ≤ 1048576) (_hbl : b.length ≤ 1048576) (oa : DigN a ∧ a.getLastD 1 ≠ 0) (ob : DigN b ∧ b.getLastD 1 ≠ 0)
    (hra : Row w la ha va (intsV a)) (hrb : Row w lb hb vb (intsV b)) :
    Calls Tryz.prog 70 #[va, vb] w fun e w' => e = .returned (.int .i64 (cmpI (nval a) (nval b))) ∧ ∃ q, w.drewN q = w' := by
  obtain ⟨A, c, rfl, hA⟩ := hra
  obtain ⟨B, d, rfl, hB⟩ := hrb
  rw [intsV_length, intsV_length]
  have HA := Lib.hid hA
  have HB := Lib.hid hB
  have OA := Lib.hid oa
  have OB := Lib.hid ob
  clear hA hB oa ob
  by_cases hlen : a.length = b.length
  · have HL := Lib.hid hlen
    have hbe : ((a.length : Int) != (b.length : Int)) = false := by simp [hlen]
    clear hlen
    go_enter Tryz.func70, Tryz.ntmps70
    go_wp2
    go_loopw [5] (fun i wr => ∃ k q : Nat, k ≤ a.length ∧ i = .int .i64 ((k : Int) - 1) ∧ wr = w.drewN q ∧ Hid (a.drop k = b.drop k)) (fun i _ => (intOf i + 1).toNat)
    case atStart => exact ⟨a.length, 0, Nat.le_refl _, rfl, rfl, Lib.hid (by rw [List.drop_of_length_le (Nat.le_refl _), List.drop_of_length_le (by have := HL.out; omega)])⟩
    case round =>
      obtain ⟨k, q, hk, rfl, rfl, HT⟩ := hrel
      by_cases hz : 0 < k
      · obtain ⟨m, rfl⟩ : ∃ m, k = m + 1 := ⟨k - 1, by omega⟩
        have hlt : m < a.length := by omega
        have hlt2 : m < b.length := by have := HL.out; omega
        obtain ⟨p, rfl, _, _, hca⟩ := HA.out m _ (intsV_at a m hlt)
        obtain ⟨r, rfl, _, _, hcb⟩ := HB.out m _ (intsV_at b m hlt2)
        have hm1 : ((m + 1 : Nat) : Int) - 1 = (m : Int) := by omega
        rw [hm1]
        clear hm1 hz
        by_cases h1 : a[m] < b[m]
        · have HV := Lib.hid (nval_lt_down a b OA.out.1 OB.out.1 HL.out m (by rw [nval_drop a m hlt, nval_drop b m hlt2, HT.out]; omega))
          go_wp2
          go_quiet (fail)
          go_wp2
          go_ret
          exact ⟨ret_int (cmp_lt HV.out).symm, _, (World.drewN_drewN _ _ _).symm⟩
        · by_cases h2 : b[m] < a[m]
          · have HV := Lib.hid (nval_lt_down b a OB.out.1 OA.out.1 HL.out.symm m (by rw [nval_drop a m hlt, nval_drop b m hlt2, HT.out]; omega))
            go_wp2
            go_quiet (fail)
            go_wp2
            go_quiet (fail)
            go_wp2
            go_ret
            exact ⟨ret_int (cmp_gt HV.out).symm, drew_three _ _ _ _⟩
          · have HS := Lib.hid (drop_same a b m hlt hlt2 HT.out (by omega))
            go_wp2
            go_quiet (fail)
            go_wp2
            go_quiet (fail)
            go_wp2
            go_roundw
            case rel => exact ⟨m, _, by omega, rfl, rfl, HS⟩
            case measure => simp [intOf]
      · obtain rfl : k = 0 := by omega
        go_wp2
        go_ret
        exact ⟨ret_int (cmp_eq (by have := HT.out; rw [List.drop_zero, List.drop_zero] at this; rw [this])).symm, q, rfl⟩
  · have hbe : ((a.length : Int) != (b.length : Int)) = true := by simp; omega
    by_cases hs : a.length < b.length
    · have HV := Lib.hid (nval_short a b OA.out.1 OB.out.1 hs OB.out.2)
      go_enter Tryz.func70, Tryz.ntmps70
      go_wp2
      go_ret
      exact ⟨ret_int (cmp_lt HV.out).symm, 0, rfl⟩
    · have HV := Lib.hid (nval_short b a OB.out.1 OA.out.1 (by omega) OA.out.2)
      go_enter Tryz.func70, Tryz.ntmps70
      go_wp2
      go_ret
      exact ⟨ret_int (cmp_gt HV.out).symm, 0, rfl⟩

theorem ok_dig {xs : List Int} (h : natOkB xs = true) : DigN xs ∧ xs.getLastD 1 ≠ 0 := ⟨(natOk_parts h).1, (natOk_parts h).2.2⟩
/-- what NatCmp answers -/
def cmpN (a b : List Int) : Int := if natOkB a = true ∧ natOkB b = true then cmpI (nval a) (nval b) else 0


/-- the first k of a row that the call owns -/
theorem own_take {w : World} {base n : Nat} {e : TypeId} {A : Option Addr} {c : Nat} {xs : List Value} (k : Nat) (hk : k ≤ n) (h : w.ownsRow base e 1 (.slice A n c) n xs) : w.ownsRow base e 1 (.slice A k c) k (xs.take k) := by
  obtain ⟨hl, ⟨h1, h2⟩ | ⟨g, cap, cur, e1, hb, hh, hn, hc, hs, ht⟩⟩ := h
  · cases h1
    obtain rfl : k = 0 := by omega
    exact ⟨by simp, .inl ⟨rfl, rfl⟩⟩
  · obtain ⟨rfl, rfl⟩ : A = some ⟨g, 0, none⟩ ∧ cap = c := by cases e1; exact ⟨rfl, rfl⟩
    refine ⟨by rw [List.length_take]; omega, .inr ⟨g, cap, cur, rfl, hb, hh, by omega, hc, hs, ?_⟩⟩
    rw [← ht, List.take_take]
    congr 1
    omega
theorem intsV_take (xs : List Int) (k : Nat) : (intsV xs).take k = intsV (xs.take k) := by simp [intsV, List.map_take]

/-- the first elements of an own row of ints, handed back -/
def OwnPost (base : Nat) (ys : List Int) (w : World) (e : Ending) (w' : World) : Prop :=
  w = w' ∧ ∃ v, e = .returned v ∧ w.ownsRow base 3 1 v ys.length (intsV ys)

/-- the first elements of an own row of ints, told by its address -/
def TrimPost (A : Option Addr) (c base : Nat) (ys : List Int) (w : World) (e : Ending) (w' : World) : Prop :=
  w = w' ∧ e = .returned (.slice A ys.length c) ∧ w.ownsRow base 3 1 (.slice A ys.length c) ys.length (intsV ys)
set_option maxHeartbeats 400000 in
set_option maxRecDepth 100000 in
theorem specTrim_at (A : Option Addr) (c : Nat) (xs : List Int) (base : Nat) (w : World) (hl : xs.length ≤ 1048576) (ho : w.ownsRow base 3 1 (.slice A xs.length c) xs.length (intsV xs)) :
    Calls Tryz.prog 107 #[.slice A xs.length c] w (TrimPost A c base (trimL xs) w) := by
  have hA : ∀ j u, (intsV xs)[j]? = some u → ∃ a : Addr, A = some a ∧ base ≤ a.block ∧ a.block < w.heap.size ∧ w.cell? (a.add j) = some u := by
    obtain ⟨A', c', e1, hA⟩ := Row.of_own ho
    injection e1 with e1 e2 e3
    subst e1
    exact hA
  have HA := Lib.hid hA
  have HO := Lib.hid ho
  have hcap : xs.length ≤ c := by
    rcases ho.2 with ⟨h1, h2⟩ | ⟨g, cap, cur, e1, _, _, hn, _⟩
    · omega
    · injection e1 with _ _ e3; omega
  clear hA ho
  go_enter Tryz.func107, Tryz.ntmps107
  go_wp2
  go_loop [3] (fun n => ∃ k : Nat, k ≤ xs.length ∧ n = .int .i64 k ∧ Hid (∀ j (h : j < xs.length), k ≤ j → xs[j] = 0)) (fun n => (intOf n).toNat)
  case atStart => exact ⟨xs.length, Nat.le_refl _, rfl, Lib.hid (fun j h hj => absurd h (by omega))⟩
  case round =>
    obtain ⟨k, hk, rfl, HZ⟩ := hrel
    by_cases h0 : 0 < k
    · obtain ⟨m, rfl⟩ : ∃ m, k = m + 1 := ⟨k - 1, by omega⟩
      have hlt : m < xs.length := by omega
      obtain ⟨a, rfl, _, _, hca⟩ := HA.out m _ (intsV_at xs m hlt)
      by_cases hz : xs[m] = 0
      · have hzb : (xs[m] == 0) = true := by rw [beq_iff_eq]; exact hz
        have HN : Hid (∀ j (h : j < xs.length), m ≤ j → xs[j] = 0) := Lib.hid (fun j h hj => by
          by_cases e : j = m
          · subst e; exact hz
          · exact HZ.out j h (by omega))
        clear hz
        go_wp2
        go_round
        case rel => exact ⟨m, by omega, rfl, HN⟩
        case measure => simp [intOf]
      · have hzb : (xs[m] == 0) = false := by rw [beq_eq_false_iff_ne]; exact hz
        have HT := Lib.hid (trim_prefix xs (m + 1) hk HZ.out (fun _ _ => hz))
        clear hz
        go_wp2
        go_ret
        refine ⟨rfl, ?_⟩
        rw [HT.out, ← intsV_take, List.length_take, show min (m + 1) xs.length = m + 1 from by omega]
        exact ⟨rfl, own_take (m + 1) hk HO.out⟩
    · obtain rfl : k = 0 := by omega
      have HT := Lib.hid (trim_prefix xs 0 hk HZ.out (fun _ h => absurd h (by omega)))
      go_wp2
      go_ret
      refine ⟨rfl, ?_⟩
      rw [HT.out, ← intsV_take, List.length_take, Nat.zero_min]
      exact ⟨rfl, own_take 0 hk HO.out⟩
theorem specTrim_any (v : Value) (xs : List Int) (base : Nat) (w : World) (hl : xs.length ≤ 1048576) (ho : w.ownsRow base 3 1 v xs.length (intsV xs)) :
    Calls Tryz.prog 107 #[v] w (OwnPost base (trimL xs) w) := by
  obtain ⟨A, c, rfl⟩ := own_len ho
  refine (specTrim_at A c xs base w hl ho).mono ?_
  rintro e w' ⟨rfl, rfl, h⟩
  exact ⟨rfl, _, rfl, h⟩

theorem trimL_length (xs : List Int) : (trimL xs).length ≤ xs.length := by
  induction xs with
  | nil => exact Nat.le_refl _
  | cons d r ih =>
    unfold trimL
    split
    · simp
    · simp; omega
set_option maxHeartbeats 400000 in
set_option maxRecDepth 100000 in
theorem specCap_any (v : Value) (xs : List Int) (base : Nat) (w : World) (hl : xs.length ≤ 1048576) (ho : w.ownsRow base 3 1 v xs.length (intsV xs)) :
    Calls Tryz.prog 115 #[v] w (OwnPost base (capL (trimL xs)) w) := by
  have hlt := trimL_length xs
  by_cases h50 : 50 < (trimL xs).length
  · have HC := Lib.hid (show capL (trimL xs) = [] by unfold capL; rw [if_pos h50])
    go_enter Tryz.func115, Tryz.ntmps115
    go_wp2_with fail
    refine (specTrim_any v xs base _ hl ho).mono ?_
    rintro e w' ⟨rfl, v', rfl, ho'⟩
    obtain ⟨A, c, rfl⟩ := own_len ho'
    go_wp2
    go_ret
    exact ⟨rfl, _, rfl, by rw [HC.out]; exact ⟨rfl, .inl ⟨rfl, rfl⟩⟩⟩
  · have HC := Lib.hid (show capL (trimL xs) = trimL xs by unfold capL; rw [if_neg h50])
    go_enter Tryz.func115, Tryz.ntmps115
    go_wp2_with fail
    refine (specTrim_any v xs base _ hl ho).mono ?_
    rintro e w' ⟨rfl, v', rfl, ho'⟩
    obtain ⟨A, c, rfl⟩ := own_len ho'
    go_wp2
    go_ret
    exact ⟨rfl, _, rfl, by rw [HC.out]; exact ho'⟩

/-! ### l02Add -/
theorem addL_both (a b : List Int) (i : Nat) (c : Int) (h1 : i < a.length) (h2 : i < b.length) : addL (a.drop i) (b.drop i) c = (c + a[i] + b[i]) % 1000000000 :: addL (a.drop (i + 1)) (b.drop (i + 1)) ((c + a[i] + b[i]) / 1000000000) := by
  rw [List.drop_eq_getElem_cons h1, List.drop_eq_getElem_cons h2, addL]
theorem addL_left (a b : List Int) (i : Nat) (c : Int) (h1 : i < a.length) (h2 : ¬ i < b.length) : addL (a.drop i) (b.drop i) c = (c + a[i]) % 1000000000 :: addL (a.drop (i + 1)) (b.drop (i + 1)) ((c + a[i]) / 1000000000) := by
  rw [List.drop_eq_getElem_cons h1, List.drop_of_length_le (l := b) (by omega), List.drop_of_length_le (l := b) (by omega), addL]
theorem addL_right (a b : List Int) (i : Nat) (c : Int) (h1 : ¬ i < a.length) (h2 : i < b.length) : addL (a.drop i) (b.drop i) c = (c + b[i]) % 1000000000 :: addL (a.drop (i + 1)) (b.drop (i + 1)) ((c + b[i]) / 1000000000) := by
  rw [List.drop_eq_getElem_cons h2, List.drop_of_length_le (l := a) (by omega), List.drop_of_length_le (l := a) (by omega), addL]
theorem addL_end (a b : List Int) (i : Nat) (c : Int) (h1 : ¬ i < a.length) (h2 : ¬ i < b.length) : addL (a.drop i) (b.drop i) c = if 0 < c then [c] else [] := by
  rw [List.drop_of_length_le (by omega), List.drop_of_length_le (by omega), addL]

/-- what the loop of l02Add knows at its head -/
def AddRel (a b : List Int) (w : World) (v c i : Value) (wr : World) : Prop :=
  ∃ (k : Nat) (cr : Int) (out : List Int), k ≤ a.length + b.length + 1 ∧ i = .int .i64 k ∧ c = .int .i64 cr ∧ 0 ≤ cr ∧ cr ≤ 1 ∧ out.length = k ∧ out ++ addL (a.drop k) (b.drop k) cr = addL a b 0 ∧
    wr.ownsRow w.heap.size 3 1 v out.length (intsV out) ∧ Below w.heap.size w wr
theorem add_step {a b out : List Int} {w w1 : World} {v1 : Value} {k : Nat} {n : Int} (hk : k + 1 ≤ a.length + b.length + 1) (h0 : 0 ≤ n / 1000000000) (h1 : n / 1000000000 ≤ 1) (hl : out.length = k) (e : out ++ n % 1000000000 :: addL (a.drop (k + 1)) (b.drop (k + 1)) (n / 1000000000) = addL a b 0)
    (ho : w1.ownsRow w.heap.size 3 1 v1 (out.length + 1) (intsV out ++ [.int .i64 (n % 1000000000)])) (hb : Below w.heap.size w w1) : AddRel a b w v1 (.int .i64 (n / 1000000000)) (.int .i64 ((k : Int) + 1)) w1 := by
  refine ⟨k + 1, n / 1000000000, out ++ [n % 1000000000], hk, by go_num, rfl, h0, h1, by simp [hl], by rw [List.append_assoc]; exact e, ?_, hb⟩
  simpa [intsV] using ho

set_option maxHeartbeats 2000000 in
set_option maxRecDepth 100000 in
theorem specAdd_any (va vb : Value) (a b : List Int) (la ha lb hb : Nat) (w : World) (hal : a.length ≤ 524288) (hbl : b.length ≤ 524288) (hha : ha ≤ w.heap.size) (hhb : hb ≤ w.heap.size) (oa : DigN a) (ob : DigN b)
    (hra : Row w la ha va (intsV a)) (hrb : Row w lb hb vb (intsV b)) :
    Calls Tryz.prog 112 #[va, vb] w (NewInts (addL a b 0) w) := by
  obtain ⟨i0, hi, hz0, hz1, hz2⟩ := info_parts intInfo
  obtain ⟨A, c, rfl, hA⟩ := hra
  obtain ⟨B, d, rfl, hB⟩ := hrb
  rw [intsV_length, intsV_length]
  have HA := Lib.hid hA
  have HB := Lib.hid hB
  have OA := Lib.hid oa
  have OB := Lib.hid ob
  clear hA hB oa ob
  go_enter Tryz.func112, Tryz.ntmps112
  go_wp2
  go_loopw [5, 6, 7] (fun v cr i wr => AddRel a b w v cr i wr) (fun _ cr i _ => 2 * (a.length + b.length + 1 - (intOf i).toNat) + (intOf cr).toNat)
  case atStart => exact ⟨0, 0, [], Nat.zero_le _, rfl, rfl, by omega, by omega, rfl, rfl, ⟨rfl, .inr ⟨w.heap.size, 0, #[], rfl, Nat.le_refl _, heap_alloc_new w _, Nat.le_refl _, Nat.zero_le _, rfl, rfl⟩⟩, (Below.refl _ _).alloc (Nat.le_refl _) _⟩
  case round =>
    obtain ⟨k, cr, out, hk, rfl, rfl, hc0, hc1, hol, hev, hown, hb1⟩ := hrel
    have HE := Lib.hid hev
    have HOL := Lib.hid hol
    have holk : out.length ≤ a.length + b.length + 1 := by omega
    clear hev hol
    by_cases h1 : k < a.length
    · obtain ⟨p, rfl, _, hpb, hca⟩ := HA.out k _ (intsV_at a k h1)
      have hca' : wr.cell? (p.add k) = some (.int .i64 a[k]) := (hb1.cell (by rw [block_add]; omega)).trans hca
      have hda := OA.out.at_ k h1
      clear hca
      by_cases h2 : k < b.length
      · obtain ⟨r, rfl, _, hrb, hcb⟩ := HB.out k _ (intsV_at b k h2)
        have hcb' : wr.cell? (r.add k) = some (.int .i64 b[k]) := (hb1.cell (by rw [block_add]; omega)).trans hcb
        have hdb := OB.out.at_ k h2
        clear hcb
        have HS := Lib.hid (addL_both a b k cr h1 h2)
        go_wp2_with (at_builtin; refine wpList_append_own _ rfl (.tmp 47) (.tmp 50) 22 rfl w.heap.size 3 i0 (.int .i64 0) 1 8 Tryz.underlying22 hi hz0 hz1 hz2 rfl (by decide) _ _ _ rfl (own_alloc hown _) ⟨wr.heap.size, 0, none⟩ 1 1 [.int .i64 ((cr + a[k] + b[k]) % 1000000000)] rfl rfl (one_new _ _ _) ?c2 ?c3 ?c4 ?c5 ?_)
        case c2 => intro u hu; simp at hu; subst hu; rfl
        case c3 => unfold maxLen; omega
        case c4 => omega
        case c5 => have := hb1.size; simp; omega
        intro v1 w1 hown1 hg1 _
        have hb2 := below_push hb1 (Nat.le_refl _) hown hg1
        go_wp2
        exact ⟨add_step (by omega) (by omega) (by omega) HOL.out (by rw [← HS.out]; exact HE.out) hown1 hb2, by simp [intOf]; omega⟩
      · have HS := Lib.hid (addL_left a b k cr h1 h2)
        go_wp2_with (at_builtin; refine wpList_append_own _ rfl (.tmp 47) (.tmp 50) 22 rfl w.heap.size 3 i0 (.int .i64 0) 1 8 Tryz.underlying22 hi hz0 hz1 hz2 rfl (by decide) _ _ _ rfl (own_alloc hown _) ⟨wr.heap.size, 0, none⟩ 1 1 [.int .i64 ((cr + a[k]) % 1000000000)] rfl rfl (one_new _ _ _) ?c2 ?c3 ?c4 ?c5 ?_)
        case c2 => intro u hu; simp at hu; subst hu; rfl
        case c3 => unfold maxLen; omega
        case c4 => omega
        case c5 => have := hb1.size; simp; omega
        intro v1 w1 hown1 hg1 _
        have hb2 := below_push hb1 (Nat.le_refl _) hown hg1
        go_wp2
        exact ⟨add_step (by omega) (by omega) (by omega) HOL.out (by rw [← HS.out]; exact HE.out) hown1 hb2, by simp [intOf]; omega⟩
    · by_cases h2 : k < b.length
      · obtain ⟨r, rfl, _, hrb, hcb⟩ := HB.out k _ (intsV_at b k h2)
        have hcb' : wr.cell? (r.add k) = some (.int .i64 b[k]) := (hb1.cell (by rw [block_add]; omega)).trans hcb
        have hdb := OB.out.at_ k h2
        clear hcb
        have HS := Lib.hid (addL_right a b k cr h1 h2)
        go_wp2_with (at_builtin; refine wpList_append_own _ rfl (.tmp 47) (.tmp 50) 22 rfl w.heap.size 3 i0 (.int .i64 0) 1 8 Tryz.underlying22 hi hz0 hz1 hz2 rfl (by decide) _ _ _ rfl (own_alloc hown _) ⟨wr.heap.size, 0, none⟩ 1 1 [.int .i64 ((cr + b[k]) % 1000000000)] rfl rfl (one_new _ _ _) ?c2 ?c3 ?c4 ?c5 ?_)
        case c2 => intro u hu; simp at hu; subst hu; rfl
        case c3 => unfold maxLen; omega
        case c4 => omega
        case c5 => have := hb1.size; simp; omega
        intro v1 w1 hown1 hg1 _
        have hb2 := below_push hb1 (Nat.le_refl _) hown hg1
        go_wp2
        exact ⟨add_step (by omega) (by omega) (by omega) HOL.out (by rw [← HS.out]; exact HE.out) hown1 hb2, by simp [intOf]; omega⟩
      · have HS := Lib.hid (addL_end a b k cr h1 h2)
        by_cases h3 : 0 < cr
        · have hkl : k + 1 ≤ a.length + b.length + 1 := by
            have e1 := HE.out
            rw [HS.out, if_pos h3] at e1
            have e2 := congrArg List.length e1
            have e3 := (addL_val a b 0 OA.out OB.out (by omega) (by omega)).2.2
            rw [List.length_append, HOL.out] at e2
            simp at e2
            omega
          have HS2 : Hid (addL (a.drop k) (b.drop k) cr = cr % 1000000000 :: addL (a.drop (k + 1)) (b.drop (k + 1)) (cr / 1000000000)) := Lib.hid (by
            rw [HS.out, if_pos h3, addL_end a b (k + 1) _ (by omega) (by omega), if_neg (by omega), show cr % 1000000000 = cr from by omega])
          go_wp2_with (at_builtin; refine wpList_append_own _ rfl (.tmp 47) (.tmp 50) 22 rfl w.heap.size 3 i0 (.int .i64 0) 1 8 Tryz.underlying22 hi hz0 hz1 hz2 rfl (by decide) _ _ _ rfl (own_alloc hown _) ⟨wr.heap.size, 0, none⟩ 1 1 [.int .i64 ((cr) % 1000000000)] rfl rfl (one_new _ _ _) ?c2 ?c3 ?c4 ?c5 ?_)
          case c2 => intro u hu; simp at hu; subst hu; rfl
          case c3 => unfold maxLen; omega
          case c4 => omega
          case c5 => have := hb1.size; simp; omega
          intro v1 w1 hown1 hg1 _
          have hb2 := below_push hb1 (Nat.le_refl _) hown hg1
          go_wp2
          exact ⟨add_step (by omega) (by omega) (by omega) HOL.out (by rw [← HS2.out]; exact HE.out) hown1 hb2, by simp [intOf]; omega⟩
        · have HF : Hid (out = addL a b 0) := Lib.hid (by have e1 := HE.out; rwa [HS.out, if_neg h3, List.append_nil] at e1)
          go_wp2
          go_ret
          exact ⟨_, rfl, by rw [← HF.out]; exact hown, hb1⟩
end Go.Proofs.YtofehcpapdlcnabGreatDoor

namespace Go.Proofs.YtofehcpapdlcnabGreatDoor
open Go.RowKit

/-- what NatAdd, NatSub and NatMul answer -/
def addN (a b : List Int) : List Int := if natOkB a = true ∧ natOkB b = true then natRes (nval a + nval b) else []
def mulN (a b : List Int) : List Int := if natOkB a = true ∧ natOkB b = true then natRes (nval a * nval b) else []
theorem nil_own {w : World} {base : Nat} {e : TypeId} : w.ownsRow base e 1 (.slice none 0 0) 0 [] := ⟨rfl, .inl ⟨rfl, rfl⟩⟩
theorem new_nil {w w' : World} (hb : Below w.heap.size w w') : NewInts [] w (.returned (.slice none 0 0)) w' := ⟨_, rfl, nil_own, hb⟩
/-! ### l02Sub -/
theorem subL_drop (a b : List Int) (i : Nat) (c : Int) (h1 : i < a.length) : subL (a.drop i) (b.drop i) c = if a[i] - c - b.getD i 0 < 0 then (a[i] - c - b.getD i 0 + 1000000000) :: subL (a.drop (i + 1)) (b.drop (i + 1)) 1 else (a[i] - c - b.getD i 0) :: subL (a.drop (i + 1)) (b.drop (i + 1)) 0 := by
  have hh : (b.drop i).headD 0 = b.getD i 0 := by
    rw [List.headD_eq_head?_getD, List.head?_drop, List.getD_eq_getElem?_getD]
  have ht : (b.drop i).tail = b.drop (i + 1) := by rw [List.tail_drop]
  rw [List.drop_eq_getElem_cons h1, subL, hh, ht]
theorem getD_in (b : List Int) (i : Nat) (h : i < b.length) : b.getD i 0 = b[i] := by
  rw [List.getD_eq_getElem?_getD, List.getElem?_eq_getElem h]
  rfl
theorem getD_out (b : List Int) (i : Nat) (h : ¬ i < b.length) : b.getD i 0 = 0 := by
  rw [List.getD_eq_getElem?_getD, List.getElem?_eq_none (by omega)]
  rfl
/-- what the loop of l02Sub knows at its head -/
def SubRel (a b : List Int) (w : World) (v c i : Value) (wr : World) : Prop :=
  ∃ (k : Nat) (cr : Int) (out : List Int), k ≤ a.length ∧ i = .int .i64 k ∧ c = .int .i64 cr ∧ 0 ≤ cr ∧ cr ≤ 1 ∧ out.length = k ∧ out ++ subL (a.drop k) (b.drop k) cr = subL a b 0 ∧
    wr.ownsRow w.heap.size 3 1 v out.length (intsV out) ∧ Below w.heap.size w wr
theorem sub_step {a b out : List Int} {w w1 : World} {v1 : Value} {k : Nat} {n c : Int} (hk : k + 1 ≤ a.length) (h0 : 0 ≤ c) (h1 : c ≤ 1) (hl : out.length = k) (e : out ++ n :: subL (a.drop (k + 1)) (b.drop (k + 1)) c = subL a b 0)
    (ho : w1.ownsRow w.heap.size 3 1 v1 (out.length + 1) (intsV out ++ [.int .i64 n])) (hb : Below w.heap.size w w1) : SubRel a b w v1 (.int .i64 c) (.int .i64 ((k : Int) + 1)) w1 := by
  refine ⟨k + 1, c, out ++ [n], hk, by go_num, rfl, h0, h1, by simp [hl], by rw [List.append_assoc]; exact e, ?_, hb⟩
  simpa [intsV] using ho

set_option maxHeartbeats 2000000 in
set_option maxRecDepth 100000 in
theorem specSub_any (va vb : Value) (a b : List Int) (la ha lb hb : Nat) (w : World) (hal : a.length ≤ 1048576) (hbl : b.length ≤ 1048576) (hha : ha ≤ w.heap.size) (hhb : hb ≤ w.heap.size) (oa : DigN a) (ob : DigN b)
    (hra : Row w la ha va (intsV a)) (hrb : Row w lb hb vb (intsV b)) (hsl : (subL a b 0).length = a.length) :
    Calls Tryz.prog 116 #[va, vb] w (NewInts (trimL (subL a b 0)) w) := by
  obtain ⟨i0, hi, hz0, hz1, hz2⟩ := info_parts intInfo
  obtain ⟨A, c, rfl, hA⟩ := hra
  obtain ⟨B, d, rfl, hB⟩ := hrb
  rw [intsV_length, intsV_length]
  have HA := Lib.hid hA
  have HB := Lib.hid hB
  have OA := Lib.hid oa
  have OB := Lib.hid ob
  have HSL := Lib.hid hsl
  clear hA hB oa ob hsl
  go_enter Tryz.func116, Tryz.ntmps116
  go_wp2
  go_loopw [5, 6, 12] (fun v cr i wr => SubRel a b w v cr i wr) (fun _ _ i _ => a.length - (intOf i).toNat)
  case atStart => exact ⟨0, 0, [], Nat.zero_le _, rfl, rfl, by omega, by omega, rfl, rfl, ⟨rfl, .inr ⟨w.heap.size, 0, #[], rfl, Nat.le_refl _, heap_alloc_new w _, Nat.le_refl _, Nat.zero_le _, rfl, rfl⟩⟩, (Below.refl _ _).alloc (Nat.le_refl _) _⟩
  case round =>
    obtain ⟨k, cr, out, hk, rfl, rfl, hc0, hc1, hol, hev, hown, hb1⟩ := hrel
    have HE := Lib.hid hev
    have HOL := Lib.hid hol
    have holk : out.length ≤ a.length := by omega
    clear hev hol
    by_cases h1 : k < a.length
    · obtain ⟨p, rfl, _, hpb, hca⟩ := HA.out k _ (intsV_at a k h1)
      have hca' : wr.cell? (p.add k) = some (.int .i64 a[k]) := (hb1.cell (by rw [block_add]; omega)).trans hca
      have hda := OA.out.at_ k h1
      clear hca
      have HS := Lib.hid (subL_drop a b k cr h1)
      by_cases h2 : k < b.length
      · obtain ⟨r, rfl, _, hrb, hcb⟩ := HB.out k _ (intsV_at b k h2)
        have hcb' : wr.cell? (r.add k) = some (.int .i64 b[k]) := (hb1.cell (by rw [block_add]; omega)).trans hcb
        have hdb := OB.out.at_ k h2
        clear hcb
        have HG := Lib.hid (getD_in b k h2)
        by_cases h3 : a[k] - cr - b[k] < 0
        · have HS2 : Hid (subL (a.drop k) (b.drop k) cr = (a[k] - cr - b[k] + 1000000000) :: subL (a.drop (k + 1)) (b.drop (k + 1)) 1) := Lib.hid (by rw [HS.out, HG.out, if_pos h3])
          go_wp2_with (at_builtin; refine wpList_append_own _ rfl (.tmp 35) (.tmp 37) 22 rfl w.heap.size 3 i0 (.int .i64 0) 1 8 Tryz.underlying22 hi hz0 hz1 hz2 rfl (by decide) _ _ _ rfl (own_alloc hown _) ⟨wr.heap.size, 0, none⟩ 1 1 [.int .i64 (a[k] - cr - b[k] + 1000000000)] rfl rfl (one_new _ _ _) ?c2 ?c3 ?c4 ?c5 ?_)
          case c2 => first | (intro u hu; simp at hu; subst hu; rfl) | rfl
          case c3 => unfold maxLen; omega
          case c4 => omega
          case c5 => have := hb1.size; simp; omega
          intro v1 w1 hown1 hg1 _
          have hb2 := below_push hb1 (Nat.le_refl _) hown hg1
          go_wp2
          exact ⟨sub_step (by omega) (by omega) (by omega) HOL.out (by rw [← HS2.out]; exact HE.out) hown1 hb2, by simp [intOf]; omega⟩
        · have HS2 : Hid (subL (a.drop k) (b.drop k) cr = (a[k] - cr - b[k]) :: subL (a.drop (k + 1)) (b.drop (k + 1)) 0) := Lib.hid (by rw [HS.out, HG.out, if_neg h3])
          go_wp2_with (at_builtin; refine wpList_append_own _ rfl (.tmp 35) (.tmp 37) 22 rfl w.heap.size 3 i0 (.int .i64 0) 1 8 Tryz.underlying22 hi hz0 hz1 hz2 rfl (by decide) _ _ _ rfl (own_alloc hown _) ⟨wr.heap.size, 0, none⟩ 1 1 [.int .i64 (a[k] - cr - b[k])] rfl rfl (one_new _ _ _) ?c2 ?c3 ?c4 ?c5 ?_)
          case c2 => first | (intro u hu; simp at hu; subst hu; rfl) | rfl
          case c3 => unfold maxLen; omega
          case c4 => omega
          case c5 => have := hb1.size; simp; omega
          intro v1 w1 hown1 hg1 _
          have hb2 := below_push hb1 (Nat.le_refl _) hown hg1
          go_wp2
          exact ⟨sub_step (by omega) (by omega) (by omega) HOL.out (by rw [← HS2.out]; exact HE.out) hown1 hb2, by simp [intOf]; omega⟩
      · have HG := Lib.hid (getD_out b k h2)
        by_cases h3 : a[k] - cr < 0
        · have HS2 : Hid (subL (a.drop k) (b.drop k) cr = (a[k] - cr + 1000000000) :: subL (a.drop (k + 1)) (b.drop (k + 1)) 1) := Lib.hid (by rw [HS.out, HG.out, if_pos (by omega), show a[k] - cr - 0 = a[k] - cr from by omega])
          go_wp2_with (at_builtin; refine wpList_append_own _ rfl (.tmp 35) (.tmp 37) 22 rfl w.heap.size 3 i0 (.int .i64 0) 1 8 Tryz.underlying22 hi hz0 hz1 hz2 rfl (by decide) _ _ _ rfl (own_alloc hown _) ⟨wr.heap.size, 0, none⟩ 1 1 [.int .i64 (a[k] - cr + 1000000000)] rfl rfl (one_new _ _ _) ?c2 ?c3 ?c4 ?c5 ?_)
          case c2 => first | (intro u hu; simp at hu; subst hu; rfl) | rfl
          case c3 => unfold maxLen; omega
          case c4 => omega
          case c5 => have := hb1.size; simp; omega
          intro v1 w1 hown1 hg1 _
          have hb2 := below_push hb1 (Nat.le_refl _) hown hg1
          go_wp2
          exact ⟨sub_step (by omega) (by omega) (by omega) HOL.out (by rw [← HS2.out]; exact HE.out) hown1 hb2, by simp [intOf]; omega⟩
        · have HS2 : Hid (subL (a.drop k) (b.drop k) cr = (a[k] - cr) :: subL (a.drop (k + 1)) (b.drop (k + 1)) 0) := Lib.hid (by rw [HS.out, HG.out, if_neg (by omega), show a[k] - cr - 0 = a[k] - cr from by omega])
          go_wp2_with (at_builtin; refine wpList_append_own _ rfl (.tmp 35) (.tmp 37) 22 rfl w.heap.size 3 i0 (.int .i64 0) 1 8 Tryz.underlying22 hi hz0 hz1 hz2 rfl (by decide) _ _ _ rfl (own_alloc hown _) ⟨wr.heap.size, 0, none⟩ 1 1 [.int .i64 (a[k] - cr)] rfl rfl (one_new _ _ _) ?c2 ?c3 ?c4 ?c5 ?_)
          case c2 => first | (intro u hu; simp at hu; subst hu; rfl) | rfl
          case c3 => unfold maxLen; omega
          case c4 => omega
          case c5 => have := hb1.size; simp; omega
          intro v1 w1 hown1 hg1 _
          have hb2 := below_push hb1 (Nat.le_refl _) hown hg1
          go_wp2
          exact ⟨sub_step (by omega) (by omega) (by omega) HOL.out (by rw [← HS2.out]; exact HE.out) hown1 hb2, by simp [intOf]; omega⟩
    · have HF : Hid (out = subL a b 0) := Lib.hid (by have e1 := HE.out; rwa [List.drop_of_length_le (l := a) (by omega), subL, List.append_nil] at e1)
      have hown2 : wr.ownsRow w.heap.size 3 1 u5 (subL a b 0).length (intsV (subL a b 0)) := by rw [← HF.out]; exact hown
      go_wp2_with fail
      refine (specTrim_any _ _ _ _ (by rw [HSL.out]; exact hal) hown2).mono ?_
      rintro e w' ⟨rfl, v2, rfl, o2⟩
      go_wp2
      go_ret
      exact ⟨v2, rfl, o2, hb1⟩

theorem len_of_le (a b : List Int) (ha : DigN a) (hb : DigN b ∧ b.getLastD 1 ≠ 0) (h : nval b ≤ nval a) : b.length ≤ a.length := by
  rcases Nat.lt_or_ge a.length b.length with hl | hl
  · have := nval_short a b ha hb.1 hl hb.2
    omega
  · exact hl
end Go.Proofs.YtofehcpapdlcnabGreatDoor

namespace Go.Proofs.YtofehcpapdlcnabGreatDoor
open Go.RowKit

/-- one row of the school method: x times b added into R -/
def rowL (x : Int) : List Int → List Int → Int → List Int
  | [], _ :: R, c => c :: R
  | [], [], _ => []
  | y :: b, r :: R, c => (r + x * y + c) % 1000000000 :: rowL x b R ((r + x * y + c) / 1000000000)
  | _ :: _, [], _ => []
/-- all rows -/
def mulL : List Int → List Int → List Int → List Int
  | [], _, R => R
  | x :: a, b, R => (rowL x b R 0).headD 0 :: mulL a b (rowL x b R 0).tail
theorem mul_bound (x y : Int) (hx0 : 0 ≤ x) (hx1 : x ≤ 999999999) (hy0 : 0 ≤ y) (hy1 : y ≤ 999999999) : 0 ≤ x * y ∧ x * y ≤ 999999998000000001 := by
  refine ⟨Int.mul_nonneg hx0 hy0, ?_⟩
  have h : x * y ≤ 999999999 * 999999999 := Int.mul_le_mul hx1 hy1 hy0 (by omega)
  omega
theorem rowL_val (x : Int) (hx0 : 0 ≤ x) (hx1 : x ≤ 999999999) : ∀ (b R : List Int) (c : Int), DigN b → DigN R → b.length < R.length → (∀ d ∈ R.drop b.length, d = 0) → 0 ≤ c → c ≤ 999999999 →
    nval (rowL x b R c) = nval R + x * nval b + c ∧ DigN (rowL x b R c) ∧ (rowL x b R c).length = R.length ∧ ∀ d ∈ (rowL x b R c).drop (b.length + 1), d = 0 := by
  intro b
  induction b with
  | nil =>
    intro R c _ hR hl hz h0 h1
    cases R with
    | nil => simp at hl
    | cons r R =>
      have hr : r = 0 := hz r (by simp)
      subst hr
      refine ⟨?_, DigN.cons h0 h1 hR.tail, rfl, fun d hd => hz d (by simp at hd ⊢; exact .inr hd)⟩
      show c + 1000000000 * nval R = (0 + 1000000000 * nval R) + x * 0 + c
      omega
  | cons y b ih =>
    intro R c hb hR hl hz h0 h1
    cases R with
    | nil => simp at hl
    | cons r R =>
      have hm := mul_bound x y hx0 hx1 hb.head.1 hb.head.2
      have hr := hR.head
      have hy := hb.head
      obtain ⟨i1, i2, i3, i4⟩ := ih R ((r + x * y + c) / 1000000000) hb.tail hR.tail (by simpa using hl) (fun d hd => hz d (by simpa using hd)) (by omega) (by omega)
      refine ⟨?_, DigN.cons (by omega) (by omega) i2, by simp [rowL, i3], fun d hd => i4 d (by simpa [rowL] using hd)⟩
      show (r + x * y + c) % 1000000000 + 1000000000 * nval (rowL x b R ((r + x * y + c) / 1000000000)) = (r + 1000000000 * nval R) + x * (y + 1000000000 * nval b) + c
      have hd : x * (y + 1000000000 * nval b) = x * y + 1000000000 * (x * nval b) := by rw [Int.mul_add, Int.mul_left_comm]
      rw [hd, i1]
      omega
theorem mulL_val (b : List Int) (hb : DigN b) : ∀ (a R : List Int), DigN a → DigN R → R.length = a.length + b.length → (∀ d ∈ R.drop b.length, d = 0) →
    nval (mulL a b R) = nval R + nval a * nval b ∧ DigN (mulL a b R) ∧ (mulL a b R).length = R.length := by
  intro a
  induction a with
  | nil =>
    intro R _ hR _ _
    refine ⟨?_, hR, rfl⟩
    show nval R = nval R + 0 * nval b
    omega
  | cons x a ih =>
    intro R ha hR hl hz
    obtain ⟨i1, i2, i3, i4⟩ := rowL_val x ha.head.1 ha.head.2 b R 0 hb hR (by simp at hl; omega) hz (by omega) (by omega)
    unfold mulL
    cases hrow : rowL x b R 0 with
    | nil => rw [hrow] at i3; simp at hl i3; omega
    | cons h T =>
      rw [hrow] at i1 i2 i3 i4
      obtain ⟨j1, j2, j3⟩ := ih T ha.tail i2.tail (by simp at i3 hl; omega) (fun d hd => i4 d (by simpa using hd))
      refine ⟨?_, DigN.cons i2.head.1 i2.head.2 j2, by simp [j3]; simpa using i3⟩
      show h + 1000000000 * nval (mulL a b T) = nval R + (x + 1000000000 * nval a) * nval b
      have hd : (x + 1000000000 * nval a) * nval b = x * nval b + 1000000000 * (nval a * nval b) := by rw [Int.add_mul, Int.mul_assoc]
      have i1' : h + 1000000000 * nval T = nval R + x * nval b + 0 := i1
      rw [hd, j1]
      omega

theorem rowL_drop (x : Int) (b O : List Int) (j m : Nat) (c : Int) (hj : j < b.length) (hm : m < O.length) : rowL x (b.drop j) (O.drop m) c = (O[m] + x * b[j] + c) % 1000000000 :: rowL x (b.drop (j + 1)) (O.drop (m + 1)) ((O[m] + x * b[j] + c) / 1000000000) := by
  rw [List.drop_eq_getElem_cons hj, List.drop_eq_getElem_cons hm, rowL]
theorem set_split (O : List Int) (m : Nat) (u : Int) (h : m < O.length) : (O.set m u).take (m + 1) = O.take m ++ [u] ∧ (O.set m u).drop (m + 1) = O.drop (m + 1) ∧ O.set m u = O.take m ++ u :: O.drop (m + 1) := by
  refine ⟨?_, ?_, List.set_eq_take_append_cons_drop .. |>.trans (by rw [if_pos h])⟩
  · rw [List.take_succ_eq_append_getElem (by simpa using h), List.take_set_of_le (Nat.le_refl _), List.getElem_set_self]
  · rw [List.drop_set_of_lt (by omega)]
theorem intsV_set (O : List Int) (m : Nat) (u : Int) : (intsV O).set m (.int .i64 u) = intsV (O.set m u) := by simp [intsV, List.map_set]
theorem DigN.setM {O : List Int} (h : DigN O) (m : Nat) (u : Int) (h0 : 0 ≤ u) (h1 : u ≤ 999999999) : DigN (O.set m u) := by
  intro d hd
  rcases List.mem_or_eq_of_mem_set hd with hd | rfl
  · exact h d hd
  · exact ⟨h0, h1⟩

theorem make_sum (m n : Nat) (hm : m ≤ 1048576) (hn : n ≤ 1048576) (W : World) :
    (Instr.makeSlice 22 (.int .i64 ((m : Int) + (n : Int))) (.int .i64 ((m : Int) + (n : Int)))).run Tryz.prog W = .ok (.slice (some ⟨W.heap.size, 0, none⟩) (m + n) (m + n)) (W.alloc (.cells (madeCells #[.int .i64 0] (m + n)) 3)) := by
  have h := make_ints (m + n) (by omega) W
  rwa [Int.natCast_add] at h

/-- what the outer loop of l02Mul knows: O is what has been written -/
def MulRel (a b : List Int) (w : World) (i : Value) (wr : World) : Prop :=
  ∃ (k : Nat) (O : List Int), k ≤ a.length ∧ i = .int .i64 k ∧ O.length = a.length + b.length ∧ DigN O ∧ O.take k ++ mulL (a.drop k) b (O.drop k) = mulL a b (List.replicate (a.length + b.length) 0) ∧
    wr.ownsRow w.heap.size 3 1 (.slice (some ⟨w.heap.size, 0, none⟩) (a.length + b.length) (a.length + b.length)) (a.length + b.length) (intsV O) ∧ Below w.heap.size w wr
theorem rowL_nil (x : Int) (O : List Int) (m : Nat) (c : Int) (h : m < O.length) : rowL x [] (O.drop m) c = c :: O.drop (m + 1) := by
  rw [List.drop_eq_getElem_cons h, rowL]
/-- what the inner loop knows: T is what the row comes to -/
def RowRel (b : List Int) (x : Int) (k n : Nat) (T : List Int) (w : World) (cr i : Value) (wr : World) : Prop :=
  ∃ (j : Nat) (c : Int) (O : List Int), j ≤ b.length ∧ i = .int .i64 j ∧ cr = .int .i64 c ∧ 0 ≤ c ∧ c ≤ 999999999 ∧ O.length = n ∧ DigN O ∧ O.take (k + j) ++ rowL x (b.drop j) (O.drop (k + j)) c = T ∧
    wr.ownsRow w.heap.size 3 1 (.slice (some ⟨w.heap.size, 0, none⟩) n n) n (intsV O) ∧ Below w.heap.size w wr
theorem mul_next (a b O T : List Int) (k : Nat) (hk : k < a.length) (hO : k < O.length) (hT : O.take k ++ rowL a[k] b (O.drop k) 0 = T) (hr : 0 < (rowL a[k] b (O.drop k) 0).length) :
    T.take (k + 1) ++ mulL (a.drop (k + 1)) b (T.drop (k + 1)) = O.take k ++ mulL (a.drop k) b (O.drop k) := by
  have hlt : (O.take k).length = k := by rw [List.length_take]; omega
  rw [List.drop_eq_getElem_cons hk, mulL]
  cases hrow : rowL a[k] b (O.drop k) 0 with
  | nil => rw [hrow] at hr; simp at hr
  | cons h R =>
    rw [hrow] at hT
    have e1 : (O.take k ++ h :: R).take (k + 1) = O.take k ++ [h] := by
      rw [List.take_append, hlt, show k + 1 - k = 1 from by omega, List.take_of_length_le (l := O.take k) (by omega)]
      rfl
    have e2 : (O.take k ++ h :: R).drop (k + 1) = R := by
      rw [List.drop_append, hlt, show k + 1 - k = 1 from by omega, List.drop_of_length_le (l := O.take k) (by omega)]
      rfl
    rw [← hT, e1, e2, List.append_assoc]
    rfl

set_option maxHeartbeats 4000000 in
set_option maxRecDepth 100000 in
theorem specMul_any (va vb : Value) (a b : List Int) (la ha lb hb : Nat) (w : World) (hal : a.length ≤ 50) (hbl : b.length ≤ 50) (ha0 : 0 < a.length) (hb0 : 0 < b.length) (hha : ha ≤ w.heap.size) (hhb : hb ≤ w.heap.size) (oa : DigN a) (ob : DigN b)
    (hra : Row w la ha va (intsV a)) (hrb : Row w lb hb vb (intsV b)) :
    Calls Tryz.prog 72 #[va, vb] w (NewInts (trimL (mulL a b (List.replicate (a.length + b.length) 0))) w) := by
  obtain ⟨A, c, rfl, hA⟩ := hra
  obtain ⟨B, d, rfl, hB⟩ := hrb
  rw [intsV_length, intsV_length]
  have HA := Lib.hid hA
  have HB := Lib.hid hB
  have OA := Lib.hid oa
  have OB := Lib.hid ob
  have hmk := make_sum a.length b.length (by omega) (by omega)
  have hza : ((a.length : Int) == 0) = false := by rw [beq_eq_false_iff_ne]; omega
  have hzb : ((b.length : Int) == 0) = false := by rw [beq_eq_false_iff_ne]; omega
  clear hA hB oa ob
  go_enter Tryz.func72, Tryz.ntmps72
  go_wp2
  go_loopw [28] (fun i wr => MulRel a b w i wr) (fun i _ => a.length - (intOf i).toNat)
  case atStart =>
    refine ⟨0, List.replicate (a.length + b.length) 0, Nat.zero_le _, rfl, by simp, fun d hd => by rw [(List.mem_replicate.1 hd).2]; omega, by simp, ?_, (Below.refl _ _).alloc (Nat.le_refl _) _⟩
    have h := World.ownsRow_lit (e := 3) (size := 1) (base := w.heap.size) w (madeCells #[.int .i64 0] (a.length + b.length)) (a.length + b.length) (Nat.le_refl _) (by unfold maxLen; omega) (by rw [size_madeCells, Nat.mul_one])
    rw [toList_madeCells_one] at h
    simpa [intsV] using h
  case round =>
    obtain ⟨k, O, hk, rfl, hOl, hOd, hev, hown, hb1⟩ := hrel
    obtain ⟨wo, rfl⟩ : ∃ wo : World, wo = wr := ⟨_, rfl⟩
    have HE := Lib.hid hev
    have HOL := Lib.hid hOl
    have HOD := Lib.hid hOd
    clear hev hOl hOd
    by_cases h1 : k < a.length
    · obtain ⟨p, rfl, _, hpb, hca⟩ := HA.out k _ (intsV_at a k h1)
      have hca' : wo.cell? (p.add k) = some (.int .i64 a[k]) := (hb1.cell (by rw [block_add]; omega)).trans hca
      have hda := OA.out.at_ k h1
      clear hca
      have hOk : k < O.length := by have := HOL.out; omega
      obtain ⟨T, HT⟩ : ∃ T, Hid (O.take k ++ rowL a[k] b (O.drop k) 0 = T) := ⟨_, Lib.hid rfl⟩
      go_wp2
      go_loopw [8, 35] (fun cr i wi => RowRel b a[k] k (a.length + b.length) T w cr i wi) (fun _ i _ => b.length - (intOf i).toNat)
      case atStart => exact ⟨0, 0, O, Nat.zero_le _, rfl, rfl, by omega, by omega, HOL.out, HOD.out, HT.out, hown, hb1⟩
      case round =>
        obtain ⟨j, cr, O1, hj, rfl, rfl, hc0, hc1, hl1, hd1, he1, hown1, hb2⟩ := hrel
        have HL1 := Lib.hid hl1
        have HD1 := Lib.hid hd1
        have HE1 := Lib.hid he1
        clear hl1 hd1 he1 hown
        have hlen1 : O1.length ≤ a.length + b.length := by have := HL1.out; omega
        by_cases h2 : j < b.length
        · obtain ⟨r, rfl, _, hrb, hcb⟩ := HB.out j _ (intsV_at b j h2)
          have hcb' : wr.cell? (r.add j) = some (.int .i64 b[j]) := (hb2.cell (by rw [block_add]; omega)).trans hcb
          have hdb := OB.out.at_ j h2
          clear hcb
          have hm : k + j < O1.length := by have := HL1.out; omega
          have hdo := HD1.out.at_ (k + j) hm
          have hmul := mul_bound a[k] b[j] hda.1 hda.2 hdb.1 hdb.2
          have hcell := hown1.cellAt (k + j) (by omega)
          rw [intsV_at O1 (k + j) hm] at hcell
          have hfr := hown1.frozenAt (k + j)
          obtain ⟨ho2, hg2⟩ := hown1.stored (k + j) (.int .i64 ((O1[k + j] + a[k] * b[j] + cr) % 1000000000))
          rw [intsV_set] at ho2
          have hb3 := hb2.grown hg2 hb2.size (fun g hg => by cases hg; exact Nat.le_refl _)
          have HS := Lib.hid (rowL_drop a[k] b O1 j (k + j) cr h2 hm)
          have HSS := Lib.hid (set_split O1 (k + j) ((O1[k + j] + a[k] * b[j] + cr) % 1000000000) hm)
          clear hown1 hg2
          go_wp2
          refine ⟨⟨j + 1, (O1[k + j] + a[k] * b[j] + cr) / 1000000000, _, by omega, by go_num, rfl, by omega, by omega, by rw [List.length_set]; exact HL1.out, HD1.out.setM (k + j) _ (by omega) (by omega), ?_, ho2, hb3⟩, by simp [intOf]; omega⟩
          rw [show k + (j + 1) = k + j + 1 from by omega, HSS.out.1, HSS.out.2.1, List.append_assoc]
          have e1 := HE1.out
          rw [HS.out] at e1
          exact e1
        · obtain rfl : j = b.length := by omega
          have hm : k + b.length < O1.length := by have := HL1.out; omega
          have hcell := hown1.cellAt (k + b.length) (by omega)
          rw [intsV_at O1 (k + b.length) hm] at hcell
          have hfr := hown1.frozenAt (k + b.length)
          obtain ⟨ho2, hg2⟩ := hown1.stored (k + b.length) (.int .i64 cr)
          rw [intsV_set] at ho2
          have hb3 := hb2.grown hg2 hb2.size (fun g hg => by cases hg; exact Nat.le_refl _)
          have HTT : Hid (O1.set (k + b.length) cr = T) := Lib.hid (by
            have e1 := HE1.out
            rw [List.drop_of_length_le (l := b) (Nat.le_refl _), rowL_nil _ _ _ _ hm] at e1
            rw [(set_split O1 (k + b.length) cr hm).2.2]
            exact e1)
          have HDT := Lib.hid (HD1.out.setM (k + b.length) cr hc0 hc1)
          have HLT : Hid ((O1.set (k + b.length) cr).length = a.length + b.length) := Lib.hid (by rw [List.length_set]; exact HL1.out)
          have HNX : Hid (T.take (k + 1) ++ mulL (a.drop (k + 1)) b (T.drop (k + 1)) = O.take k ++ mulL (a.drop k) b (O.drop k)) := Lib.hid (mul_next a b O T k h1 hOk HT.out (by
            have e1 := congrArg List.length HT.out
            have e2 := HLT.out
            rw [HTT.out] at e2
            have e3 : (O.take k).length = k := by rw [List.length_take]; omega
            rw [List.length_append, e3, e2] at e1
            omega))
          clear hown1 hg2
          go_wp2
          refine ⟨⟨k + 1, _, by omega, by go_num, HLT.out, HDT.out, ?_, ho2, hb3⟩, by simp [intOf]; omega⟩
          rw [HTT.out, HNX.out]
          exact HE.out
    · obtain rfl : k = a.length := by omega
      have HF : Hid (O = mulL a b (List.replicate (a.length + b.length) 0)) := Lib.hid (by
        have e1 := HE.out
        rwa [List.drop_of_length_le (l := a) (Nat.le_refl _), mulL, List.take_append_drop] at e1)
      have hown2 : wo.ownsRow w.heap.size 3 1 (.slice (some ⟨w.heap.size, 0, none⟩) (a.length + b.length) (a.length + b.length)) O.length (intsV O) := by rw [HOL.out]; exact hown
      have hOl : O.length ≤ 1048576 := by have := HOL.out; omega
      go_wp2_with fail
      refine (specTrim_any _ O _ _ hOl hown2).mono ?_
      rintro e w' ⟨rfl, v2, rfl, o2⟩
      go_wp2
      go_ret
      exact ⟨v2, rfl, by rw [← HF.out]; exact o2, hb1⟩

theorem limbs_zero : limbs 0 = [] := by rw [limbs, dif_pos rfl]
theorem mul_val' (a b : List Int) (ha : DigN a) (hb : DigN b) : nval (mulL a b (List.replicate (a.length + b.length) 0)) = nval a * nval b ∧ DigN (mulL a b (List.replicate (a.length + b.length) 0)) ∧ (mulL a b (List.replicate (a.length + b.length) 0)).length = a.length + b.length := by
  have hz : ∀ n, nval (List.replicate n 0) = 0 := by
    intro n
    induction n with
    | zero => rfl
    | succ n ih => rw [List.replicate_succ]; show (0 : Int) + 1000000000 * nval (List.replicate n 0) = 0; omega
  have h := mulL_val b hb a (List.replicate (a.length + b.length) 0) ha (fun d hd => by rw [(List.mem_replicate.1 hd).2]; omega) (by simp) (fun d hd => (List.mem_replicate.1 (List.mem_of_mem_drop hd)).2)
  rw [hz, List.length_replicate] at h
  exact ⟨by rw [h.1]; omega, h.2⟩
set_option maxHeartbeats 400000 in
set_option maxRecDepth 100000 in
theorem specMul_nil (va vb : Value) (a b : List Int) (la ha lb hb : Nat) (w : World) (hal : a.length ≤ 50) (hbl : b.length ≤ 50) (h0 : a.length = 0 ∨ b.length = 0)
    (hra : Row w la ha va (intsV a)) (hrb : Row w lb hb vb (intsV b)) : Calls Tryz.prog 72 #[va, vb] w (NewInts [] w) := by
  obtain ⟨A, c, rfl, _⟩ := hra
  obtain ⟨B, d, rfl, _⟩ := hrb
  rw [intsV_length, intsV_length]
  by_cases hz : a.length = 0
  · have hza : ((a.length : Int) == 0) = true := by rw [beq_iff_eq]; omega
    clear h0 hz
    go_enter Tryz.func72, Tryz.ntmps72
    go_wp2
    go_ret
    exact new_nil (Below.refl _ _)
  · have hza : ((a.length : Int) == 0) = false := by rw [beq_eq_false_iff_ne]; omega
    have hzb : ((b.length : Int) == 0) = true := by rw [beq_iff_eq]; omega
    clear h0 hz
    go_enter Tryz.func72, Tryz.ntmps72
    go_wp2
    go_ret
    exact new_nil (Below.refl _ _)

end Go.Proofs.YtofehcpapdlcnabGreatDoor

namespace Go.Proofs.YtofehcpapdlcnabGreatDoor
open Go.RowKit

theorem limbs_pos (n : Nat) (h : n ≠ 0) : limbs n = ((n % 1000000000 : Nat) : Int) :: limbs (n / 1000000000) := by rw [limbs, dif_neg h]
theorem limbs_none : limbs 0 = [] := by rw [limbs, dif_pos rfl]
theorem Row.lit (w : World) (cs : Array Value) (t : TypeId) : Row (w.alloc (.cells cs t)) w.heap.size (w.heap.size + 1) (.slice (some ⟨w.heap.size, 0, none⟩) cs.size cs.size) cs.toList := by
  refine ⟨_, _, rfl, fun j u hu => ⟨_, rfl, Nat.le_refl _, Nat.lt_succ_self _, ?_⟩⟩
  have e1 : (Addr.add ⟨w.heap.size, 0, none⟩ j) = ⟨w.heap.size, j, none⟩ := by
    unfold Addr.add
    split
    · simp_all
    · simp
  rw [e1, World.cell?_alloc_at _ _ _ _ rfl]
  simpa using hu

set_option maxHeartbeats 400000 in
set_option maxRecDepth 100000 in
theorem specNatOf_any (n : Int) (w : World) (h1 : n ≤ 9223372036854775807) :
    Calls Tryz.prog 73 #[.int .i64 n] w (NewInts (limbs n.toNat) w) := by
  obtain ⟨i0, hi, hz0, hz1, hz2⟩ := info_parts intInfo
  go_enter Tryz.func73, Tryz.ntmps73
  go_wp2
  go_loopw [0, 3] (fun a v wr => ∃ (m : Int) (out : List Int) (f : Nat), m ≤ 9223372036854775807 ∧ out.length + f ≤ 3 ∧ m < 1000000000 ^ f ∧ a = .int .i64 m ∧ Hid (out ++ limbs m.toNat = limbs n.toNat) ∧ wr.ownsRow w.heap.size 3 1 v out.length (intsV out) ∧ Below w.heap.size w wr) (fun a _ _ => (intOf a).toNat)
  case atStart => exact ⟨n, [], 3, h1, by simp, by omega, rfl, Lib.hid rfl, ⟨rfl, .inr ⟨w.heap.size, 0, #[], rfl, Nat.le_refl _, heap_alloc_new w _, Nat.le_refl _, Nat.zero_le _, rfl, rfl⟩⟩, (Below.refl _ _).alloc (Nat.le_refl _) _⟩
  case round =>
    obtain ⟨m, out, f, hm, hol, hmf, rfl, HE, hown, hb1⟩ := hrel
    by_cases h0 : 0 < m
    · obtain ⟨g, rfl⟩ : ∃ g, f = g + 1 := by
        cases f with
        | zero => simp at hmf; omega
        | succ g => exact ⟨g, rfl⟩
      have hmg : m / 1000000000 < 1000000000 ^ g := by
        rw [Int.pow_succ] at hmf
        exact Int.ediv_lt_of_lt_mul (by omega) hmf
      have HS : Hid (out ++ [m % 1000000000] ++ limbs (m / 1000000000).toNat = limbs n.toNat) := Lib.hid (by
        have e := HE.out
        rw [limbs_pos m.toNat (by omega)] at e
        rw [List.append_assoc, ← e, show ((m.toNat % 1000000000 : Nat) : Int) = m % 1000000000 from by omega, show m.toNat / 1000000000 = (m / 1000000000).toNat from by omega]
        rfl)
      clear hmf
      go_wp2_with (at_builtin; refine wpList_append_own _ rfl (.tmp 7) (.tmp 10) 22 rfl w.heap.size 3 i0 (.int .i64 0) 1 8 Tryz.underlying22 hi hz0 hz1 hz2 rfl (by decide) _ _ _ rfl (own_alloc hown _) ⟨wr.heap.size, 0, none⟩ 1 1 [.int .i64 (m % 1000000000)] rfl rfl (one_new _ _ _) ?c2 ?c3 ?c4 ?c5 ?_)
      case c2 => first | (intro u hu; simp at hu; subst hu; rfl) | rfl
      case c3 => unfold maxLen; omega
      case c4 => omega
      case c5 => have := hb1.size; simp; omega
      intro v1 w1 hown1 hg1 _
      have hb2 := below_push hb1 (Nat.le_refl _) hown hg1
      go_wp2
      exact ⟨⟨m / 1000000000, out ++ [m % 1000000000], g, by omega, by simp; omega, hmg, rfl, HS, by simpa [intsV] using hown1, hb2⟩, by simp [intOf]; omega⟩
    · have HF : Hid (out = limbs n.toNat) := Lib.hid (by have e := HE.out; rwa [show m.toNat = 0 from by omega, limbs_none, List.append_nil] at e)
      go_wp2
      go_ret
      exact ⟨_, rfl, by rw [← HF.out]; exact hown, hb1⟩

/-- what NatInt answers -/
def natIntN (a : List Int) : Int × Bool := if natOkB a = true ∧ nval a ≤ 9223372036854775807 then (nval a, true) else (0, false)
def TwoPost (r : Int × Bool) (w : World) (e : Ending) (w' : World) : Prop := e = .returned (.tuple #[.int .i64 r.1, .bool r.2]) ∧ Below w.heap.size w w'
theorem nval_drop_le (a : List Int) (ha : DigN a) (k : Nat) : nval (a.drop k) ≤ nval a := by
  induction k with
  | zero => simp
  | succ k ih =>
    by_cases h : k < a.length
    · have h1 := nval_drop a k h
      have h2 := ha.at_ k h
      have h3 := nval_nonneg (a.drop (k + 1)) (ha.drop _)
      omega
    · rw [List.drop_of_length_le (by omega)]
      exact nval_nonneg a ha
theorem max_nat : nval [854775807, 223372036, 9] = 9223372036854775807 := by simp [nval]
theorem max_dig : DigN [854775807, 223372036, 9] ∧ [854775807, 223372036, (9 : Int)].getLastD 1 ≠ 0 := by
  refine ⟨fun d hd => ?_, by decide⟩
  simp at hd
  omega

set_option maxHeartbeats 1000000 in
set_option maxRecDepth 100000 in
theorem specNatInt_any (v : Value) (a : List Int) (lo hi : Nat) (w : World) (hal : a.length ≤ 1048576) (hhi : hi ≤ w.heap.size) (hr : Row w lo hi v (intsV a)) :
    Calls Tryz.prog 81 #[v] w (TwoPost (natIntN a) w) := by
  by_cases ok : natOkB a = true
  · have pa := natOk_parts ok
    have PA := Lib.hid pa
    have h50 := pa.2.1
    clear pa
    by_cases hbig : 9223372036854775807 < nval a
    · have HR := Lib.hid (show natIntN a = (0, false) by unfold natIntN; rw [if_neg (fun h => by have := h.2; omega)])
      have HC : Hid (cmpI (nval a) (nval [854775807, 223372036, 9]) = 1) := Lib.hid (cmp_gt (by rw [max_nat]; exact hbig))
      clear hbig
      go_enter Tryz.func81, Tryz.ntmps81
      go_wp2_with fail
      refine (specNatOk_any v a lo hi _ (by omega) hr).mono ?_
      rintro e w' ⟨rfl, rfl⟩
      rw [ok]
      go_wp2_with fail
      refine (specCmp_any v _ a [854775807, 223372036, 9] lo hi w.heap.size (w.heap.size + 1) _ (by omega) (by simp) ⟨PA.out.1, PA.out.2.2⟩ max_dig (hr.below ((Below.refl _ _).alloc (Nat.le_refl _) _) hhi) (Row.lit w #[.int .i64 854775807, .int .i64 223372036, .int .i64 9] _)).mono ?_
      rintro e w' ⟨rfl, q, rfl⟩
      rw [HC.out]
      go_wp2
      go_ret2
      exact ⟨by rw [HR.out]; rfl, below_drewN ((Below.refl _ _).alloc (Nat.le_refl _) _) q⟩
    · have HR := Lib.hid (show natIntN a = (nval a, true) by unfold natIntN; rw [if_pos ⟨ok, by omega⟩])
      have hcd : ¬ 0 < cmpI (nval a) (nval [854775807, 223372036, 9]) := by
        unfold cmpI
        rw [max_nat, if_neg (show ¬ 9223372036854775807 < nval a from hbig)]
        split <;> omega
      have hnv : nval a ≤ 9223372036854775807 := by omega
      clear hbig
      go_enter Tryz.func81, Tryz.ntmps81
      go_wp2_with fail
      refine (specNatOk_any v a lo hi _ (by omega) hr).mono ?_
      rintro e w' ⟨rfl, rfl⟩
      rw [ok]
      go_wp2_with fail
      refine (specCmp_any v _ a [854775807, 223372036, 9] lo hi w.heap.size (w.heap.size + 1) _ (by omega) (by simp) ⟨PA.out.1, PA.out.2.2⟩ max_dig (hr.below ((Below.refl _ _).alloc (Nat.le_refl _) _) hhi) (Row.lit w #[.int .i64 854775807, .int .i64 223372036, .int .i64 9] _)).mono ?_
      rintro e w' ⟨rfl, q, rfl⟩
      obtain ⟨A, c, rfl, hA⟩ := hr
      have HA := Lib.hid hA
      rw [intsV_length]
      clear hA
      have hbl : Below w.heap.size w ((w.alloc (.cells #[.int .i64 854775807, .int .i64 223372036, .int .i64 9] 3)).drewN q) := below_drewN ((Below.refl _ _).alloc (Nat.le_refl _) _) q
      go_wp2
      go_loop [4, 5] (fun n i => ∃ (k : Nat) (m : Int), k ≤ a.length ∧ i = .int .i64 ((k : Int) - 1) ∧ n = .int .i64 m ∧ Hid (m = nval (a.drop k))) (fun _ i => (intOf i + 1).toNat)
      case atStart => exact ⟨a.length, 0, Nat.le_refl _, rfl, rfl, Lib.hid (by rw [List.drop_of_length_le (Nat.le_refl _)]; rfl)⟩
      case round =>
        obtain ⟨k, m, hk, rfl, rfl, HM⟩ := hrel
        have hm0 : 0 ≤ m := by rw [HM.out]; exact nval_nonneg _ (PA.out.1.drop k)
        by_cases hz : 0 < k
        · obtain ⟨j, rfl⟩ : ∃ j, k = j + 1 := ⟨k - 1, by omega⟩
          have hlt : j < a.length := by omega
          obtain ⟨p, rfl, _, hpb, hca⟩ := HA.out j _ (intsV_at a j hlt)
          have hca' : ((w.alloc (.cells #[.int .i64 854775807, .int .i64 223372036, .int .i64 9] 3)).drewN q).cell? (p.add j) = some (.int .i64 a[j]) := (hbl.cell (by rw [block_add]; omega)).trans hca
          have hda := PA.out.1.at_ j hlt
          have HD := Lib.hid (nval_drop a j hlt)
          have hle : m * 1000000000 + a[j] ≤ 9223372036854775807 := by
            have h1 := nval_drop_le a PA.out.1 j
            have h2 := HD.out
            have h3 := HM.out
            omega
          have hm1 : ((j + 1 : Nat) : Int) - 1 = (j : Int) := by omega
          rw [hm1]
          clear hm1 hz hca
          go_wp2
          go_round
          case rel => exact ⟨j, m * 1000000000 + a[j], by omega, rfl, rfl, Lib.hid (by rw [HD.out, ← HM.out]; omega)⟩
          case measure => simp [intOf]
        · obtain rfl : k = 0 := by omega
          go_wp2
          go_ret2
          exact ⟨by rw [HR.out, HM.out]; rfl, hbl⟩
  · have ok' : natOkB a = false := by simpa using ok
    have HR := Lib.hid (show natIntN a = (0, false) by unfold natIntN; rw [if_neg (fun h => ok h.1)])
    clear ok
    go_enter Tryz.func81, Tryz.ntmps81
    go_wp2_with fail
    refine (specNatOk_any v a lo hi _ hal hr).mono ?_
    rintro e w' ⟨rfl, rfl⟩
    rw [ok']
    go_wp2
    go_ret2
    exact ⟨by rw [HR.out]; rfl, Below.refl _ _⟩
end Go.Proofs.YtofehcpapdlcnabGreatDoor

namespace Go.Proofs.YtofehcpapdlcnabGreatDoor
open Go.RowKit

/-- a new row and a number -/
def RowNum (xs : List Int) (r : Int) (w : World) (e : Ending) (w' : World) : Prop :=
  ∃ v, e = .returned (.tuple #[v, .int .i64 r]) ∧ w'.ownsRow w.heap.size 3 1 v xs.length (intsV xs) ∧ Below w.heap.size w w'

set_option maxHeartbeats 1000000 in
set_option maxRecDepth 100000 in
theorem specSmall_any (va : Value) (a : List Int) (d : Int) (lo hi : Nat) (w : World) (hal : a.length ≤ 1048576) (hhi : hi ≤ w.heap.size) (hd0 : 0 < d) (hd1 : d ≤ 999999999) (oa : DigN a) (hra : Row w lo hi va (intsV a)) :
    Calls Tryz.prog 140 #[va, .int .i64 d] w (RowNum (limbs (nval a / d).toNat) (nval a % d) w) := by
  obtain ⟨A, c, rfl, hA⟩ := hra
  have HA := Lib.hid hA
  have OA := Lib.hid oa
  have hmk := make_ints a.length (by omega)
  rw [intsV_length]
  clear hA oa
  go_enter Tryz.func140, Tryz.ntmps140
  go_wp2
  go_loopw [7, 8] (fun r i wr => ∃ (k : Nat) (R : Int) (qs : List Int), k ≤ a.length ∧ i = .int .i64 ((k : Int) - 1) ∧ r = .int .i64 R ∧ Hid (DivR a d k R qs) ∧ wr.ownsRow w.heap.size 3 1 (.slice (some ⟨w.heap.size, 0, none⟩) a.length a.length) a.length (intsV (List.replicate k 0 ++ qs)) ∧ Below w.heap.size w wr) (fun _ i _ => (intOf i + 1).toNat)
  case atStart =>
    refine ⟨a.length, 0, [], Nat.le_refl _, rfl, rfl, Lib.hid (DivR.start a d), ?_, (Below.refl _ _).alloc (Nat.le_refl _) _⟩
    have h := World.ownsRow_lit (e := 3) (size := 1) (base := w.heap.size) w (madeCells #[.int .i64 0] a.length) a.length (Nat.le_refl _) (by unfold maxLen; omega) (by rw [size_madeCells, Nat.mul_one])
    rw [toList_madeCells_one] at h
    simpa [intsV] using h
  case round =>
    obtain ⟨k, R, qs, hk, rfl, rfl, HR, ho, hb⟩ := hrel
    have hR := HR.out.bound hd0
    have hR0 := hR.1
    have hR1 := hR.2
    clear hR
    by_cases hz : 0 < k
    · obtain ⟨j, rfl⟩ : ∃ j, k = j + 1 := ⟨k - 1, by omega⟩
      have hlt : j < a.length := by omega
      obtain ⟨p, rfl, _, hpb, hca⟩ := HA.out j _ (intsV_at a j hlt)
      have hca' : wr.cell? (p.add j) = some (.int .i64 a[j]) := (hb.cell (by rw [block_add]; omega)).trans hca
      have hda := OA.out.at_ j hlt
      have hda0 := hda.1
      have hda1 := hda.2
      have HN := Lib.hid (HR.out.next hd0 OA.out hlt)
      have hlen : (List.replicate (j + 1) (0 : Int) ++ qs).length = a.length := by have := HR.out.2.2.2; simp; omega
      obtain ⟨cu, hcell⟩ : ∃ u, wr.cell? ⟨w.heap.size, j, none⟩ = some u := ⟨_, (ho.cellAt j (by omega)).trans (List.getElem?_eq_getElem (by rw [intsV_length, hlen]; exact hlt))⟩
      have hfr := ho.frozenAt j
      obtain ⟨ho2, hg2⟩ := ho.stored j (.int .i64 ((R * 1000000000 + a[j]) / d))
      rw [intsV_set, zeros_set] at ho2
      have hb2 := hb.grown hg2 hb.size (fun g hg => by cases hg; exact Nat.le_refl _)
      have hm1 : ((j + 1 : Nat) : Int) - 1 = (j : Int) := by omega
      rw [hm1]
      have hdne : ¬ d = 0 := by omega
      clear hm1 hz hca ho hg2 hlen hda
      go_wp2
      go_roundw
      case rel => exact ⟨j, _, _, by omega, rfl, rfl, HN, ho2, hb2⟩
      case measure => simp [intOf]
    · obtain rfl : k = 0 := by omega
      rw [List.replicate_zero, List.nil_append] at ho
      have hql : qs.length = a.length := by have := HR.out.2.2.2; omega
      rw [← hql] at ho
      have HF := Lib.hid HR.out.done
      rw [hql] at ho
      have HO : Hid (wr.ownsRow w.heap.size 3 1 (.slice (some ⟨w.heap.size, 0, none⟩) a.length a.length) qs.length (intsV qs)) := Lib.hid (by rw [hql]; exact ho)
      clear hql ho
      go_wp2_with fail
      refine (specTrim_any _ qs w.heap.size _ (by have := HR.out.2.2.2; omega) HO.out).mono ?_
      rintro e w2 ⟨rfl, v2, rfl, ho2⟩
      rw [HF.out.1] at ho2
      go_wp2
      go_ret2
      exact ⟨v2, by rw [HF.out.2]; rfl, ho2, hb⟩

theorem specMulV_any (va vb : Value) (a b : List Int) (la ha lb hb : Nat) (w : World) (hal : a.length ≤ 50) (hbl : b.length ≤ 50) (hha : ha ≤ w.heap.size) (hhb : hb ≤ w.heap.size) (oa : DigN a) (ob : DigN b)
    (hra : Row w la ha va (intsV a)) (hrb : Row w lb hb vb (intsV b)) : Calls Tryz.prog 72 #[va, vb] w (NewInts (limbs (nval a * nval b).toNat) w) := by
  by_cases h0 : a.length = 0 ∨ b.length = 0
  · have e : nval a * nval b = 0 := by
      rcases h0 with h | h
      · rw [List.eq_nil_of_length_eq_zero h]; exact Int.zero_mul _
      · rw [List.eq_nil_of_length_eq_zero h]; exact Int.mul_zero _
    rw [e, show limbs (0 : Int).toNat = [] from limbs_none]
    exact specMul_nil va vb a b la ha lb hb w hal hbl h0 hra hrb
  · have h := mul_val' a b oa ob
    have e := trim_limbs _ h.2.1
    rw [h.1] at e
    rw [← e]
    exact specMul_any va vb a b la ha lb hb w hal hbl (by omega) (by omega) hha hhb oa ob hra hrb
theorem specSubV_any (va vb : Value) (a b : List Int) (la ha lb hb : Nat) (w : World) (hal : a.length ≤ 1048576) (hbl : b.length ≤ a.length) (hha : ha ≤ w.heap.size) (hhb : hb ≤ w.heap.size) (oa : DigN a) (ob : DigN b) (hle : nval b ≤ nval a)
    (hra : Row w la ha va (intsV a)) (hrb : Row w lb hb vb (intsV b)) : Calls Tryz.prog 116 #[va, vb] w (NewInts (limbs (nval a - nval b).toNat) w) := by
  have h := subL_val a b 0 oa ob hbl (by omega) (by omega) (by omega)
  have e := trim_limbs _ h.2.1
  rw [h.1, Int.sub_zero] at e
  rw [← e]
  exact specSub_any va vb a b la ha lb hb w hal (by omega) hha hhb oa ob hra hrb h.2.2

set_option maxHeartbeats 1000000 in
set_option maxRecDepth 100000 in
theorem specDigit_any (vr vb : Value) (r b : List Int) (lr hr lb hb_ : Nat) (w : World) (hrl : r.length ≤ 1048576) (hbl : b.length ≤ 50) (hhr : hr ≤ w.heap.size) (hhb : hb_ ≤ w.heap.size) (or_ : DigN r ∧ r.getLastD 1 ≠ 0) (ob : DigN b ∧ b.getLastD 1 ≠ 0)
    (hb0 : 0 < nval b) (hlt : nval r < 1000000000 * nval b) (hrr : Row w lr hr vr (intsV r)) (hrb : Row w lb hb_ vb (intsV b)) :
    Calls Tryz.prog 141 #[vr, vb] w fun e w' => e = .returned (.int .i64 (nval r / nval b)) ∧ Below w.heap.size w w' := by
  have hb1 : 0 < b.length := by
    rcases Nat.eq_zero_or_pos b.length with h | h
    · rw [List.eq_nil_of_length_eq_zero h] at hb0; exact absurd hb0 (by decide)
    · exact h
  have HQ := Lib.hid (show 0 ≤ nval r / nval b ∧ nval r / nval b ≤ 999999999 from ⟨Int.ediv_nonneg (nval_nonneg r or_.1) (by omega), by have := Int.ediv_lt_of_lt_mul hb0 hlt; omega⟩)
  have HL := Lib.hid (fun q : Int => digit_le q (nval r) (nval b) hb0)
  have OR := Lib.hid or_
  have OB := Lib.hid ob
  clear or_ ob hlt hb0
  go_enter Tryz.func141, Tryz.ntmps141
  go_wp2
  go_loopw [5, 6] (fun x y wr => ∃ lo hi : Int, x = .int .i64 lo ∧ y = .int .i64 hi ∧ 0 ≤ lo ∧ hi ≤ 999999999 ∧ lo ≤ hi ∧ Hid (lo ≤ nval r / nval b ∧ nval r / nval b ≤ hi) ∧ Below w.heap.size w wr) (fun x y _ => (intOf y - intOf x).toNat)
  case atStart => exact ⟨0, 999999999, rfl, rfl, by omega, by omega, by omega, HQ, Below.refl _ _⟩
  case round =>
    obtain ⟨lo, hi, rfl, rfl, h0, h9, hlh, HB, hb⟩ := hrel
    by_cases hc : lo < hi
    · have hq0 : 0 < (lo + hi + 1) / 2 := by omega
      have hq9 : (lo + hi + 1) / 2 ≤ 999999999 := by omega
      have hql : lo < (lo + hi + 1) / 2 := by omega
      have hqh : (lo + hi + 1) / 2 ≤ hi := by omega
      obtain ⟨q, HE⟩ : ∃ q, Hid (q = (lo + hi + 1) / 2) := ⟨_, Lib.hid rfl⟩
      have hz := hb.size
      go_wp2_with fail
      rw [← HE.out] at hq0 hq9 hql hqh ⊢
      refine (specNatOf_any q _ (by omega)).mono ?_
      rintro e w1 ⟨v1, rfl, o1, b1⟩
      have HLQ := Lib.hid (show limbs q.toNat = [q] by rw [limbs, dif_neg (by omega), show q.toNat / 1000000000 = 0 by omega, limbs_none, show ((q.toNat % 1000000000 : Nat) : Int) = q by omega])
      rw [HLQ.out] at o1
      go_wp2_with fail
      have bb1 : Below w.heap.size w w1 := Below.next hb b1
      refine (specMulV_any vb v1 b [q] lb hb_ _ _ _ hbl (by simp) (by have := bb1.size; omega) (Nat.le_refl _) OB.out.1 (dig_one (by omega) (by omega)) (hrb.below bb1 hhb) (Row.of_own o1)).mono ?_
      rintro e w2 ⟨v2, rfl, o2, b2⟩
      have HV : Hid (nval b * nval [q] = q * nval b) := Lib.hid (by show nval b * (q + 1000000000 * 0) = _; rw [Int.mul_zero, Int.add_zero, Int.mul_comm])
      have bb2 : Below w.heap.size w w2 := Below.next bb1 b2
      rw [HV.out] at o2
      have hnn : 0 ≤ q * nval b := Int.mul_nonneg (by omega) (nval_nonneg b OB.out.1)
      have HLV := Lib.hid (limbs_toNat (q * nval b) hnn)
      have HLN := Lib.hid (show (limbs (q * nval b).toNat).length ≤ 1048576 from Nat.le_trans (limbs_length_le _ 51 (by
        rw [Int.toNat_of_nonneg hnn]
        have h1 := nval_lt b OB.out.1
        have h2 := bp_mono hbl
        have h3 : bp 51 = 1000000000 * bp 50 := rfl
        have h4 := Int.mul_le_mul (show q ≤ 999999999 from hq9) (show nval b ≤ bp 50 by omega) (nval_nonneg b OB.out.1) (by omega)
        have h5 := bp_pos 50
        omega)) (by decide))
      clear hnn
      go_wp2_with fail
      refine (specCmp_any v2 vr (limbs (q * nval b).toNat) r _ _ lr hr _ HLN.out hrl ⟨limbs_digN _, limbs_lastN _⟩ OR.out (Row.of_own o2) (hrr.below bb2 hhr)).mono ?_
      rintro e w3 ⟨rfl, qd, rfl⟩
      rw [HLV.out]
      have hb3 := below_drewN bb2 qd
      by_cases hle : q * nval b ≤ nval r
      · have hcl : cmpI (q * nval b) (nval r) ≤ 0 := by unfold cmpI; split; omega; split <;> omega
        have HQ2 := Lib.hid ((HL.out q).1 hle)
        clear hle
        go_wp2
        exact ⟨⟨q, hi, rfl, rfl, by omega, h9, hqh, Lib.hid ⟨HQ2.out, HB.out.2⟩, hb3⟩, by simp [intOf]; omega⟩
      · have hcl : ¬ cmpI (q * nval b) (nval r) ≤ 0 := by rw [cmp_gt (by omega)]; omega
        have HQ2 := Lib.hid (Int.not_le.1 (fun h => hle ((HL.out q).2 h)))
        clear hle
        go_wp2
        exact ⟨⟨lo, q - 1, rfl, rfl, h0, by omega, by omega, Lib.hid ⟨HB.out.1, by have := HQ2.out; omega⟩, hb3⟩, by simp [intOf]; omega⟩
    · obtain rfl : lo = hi := by omega
      have HF := Lib.hid (show lo = nval r / nval b by have := HB.out; omega)
      go_wp2
      go_ret
      exact ⟨ret_int HF.out, hb⟩
end Go.Proofs.YtofehcpapdlcnabGreatDoor

namespace Go.Proofs.YtofehcpapdlcnabGreatDoor
open Go.RowKit

/-- append of a row of the call's own, nil let in -/
theorem append_owned {P : Program} {w : World} {ops : Array Oper} {rest : List Oper} {o : Oper} {a : Act} {Q : Exit → Act → World → Prop} (hgd : o.guard = none) (s x : Operand) (t : TypeId)
    (ho : o.op = .call { callee := .builtin .append, args := #[s, x], argTypes := #[t, t] }) (base : Nat) (e : TypeId) (i : TypeInfo) (z : Value) (bytes : Nat) (ht : P.underlying t = some (.slice e)) (hi : P.info? e = some i)
    (hz : i.zero = some z) (hsize : i.size = 1) (hby : i.bytes = bytes) (hzs : z.cells.size = 1) (v : Value) (n : Nat) (xs : List Value) (hs : a.eval s = v) (hown : w.ownsRow base e 1 v n xs)
    (vx : Value) (m base2 : Nat) (e2 : TypeId) (news : List Value) (hx : a.eval x = vx) (hsrc : w.ownsRow base2 e2 1 vx m news) (h1 : ∀ u ∈ news, u.oneCell' = true) (h63 : n + m ≤ maxLen) (hbytes : (n + m) * bytes ≤ 140737488355328) (hbase : base ≤ w.heap.size)
    (h : ∀ v' w', w'.ownsRow base e 1 v' (n + m) (xs ++ news) → w.grownBy w' v.ownBlock → wpList P ops Q rest (a.put o.dst v') w') : wpList P ops Q (o :: rest) a w := by
  have hm : news.length = m := by have := hsrc.1; omega
  rcases hsrc.2 with ⟨rfl, rfl⟩ | ⟨g, cap, cur, rfl, _⟩
  · obtain rfl : news = [] := List.eq_nil_of_length_eq_zero hm
    exact wpList_append_own_none hgd s x t ho base e i 1 ht hi v n xs hs hown hx (h v w (by simpa using hown) (World.grownBy.refl _ _))
  · refine wpList_append_own _ hgd s x t ho base e i z 1 bytes ht hi hz hsize hby hzs (by omega) v n xs hs hown ⟨g, 0, none⟩ m cap news hx (by omega) (fun j u hu => hsrc.cells (g := g) rfl j u hu) h1 h63 hbytes hbase ?_
    intro v' w' h2 h3 _
    exact h v' w' h2 h3

/-- two new rows apart from each other -/
def TwoRows (xs ys : List Int) (w : World) (e : Ending) (w' : World) : Prop :=
  ∃ v1 v2, e = .returned (.tuple #[v1, v2]) ∧ w'.ownsRow w.heap.size 3 1 v1 xs.length (intsV xs) ∧ w'.ownsRow w.heap.size 3 1 v2 ys.length (intsV ys) ∧
    (∀ x y, v1.ownBlock = some x → v2.ownBlock = some y → x ≠ y) ∧ Below w.heap.size w w'

theorem limbs_mono {m n : Int} (h0 : 0 ≤ m) (h : m ≤ n) : (limbs m.toNat).length ≤ (limbs n.toNat).length := by
  rcases Nat.lt_or_ge (limbs n.toNat).length (limbs m.toNat).length with hl | hl
  · have := nval_short (limbs n.toNat) (limbs m.toNat) (limbs_digN _) (limbs_digN _) hl (limbs_lastN _)
    rw [limbs_toNat m h0, limbs_toNat n (by omega)] at this
    omega
  · exact hl
theorem own_base {w : World} {base base' n : Nat} {e : TypeId} {v : Value} {xs : List Value} (h : w.ownsRow base e 1 v n xs) (hb : base' ≤ base) : w.ownsRow base' e 1 v n xs := by
  obtain ⟨hl, h | ⟨g, cap, cur, rfl, hg, r⟩⟩ := h
  · exact ⟨hl, .inl h⟩
  · exact ⟨hl, .inr ⟨g, cap, cur, rfl, by omega, r⟩⟩
/-- limb k of a division brought down -/
theorem down_limb {x R : Int} (hx0 : 0 ≤ x) (hx1 : x ≤ 999999999) (hR : 0 ≤ R) : trimL (x :: limbs R.toNat) = limbs (R * 1000000000 + x).toNat := by
  have hd : DigN (x :: limbs R.toNat) := DigN.cons hx0 hx1 (limbs_digN _)
  rw [trim_limbs _ hd]
  congr 2
  show x + 1000000000 * nval (limbs R.toNat) = _
  rw [limbs_toNat R hR]
  omega
/-- the state of the loop: the quotient so far, and the rest -/
def DivS (w : World) (a : List Int) (D : Int) (k : Nat) (v : Value) (wr : World) : Prop :=
  ∃ (R : Int) (qs : List Int), DivR a D k R qs ∧ wr.ownsRow w.heap.size 3 1 (.slice (some ⟨w.heap.size, 0, none⟩) a.length a.length) a.length (intsV (List.replicate k 0 ++ qs)) ∧
    wr.ownsRow (w.heap.size + 1) 3 1 v (limbs R.toNat).length (intsV (limbs R.toNat)) ∧ Below w.heap.size w wr

set_option maxHeartbeats 2000000 in
set_option maxRecDepth 100000 in
theorem specDivBig_any (va vb : Value) (a b : List Int) (la ha lb hb_ : Nat) (w : World) (hal : a.length ≤ 50) (hbl : b.length ≤ 50) (hb2 : 2 ≤ b.length) (hha : ha ≤ w.heap.size) (hhb : hb_ ≤ w.heap.size) (oa : DigN a) (ob : DigN b ∧ b.getLastD 1 ≠ 0)
    (hra : Row w la ha va (intsV a)) (hrb : Row w lb hb_ vb (intsV b)) :
    Calls Tryz.prog 109 #[va, vb] w (TwoRows (limbs (nval a / nval b).toNat) (limbs (nval a % nval b).toNat) w) := by
  obtain ⟨i0, hi0, hz0, hz1, hz2⟩ := info_parts intInfo
  have hD : 0 < nval b := by
    have h1 := nval_ge b ob.1 ob.2 (by omega)
    have h2 := bp_pos (b.length - 1)
    omega
  have hra0 := hra
  have hrb0 := hrb
  obtain ⟨A, c, rfl, hA⟩ := hra
  obtain ⟨B, d, rfl, hB⟩ := hrb
  rw [intsV_length] at hra0 hrb0 ⊢
  rw [intsV_length]
  have HA := Lib.hid hA
  have OA := Lib.hid oa
  have OB := Lib.hid ob
  have HDP := Lib.hid hD
  have hmk := make_ints a.length (by omega)
  have hb1 : ((b.length : Int) == 1) = false := by rw [beq_eq_false_iff_ne]; omega
  clear hA hB oa ob hD
  go_enter Tryz.func109, Tryz.ntmps109
  go_wp2
  go_loopw [9, 10] (fun v i wr => ∃ k : Nat, k ≤ a.length ∧ i = .int .i64 ((k : Int) - 1) ∧ DivS w a (nval b) k v wr) (fun _ i _ => (intOf i + 1).toNat)
  case atStart =>
    refine ⟨a.length, Nat.le_refl _, rfl, 0, [], DivR.start a (nval b), ?_, ?_, ((Below.refl _ _).alloc (Nat.le_refl _) _).alloc (by simp) _⟩
    · have h := World.ownsRow_lit (e := 3) (size := 1) (base := w.heap.size) w (madeCells #[.int .i64 0] a.length) a.length (Nat.le_refl _) (by unfold maxLen; omega) (by rw [size_madeCells, Nat.mul_one])
      rw [toList_madeCells_one] at h
      exact own_alloc (by simpa [intsV] using h) _
    · rw [show limbs (0 : Int).toNat = [] from limbs_none]
      have h := World.ownsRow_made (w.alloc (.cells (madeCells #[.int .i64 0] a.length) 3)) (e := 3) (size := 1) (base := w.heap.size + 1) #[] 0 (by simp) (Nat.zero_le _) rfl
      simpa [intsV] using h
  case round =>
    obtain ⟨k, hk, rfl, R, qs, hR, hout, hrest, hb⟩ := hrel
    have hRb := hR.bound HDP.out
    have hR0 := hRb.1
    have HR := Lib.hid hR
    have HRB := Lib.hid hRb
    clear hR hRb
    have hsz := hb.size
    have hsz2 : w.heap.size < wr.heap.size := (own_lt hout (g := w.heap.size) rfl).2
    by_cases hz : 0 < k
    · obtain ⟨j, rfl⟩ : ∃ j, k = j + 1 := ⟨k - 1, by omega⟩
      have hlt : j < a.length := by omega
      obtain ⟨p, rfl, _, hpb, hca⟩ := HA.out j _ (intsV_at a j hlt)
      have hca' : wr.cell? (p.add j) = some (.int .i64 a[j]) := (hb.cell (by rw [block_add]; omega)).trans hca
      have hda := OA.out.at_ j hlt
      have hm1 : ((j + 1 : Nat) : Int) - 1 = (j : Int) := by omega
      rw [hm1]
      have HDN := Lib.hid (down_limb hda.1 hda.2 hR0)
      have hrl : (limbs R.toNat).length ≤ 50 := limbs_length_le _ 50 (by
        have h1 := nval_lt b OB.out.1
        have h2 := bp_mono hbl
        have := HRB.out
        omega)
      have hown0 : (wr.alloc (.cells #[.int .i64 a[j]] 3)).ownsRow (w.heap.size + 1) 3 1 (.slice (some ⟨wr.heap.size, 0, none⟩) 1 1) 1 [.int .i64 a[j]] :=
        ⟨rfl, .inr ⟨wr.heap.size, 1, _, rfl, by omega, heap_alloc_new wr _, Nat.le_refl _, by unfold maxLen; omega, rfl, rfl⟩⟩
      clear hm1 hz hca
      go_wp2_with (at_builtin; refine append_owned rfl _ _ 22 rfl (w.heap.size + 1) 3 i0 (.int .i64 0) 8 Tryz.underlying22 hi0 hz0 hz1 hz2 rfl (.slice (some ⟨wr.heap.size, 0, none⟩) 1 1) 1 [.int .i64 a[j]] rfl hown0 _ _ _ _ _ rfl (own_alloc hrest _) ?c2 ?c3 ?c4 ?c5 ?_)
      case c2 => intro u hu; obtain ⟨x, _, rfl⟩ := List.mem_map.1 hu; rfl
      case c3 => unfold maxLen; omega
      case c4 => omega
      case c5 => simp; omega
      intro v1 w1 hown1 hg1
      have hown2 : w1.ownsRow (w.heap.size + 1) 3 1 v1 (a[j] :: limbs R.toNat).length (intsV (a[j] :: limbs R.toNat)) := by
        rw [List.length_cons, Nat.add_comm (limbs R.toNat).length]
        exact hown1
      have hout1 := own_apart (own_alloc hout _) hg1 (fun g k hg hk => by simp [Value.ownBlock] at hg hk; omega)
      have hbb1 : Below w.heap.size w w1 := (hb.alloc hsz _).grown hg1 (by simp; omega) (fun k hk => by cases hk; exact hsz)
      clear hown0 hown1 hg1 hout hrest
      go_wp2_with fail
      refine (specTrim_any v1 (a[j] :: limbs R.toNat) (w.heap.size + 1) _ (by simp; omega) hown2).mono ?_
      rintro e w2 ⟨rfl, v2, rfl, ho2⟩
      rw [HDN.out] at ho2
      clear hown2
      have hda0 := hda.1
      have hda1 := hda.2
      have HN := Lib.hid (HR.out.next HDP.out OA.out hlt)
      have HDG := Lib.hid (HR.out.digit HDP.out OA.out hlt)
      have hqsl := Lib.hid HR.out.2.2.2
      have HBD : Hid (R * 1000000000 + a[j] < 1000000000 * nval b) := Lib.hid (by have := HRB.out.2; omega)
      obtain ⟨N, HNE⟩ : ∃ N, Hid (N = R * 1000000000 + a[j]) := ⟨_, Lib.hid rfl⟩
      rw [← HNE.out] at ho2 HN HDG HBD
      have hN0 : 0 ≤ N := by rw [HNE.out]; omega
      have HNV := Lib.hid (limbs_toNat N hN0)
      have hnl : (limbs N.toNat).length ≤ 51 := limbs_length_le _ 51 (by
        have h1 := nval_lt b OB.out.1
        have h2 := bp_mono hbl
        have h3 : bp 51 = 1000000000 * bp 50 := rfl
        have := HBD.out
        omega)
      have hsz1 := hbb1.size
      have r2 := Row.of_own ho2
      go_wp2_with fail
      refine (specCmp_any v2 _ (limbs N.toNat) b _ _ lb hb_ _ (by omega) (by omega) ⟨limbs_digN _, limbs_lastN _⟩ OB.out r2 (hrb0.below hbb1 hhb)).mono ?_
      rintro e w3 ⟨rfl, q3, rfl⟩
      rw [HNV.out]
      have hout3 := own_drew hout1 q3
      have ho3 := own_drew ho2 q3
      have hbb3 := below_drewN hbb1 q3
      clear r2 hout1 ho2
      by_cases hless : N < nval b
      · have HC := Lib.hid (cmp_lt hless)
        have HS : Hid (DivS w a (nval b) j v2 (w1.drewN q3)) := Lib.hid (by
          have h := HN.out
          rw [Int.emod_eq_of_lt hN0 hless, Int.ediv_eq_zero_of_lt hN0 hless] at h
          refine ⟨N, 0 :: qs, h, ?_, ho3, hbb3⟩
          rw [show List.replicate j (0 : Int) ++ 0 :: qs = List.replicate (j + 1) 0 ++ qs by rw [List.replicate_succ', List.append_assoc]; rfl]
          exact hout3)
        clear hless
        rw [HC.out]
        go_wp2
        exact ⟨⟨j, by omega, rfl, HS.out⟩, by simp [intOf]⟩
      · have hcd : ¬ cmpI N (nval b) < 0 := by unfold cmpI; rw [if_neg hless]; split <;> omega
        have HG := Lib.hid (show nval b ≤ N by omega)
        clear hless
        go_wp2_with fail
        refine (specDigit_any v2 _ (limbs N.toNat) b _ _ lb hb_ _ (by omega) hbl (Nat.le_refl _) (by have := hbb3.size; omega) ⟨limbs_digN _, limbs_lastN _⟩ OB.out HDP.out (by rw [HNV.out]; exact HBD.out) (Row.of_own ho3) (hrb0.below hbb3 hhb)).mono ?_
        rintro e w4 ⟨rfl, b4⟩
        rw [HNV.out]
        have hout4 := own_below hout3 b4
        have ho4 := own_below ho3 b4
        have hbb4 : Below w.heap.size w w4 := Below.next hbb3 b4
        have hq0 := HDG.out.1
        have hq1 := HDG.out.2
        obtain ⟨q, HQE⟩ : ∃ q, Hid (q = N / nval b) := ⟨_, Lib.hid rfl⟩
        rw [← HQE.out] at hq0 hq1 HN ⊢
        have hlen : (List.replicate (j + 1) (0 : Int) ++ qs).length = a.length := by have := hqsl.out; simp; omega
        obtain ⟨cu, hcell⟩ : ∃ u, w4.cell? ⟨w.heap.size, j, none⟩ = some u := ⟨_, (hout4.cellAt j (by omega)).trans (List.getElem?_eq_getElem (by rw [intsV_length, hlen]; exact hlt))⟩
        have hfr := hout4.frozenAt j
        obtain ⟨hout5, hg5⟩ := hout4.stored j (.int .i64 q)
        rw [intsV_set, zeros_set] at hout5
        have ho5 := own_apart ho4 hg5 (fun g k hg hk => by cases hk; have := (own_lt ho4 hg).1; omega)
        have hbb5 := hbb4.grown hg5 hbb4.size (fun g hg => by cases hg; exact Nat.le_refl _)
        clear hout3 ho3 hbb3 hout4 ho4 hg5 hlen hcd hb hbb1
        go_wp2_with fail
        refine (specNatOf_any q _ (by omega)).mono ?_
        rintro e w6 ⟨v6, rfl, o6, b6⟩
        have hbb6 : Below w.heap.size w w6 := Below.next hbb5 b6
        have hout6 := own_below hout5 b6
        have ho6 := own_below ho5 b6
        clear hout5 ho5 hbb5 hbb4
        go_wp2_with fail
        refine (specMulV_any _ v6 b (limbs q.toNat) lb hb_ _ _ _ hbl (Nat.le_trans (limbs_length_le _ 1 (by show ((q.toNat : Nat) : Int) < 1000000000 * 1; omega)) (by decide)) (by have := hbb6.size; omega) (Nat.le_refl _) OB.out.1 (limbs_digN _) (hrb0.below hbb6 hhb) (Row.of_own o6)).mono ?_
        rintro e w7 ⟨v7, rfl, o7, b7⟩
        rw [limbs_toNat q hq0] at o7
        have hbb7 : Below w.heap.size w w7 := Below.next hbb6 b7
        have hout7 := own_below hout6 b7
        have ho7 := own_below ho6 b7
        clear hout6 ho6 hbb6 o6
        have HP : Hid (0 ≤ nval b * q ∧ nval b * q ≤ N ∧ N - nval b * q = N % nval b) := Lib.hid (by
          have h1 := Int.emod_add_mul_ediv N (nval b)
          have h2 := Int.emod_nonneg N (show nval b ≠ 0 by have := HDP.out; omega)
          rw [← HQE.out] at h1
          exact ⟨Int.mul_nonneg (by have := HDP.out; omega) hq0, by omega, by omega⟩)
        go_wp2_with fail
        refine (specSubV_any v2 v7 (limbs N.toNat) (limbs (nval b * q).toNat) _ _ _ _ _ (by omega) (limbs_mono HP.out.1 HP.out.2.1) (Nat.le_refl _) (Nat.le_refl _) (limbs_digN _) (limbs_digN _) (by rw [HNV.out, limbs_toNat _ HP.out.1]; exact HP.out.2.1) (Row.of_own ho7) (Row.of_own o7)).mono ?_
        rintro e w8 ⟨v8, rfl, o8, b8⟩
        rw [HNV.out, limbs_toNat _ HP.out.1, HP.out.2.2] at o8
        have HS : Hid (DivS w a (nval b) j v8 w8) := Lib.hid ⟨_, _, HN.out, own_below hout7 b8, own_base o8 (by have := (own_lt hout7 (g := w.heap.size) rfl).2; omega), Below.next hbb7 b8⟩
        clear hout7 ho7 o7 o8
        go_wp2
        exact ⟨⟨j, by omega, rfl, HS.out⟩, by simp [intOf]⟩
    · obtain rfl : k = 0 := by omega
      have HF := Lib.hid HR.out.done
      have hql : qs.length = a.length := by have := HR.out.2.2.2; omega
      have hqb : qs.length ≤ 50 := by omega
      have HT := Lib.hid (fun W : World => specTrim_at (some ⟨w.heap.size, 0, none⟩) a.length qs w.heap.size W (by omega))
      have HO : Hid (wr.ownsRow w.heap.size 3 1 (.slice (some ⟨w.heap.size, 0, none⟩) a.length a.length) a.length (intsV qs)) := Lib.hid (by simpa using hout)
      rw [hql] at HT
      clear hql hout hqb
      go_wp2_with fail
      refine (HT.out _ HO.out).mono ?_
      rintro e w2 ⟨rfl, rfl, ho2⟩
      rw [HF.out.1] at ho2 ⊢
      go_wp2
      go_ret2
      refine ⟨_, _, rfl, ho2, ?_, ?_, hb⟩
      · rw [← HF.out.2]
        exact own_base hrest (by omega)
      · intro x y hx hy
        have h1 := (own_lt hrest hy).1
        have h2 : w.heap.size = x := by simpa [Value.ownBlock] using hx
        omega
end Go.Proofs.YtofehcpapdlcnabGreatDoor

namespace Go.Proofs.YtofehcpapdlcnabGreatDoor
open Go.RowKit

/-- a nil slice of the call's own, or an argument, has no capacity -/
def NoCap (v : Value) : Prop := ∀ n c, v = .slice none n c → c = 0
theorem own_noCap {w : World} {base n : Nat} {e : TypeId} {v : Value} {xs : List Value} (h : w.ownsRow base e 1 v n xs) : NoCap v := by
  intro m c e1
  rcases h.2 with ⟨rfl, _⟩ | ⟨g, cap, cur, rfl, _⟩
  · injection e1 with _ _ e3
    exact e3.symm
  · cases e1
/-- append of a slice that reads as a list, nil let in -/
theorem append_row {P : Program} {w : World} {ops : Array Oper} {rest : List Oper} {o : Oper} {a : Act} {Q : Exit → Act → World → Prop} (hgd : o.guard = none) (s x : Operand) (t : TypeId)
    (ho : o.op = .call { callee := .builtin .append, args := #[s, x], argTypes := #[t, t] }) (base : Nat) (e : TypeId) (i : TypeInfo) (z : Value) (bytes : Nat) (ht : P.underlying t = some (.slice e)) (hi : P.info? e = some i)
    (hz : i.zero = some z) (hsize : i.size = 1) (hby : i.bytes = bytes) (hzs : z.cells.size = 1) (v : Value) (n : Nat) (xs : List Value) (hs : a.eval s = v) (hown : w.ownsRow base e 1 v n xs)
    (vx : Value) (lo hi' : Nat) (news : List Value) (hx : a.eval x = vx) (hr : Row w lo hi' vx news) (hnc : NoCap vx) (h1 : ∀ u ∈ news, u.oneCell' = true) (h63 : n + news.length ≤ maxLen) (hbytes : (n + news.length) * bytes ≤ 140737488355328) (hbase : base ≤ w.heap.size)
    (h : ∀ v' w', w'.ownsRow base e 1 v' (n + news.length) (xs ++ news) → w.grownBy w' v.ownBlock → wpList P ops Q rest (a.put o.dst v') w') : wpList P ops Q (o :: rest) a w := by
  obtain ⟨A, c, rfl, hA⟩ := hr
  cases A with
  | none =>
    obtain rfl : news = [] := by
      cases news with
      | nil => rfl
      | cons y r => obtain ⟨_, e, _⟩ := hA 0 y rfl; cases e
    obtain rfl : c = 0 := hnc _ _ rfl
    exact wpList_append_own_none hgd s x t ho base e i 1 ht hi v n xs hs hown hx (h v w (by simpa using hown) (World.grownBy.refl _ _))
  | some ad =>
    refine wpList_append_own _ hgd s x t ho base e i z 1 bytes ht hi hz hsize hby hzs (by omega) v n xs hs hown ad news.length c news hx (by omega) (fun j u hu => ?_) h1 h63 hbytes hbase ?_
    · obtain ⟨p, e, _, _, hc⟩ := hA j u hu
      cases e
      exact hc
    · intro v' w' h2 h3 _
      exact h v' w' h2 h3

set_option maxHeartbeats 400000 in
set_option maxRecDepth 100000 in
theorem specDivOne_any (va vb : Value) (a : List Int) (d : Int) (la ha lb hb_ : Nat) (w : World) (hal : a.length ≤ 1048576) (hha : ha ≤ w.heap.size) (oa : DigN a) (hd0 : 0 < d) (hd1 : d ≤ 999999999)
    (hra : Row w la ha va (intsV a)) (hrb : Row w lb hb_ vb (intsV [d])) :
    Calls Tryz.prog 109 #[va, vb] w (TwoRows (limbs (nval a / d).toNat) (limbs (nval a % d).toNat) w) := by
  obtain ⟨B, c, rfl, hB⟩ := hrb
  obtain ⟨p, rfl, _, _, hcb⟩ := hB 0 _ rfl
  have hcb0 : w.cell? p = some (.int .i64 d) := hcb
  rw [intsV_length]
  have OA := Lib.hid oa
  have hm := Lib.hid (show 0 ≤ nval a % d ∧ nval a % d < d from ⟨Int.emod_nonneg _ (by omega), Int.emod_lt_of_pos _ hd0⟩)
  clear hB oa
  go_enter Tryz.func109, Tryz.ntmps109
  go_wp2_with fail
  refine (specSmall_any va a d la ha _ hal hha hd0 hd1 OA.out hra).mono ?_
  rintro e w1 ⟨v1, rfl, o1, b1⟩
  go_wp2_with fail
  refine (specNatOf_any _ _ (by have := hm.out; omega)).mono ?_
  rintro e w2 ⟨v2, rfl, o2, b2⟩
  go_wp2
  go_ret2
  exact ⟨v1, v2, rfl, own_below o1 b2, own_base o2 b1.size, (Lies.of o1).apart (Lies.of o2) (.inl (Nat.le_refl _)), Below.next b1 b2⟩

theorem one_of_len {b : List Int} (h : b.length = 1) : b = [b[0]] := by
  match b, h with
  | [x], _ => rfl
theorem specDiv_any (va vb : Value) (a b : List Int) (la ha lb hb_ : Nat) (w : World) (hal : a.length ≤ 50) (hbl : b.length ≤ 50) (hb0 : 0 < b.length) (hha : ha ≤ w.heap.size) (hhb : hb_ ≤ w.heap.size) (oa : DigN a) (ob : DigN b ∧ b.getLastD 1 ≠ 0)
    (hra : Row w la ha va (intsV a)) (hrb : Row w lb hb_ vb (intsV b)) :
    Calls Tryz.prog 109 #[va, vb] w (TwoRows (limbs (nval a / nval b).toNat) (limbs (nval a % nval b).toNat) w) := by
  by_cases h1 : b.length = 1
  · have hv : nval b = b[0] := by
      conv => lhs; rw [one_of_len h1]
      show b[0] + 1000000000 * 0 = _
      omega
    have hd := ob.1.at_ 0 hb0
    have hne : b[0] ≠ 0 := by
      have := ob.2
      rw [one_of_len h1] at this
      simpa using this
    rw [hv]
    exact specDivOne_any va vb a b[0] la ha lb hb_ w (by omega) hha oa (by omega) hd.2 hra (by rw [← one_of_len h1]; exact hrb)
  · exact specDivBig_any va vb a b la ha lb hb_ w hal hbl (by omega) hha hhb oa ob hra hrb

/-- what NatDiv answers -/
def divN (a b : List Int) : List Int × List Int := if natOkB a = true ∧ natOkB b = true ∧ 0 < b.length then (limbs (nval a / nval b).toNat, limbs (nval a % nval b).toNat) else ([], [])
theorem two_nil {w w' : World} (hb : Below w.heap.size w w') : TwoRows [] [] w (.returned (.tuple #[.slice none 0 0, .slice none 0 0])) w' := ⟨_, _, rfl, nil_own, nil_own, (fun x y hx _ => by cases hx), hb⟩

end Go.Proofs.YtofehcpapdlcnabGreatDoor

namespace Go.Proofs.YtofehcpapdlcnabGreatDoor
open Go.RowKit

/-- what NatGcd answers -/
def gcdN (a b : List Int) : List Int := if natOkB a = true ∧ natOkB b = true then limbs (Nat.gcd (nval a).toNat (nval b).toNat) else []
theorem gcd_step (X Y : Nat) : Nat.gcd Y (X % Y) = Nat.gcd X Y := by
  rw [Nat.gcd_comm Y, ← Nat.gcd_rec, Nat.gcd_comm]
theorem limbs_empty {n : Nat} (h : ¬ 0 < (limbs n).length) : n = 0 := by
  rcases Nat.eq_zero_or_pos n with h0 | h0
  · exact h0
  · rw [limbs, dif_neg (by omega)] at h
    simp at h
theorem limbs_some {n : Nat} (h : 0 < (limbs n).length) : 0 < n := by
  rcases Nat.eq_zero_or_pos n with h0 | h0
  · subst h0; rw [limbs, dif_pos rfl] at h; simp at h
  · exact h0
theorem limbs_mod_len (X Y : Nat) (h : (limbs Y).length ≤ 50) (h0 : 0 < Y) : (limbs (X % Y)).length ≤ 50 := by
  have hm := Nat.mod_lt X h0
  have := limbs_mono (m := ((X % Y : Nat) : Int)) (n := (Y : Int)) (by omega) (by omega)
  rw [Int.toNat_natCast, Int.toNat_natCast] at this
  omega
/-- the state of NatGcd's loop -/
def GcdS (w : World) (G : Nat) (n : Nat) (x y : Value) (wr : World) : Prop :=
  ∃ X Y : Nat, n = Y ∧ Nat.gcd X Y = G ∧ (limbs X).length ≤ 50 ∧ (limbs Y).length ≤ 50 ∧ wr.ownsRow w.heap.size 3 1 x (limbs X).length (intsV (limbs X)) ∧ wr.ownsRow w.heap.size 3 1 y (limbs Y).length (intsV (limbs Y)) ∧ Below w.heap.size w wr

set_option maxHeartbeats 1000000 in
set_option maxRecDepth 100000 in
theorem specNatGcd_any (va vb : Value) (a b : List Int) (la ha lb hb_ : Nat) (w : World) (hal : a.length ≤ 1048576) (hbl : b.length ≤ 1048576) (hha : ha ≤ w.heap.size) (hhb : hb_ ≤ w.heap.size) (hna : NoCap va) (hnb : NoCap vb)
    (hra : Row w la ha va (intsV a)) (hrb : Row w lb hb_ vb (intsV b)) :
    Calls Tryz.prog 110 #[va, vb] w (NewInts (gcdN a b) w) := by
  obtain ⟨i0, hi0, hz0, hz1, hz2⟩ := info_parts intInfo
  by_cases oa : natOkB a = true
  · by_cases ob : natOkB b = true
    · have HV := Lib.hid (show gcdN a b = limbs (Nat.gcd (nval a).toNat (nval b).toNat) by unfold gcdN; rw [if_pos ⟨oa, ob⟩])
      have LA := Lib.hid (natOk_limbs oa)
      have LB := Lib.hid (natOk_limbs ob)
      have ha50 := (natOk_parts oa).2.1
      have hb50 := (natOk_parts ob).2.1
      go_enter Tryz.func110, Tryz.ntmps110
      go_wp2_with fail
      refine (specNatOk_any va a la ha _ hal hra).mono ?_
      rintro e w' ⟨rfl, rfl⟩
      rw [oa]
      go_wp2_with fail
      refine (specNatOk_any vb b lb hb_ _ hbl hrb).mono ?_
      rintro e w' ⟨rfl, rfl⟩
      rw [ob]
      clear oa ob
      have hone : ∀ l : List Int, ∀ u ∈ intsV l, u.oneCell' = true := fun l u hu => by obtain ⟨x, _, rfl⟩ := List.mem_map.1 hu; rfl
      have HONE := Lib.hid hone
      clear hone
      go_wp2_with (at_builtin; refine append_row rfl _ _ 22 rfl w.heap.size 3 i0 (.int .i64 0) 8 Tryz.underlying22 hi0 hz0 hz1 hz2 rfl _ 0 [] rfl (World.ownsRow_made w #[] 0 (Nat.le_refl _) (Nat.zero_le _) rfl) va la ha (intsV a) rfl (hra.below ((Below.refl _ _).alloc (Nat.le_refl _) _) hha) hna (HONE.out a) ?c3 ?c4 ?c5 ?_)
      case c3 => rw [intsV_length]; unfold maxLen; omega
      case c4 => rw [intsV_length]; omega
      case c5 => simp
      intro v1 w1 o1 g1
      have b1 : Below w.heap.size w w1 := ((Below.refl _ w).alloc (Nat.le_refl _) _).grown g1 (by simp) (fun k hk => by cases hk; exact Nat.le_refl _)
      rw [intsV_length] at o1
      clear g1
      have z1 := b1.size
      have r1 := hrb.below b1 hhb
      go_wp2_with (at_builtin; refine append_row rfl _ _ 22 rfl w1.heap.size 3 i0 (.int .i64 0) 8 Tryz.underlying22 hi0 hz0 hz1 hz2 rfl _ 0 [] rfl (World.ownsRow_made w1 #[] 0 (Nat.le_refl _) (Nat.zero_le _) rfl) vb lb hb_ (intsV b) rfl (r1.below ((Below.refl _ _).alloc (Nat.le_refl _) _) (by omega)) hnb (HONE.out b) ?d3 ?d4 ?d5 ?_)
      case d3 => rw [intsV_length]; unfold maxLen; omega
      case d4 => rw [intsV_length]; omega
      case d5 => simp
      intro v2 w2 o2 g2
      have b2 : Below w1.heap.size w1 w2 := ((Below.refl _ w1).alloc (Nat.le_refl _) _).grown g2 (by simp) (fun k hk => by cases hk; exact Nat.le_refl _)
      rw [intsV_length] at o2
      clear g2 r1
      have HS : Hid (GcdS w (Nat.gcd (nval a).toNat (nval b).toNat) (nval b).toNat v1 v2 w2) := Lib.hid ⟨(nval a).toNat, (nval b).toNat, rfl, rfl, by rw [← LA.out]; exact ha50, by rw [← LB.out]; exact hb50, by rw [← LA.out]; exact own_below o1 b2, by rw [← LB.out]; exact own_base o2 z1, Below.next b1 b2⟩
      clear o1 o2
      go_wp2
      go_loopg [5, 6] (nval b).toNat (fun n x y wr => GcdS w (Nat.gcd (nval a).toNat (nval b).toNat) n x y wr)
      case atStart => exact HS.out
      case round =>
        clear HS b1 b2 z1
        obtain ⟨X, Y, hn, hG, hX, hY, ox, oy, hb⟩ := hrel
        have HNE := Lib.hid hn
        have HG := Lib.hid hG
        clear hn hG
        have oy0 := oy
        obtain ⟨B, c, rfl⟩ := own_len oy
        by_cases hpos : 0 < (limbs Y).length
        · have hY0 := limbs_some hpos
          go_wp2_with fail
          refine (specDiv_any _ _ (limbs X) (limbs Y) _ _ _ _ _ hX hY hpos (Nat.le_refl _) (Nat.le_refl _) (limbs_digN _) ⟨limbs_digN _, limbs_lastN _⟩ (Row.of_own ox) (Row.of_own oy0)).mono ?_
          rintro e w3 ⟨v3, v4, rfl, o3, o4, _, b3⟩
          rw [limbs_val, limbs_val, show ((X : Int) % (Y : Int)).toNat = X % Y by omega] at o4
          have HS2 : Hid (GcdS w (Nat.gcd (nval a).toNat (nval b).toNat) (X % Y) (.slice B (limbs Y).length c) v4 w3) := Lib.hid ⟨Y, X % Y, rfl, by rw [gcd_step]; exact HG.out, hY, limbs_mod_len X Y hY hY0, own_below oy0 b3, own_base o4 hb.size, Below.next hb b3⟩
          clear ox oy oy0 o3 o4
          go_wp2
          go_roundg (X % Y)
          case measure => rw [HNE.out]; exact Nat.mod_lt X hY0
          case rel => exact HS2.out
        · have hY0 := Lib.hid (limbs_empty hpos)
          have HF : Hid (X = Nat.gcd (nval a).toNat (nval b).toNat) := Lib.hid (by have := HG.out; rw [hY0.out, Nat.gcd_zero_right] at this; exact this)
          go_wp2
          go_ret
          exact ⟨_, rfl, by rw [HV.out, ← HF.out]; exact ox, hb⟩
    · have ob' : natOkB b = false := by simpa using ob
      have HN := Lib.hid (show gcdN a b = [] by unfold gcdN; rw [if_neg (fun h => ob h.2)])
      clear ob
      go_enter Tryz.func110, Tryz.ntmps110
      go_wp2_with fail
      refine (specNatOk_any va a la ha _ hal hra).mono ?_
      rintro e w' ⟨rfl, rfl⟩
      rw [oa]
      go_wp2_with fail
      refine (specNatOk_any vb b lb hb_ _ hbl hrb).mono ?_
      rintro e w' ⟨rfl, rfl⟩
      rw [ob']
      go_wp2
      go_ret
      rw [HN.out]
      exact new_nil (Below.refl _ _)
  · have oa' : natOkB a = false := by simpa using oa
    have HN := Lib.hid (show gcdN a b = [] by unfold gcdN; rw [if_neg (fun h => oa h.1)])
    clear oa
    go_enter Tryz.func110, Tryz.ntmps110
    go_wp2_with fail
    refine (specNatOk_any va a la ha _ hal hra).mono ?_
    rintro e w' ⟨rfl, rfl⟩
    rw [oa']
    go_wp2
    go_ret
    rw [HN.out]
    exact new_nil (Below.refl _ _)

/-- what NatEven answers -/
def evenB (a : List Int) : Bool := natOkB a && decide (a.headD 0 % 2 = 0)
set_option maxHeartbeats 400000 in
set_option maxRecDepth 100000 in
theorem specNatEven_any (va : Value) (a : List Int) (la ha : Nat) (w : World) (hal : a.length ≤ 1048576) (hra : Row w la ha va (intsV a)) :
    Calls Tryz.prog 142 #[va] w fun e w' => e = .returned (.bool (evenB a)) ∧ w = w' := by
  have hra0 := hra
  obtain ⟨A, c, rfl, hA⟩ := hra
  rw [intsV_length] at hra0 ⊢
  by_cases oa : natOkB a = true
  · by_cases h0 : a.length = 0
    · have HV := Lib.hid (show evenB a = true by unfold evenB; rw [oa, List.eq_nil_of_length_eq_zero h0]; rfl)
      have H0 := Lib.hid h0
      clear h0 hA
      go_enter Tryz.func142, Tryz.ntmps142
      go_wp2_with fail
      refine (specNatOk_any _ a la ha _ hal hra0).mono ?_
      rintro e w' ⟨rfl, rfl⟩
      rw [oa]
      have h0 := H0.out
      go_wp2
      go_ret
      exact ⟨ret_bool HV.out.symm, rfl⟩
    · have hz : ((a.length : Int) == 0) = false := by rw [beq_eq_false_iff_ne]; omega
      have hpos : 0 < a.length := by omega
      obtain ⟨p, rfl, _, _, hc⟩ := hA 0 _ (intsV_at a 0 hpos)
      have hc0 : w.cell? p = some (.int .i64 a[0]) := hc
      have hda := (natOk_parts oa).1.at_ 0 hpos
      have hda0 := hda.1
      have hda1 := hda.2
      have HV := Lib.hid (show evenB a = (a[0] % 2 == 0) by
        unfold evenB
        rw [oa, Bool.true_and]
        have : a.headD 0 = a[0] := by cases a with | nil => simp at hpos | cons x r => rfl
        rw [this, Bool.eq_iff_iff, decide_eq_true_eq, beq_iff_eq])
      clear h0 hA hc hda
      generalize a[0] = x at *
      go_enter Tryz.func142, Tryz.ntmps142
      go_wp2_with fail
      refine (specNatOk_any _ a la ha _ hal hra0).mono ?_
      rintro e w' ⟨rfl, rfl⟩
      rw [oa]
      go_wp2
      go_ret
      exact ⟨ret_bool HV.out.symm, rfl⟩
  · have oa' : natOkB a = false := by simpa using oa
    have HV := Lib.hid (show evenB a = false by unfold evenB; rw [oa']; rfl)
    clear oa hA
    go_enter Tryz.func142, Tryz.ntmps142
    go_wp2_with fail
    refine (specNatOk_any _ a la ha _ hal hra0).mono ?_
    rintro e w' ⟨rfl, rfl⟩
    rw [oa']
    go_wp2
    go_ret
    exact ⟨ret_bool HV.out.symm, rfl⟩
end Go.Proofs.YtofehcpapdlcnabGreatDoor
