/-
  What the functions of chapter 3 of package spec return, for slices that read as lists of limbs.
-/
import Derived.Test.YtofehcpapdlcnaaNatPlain
import Derived.Test.YtofehcpapdlcnaaIntS
namespace Go.Proofs.Ytofehcpapdlcnaa
open Go.RowKit

theorem drew_three (w : World) (a b c : Nat) : ∃ q, w.drewN q = ((w.drewN a).drewN b).drewN c := ⟨a + b + c, by rw [World.drewN_drewN, World.drewN_drewN, Nat.add_assoc]⟩
/-- between two bounds -/
def inB (n lo hi : Int) : Bool := decide (lo ≤ n ∧ n ≤ hi)
set_option maxHeartbeats 400000 in
set_option maxRecDepth 100000 in
theorem specIn_any (n lo hi : Int) (b : Bool) (w : World) (hb : inB n lo hi = b) :
    Calls Try.prog 21 #[.int .i64 n, .int .i64 lo, .int .i64 hi] w fun e w' => e = .returned (.bool b) ∧ w = w' := by
  subst hb
  go_enter Try.func21, Try.ntmps21
  go_wp2
  all_goals go_ret
  · exact ⟨by simp [inB, *], rfl⟩
  · exact ⟨by simp [inB]; omega, rfl⟩

theorem all_upto (xs : List Int) (k : Nat) (h : (xs.take k).all digB = true) (hk : ¬ k < xs.length) : xs.all digB = true := by
  rwa [List.take_of_length_le (by omega)] at h
theorem all_succ (xs : List Int) (k : Nat) (hk : k < xs.length) (h : (xs.take k).all digB = true) (hd : digB xs[k] = true) : (xs.take (k + 1)).all digB = true := by
  rw [List.take_succ_eq_append_getElem hk, List.all_append, h]
  simp [hd]
theorem not_all (xs : List Int) (k : Nat) (hk : k < xs.length) (hd : digB xs[k] = false) : natOkB xs = false := by
  have : xs.all digB = false := by
    rw [List.all_eq_false]
    exact ⟨xs[k], List.getElem_mem hk, by simp [hd]⟩
  unfold natOkB
  rw [this]
  rfl
theorem ok_nil : natOkB [] = true := rfl
theorem ok_long (xs : List Int) (h : ¬ xs.length ≤ 50) : natOkB xs = false := by
  unfold natOkB
  rw [decide_eq_false h, Bool.false_and, Bool.and_false]
theorem last_at (xs : List Int) (h : xs.length - 1 < xs.length) : xs.getLastD 1 = xs[xs.length - 1] := by
  rw [List.getLastD_eq_getLast?, List.getLast?_eq_getElem?, List.getElem?_eq_getElem h]
  rfl
theorem ok_last (xs : List Int) (ha : xs.all digB = true) (hl : xs.length ≤ 50) (h : xs.length - 1 < xs.length) : (xs[xs.length - 1] != 0) = natOkB xs := by
  unfold natOkB
  rw [ha, decide_eq_true hl, Bool.true_and, Bool.true_and, last_at xs h]
  by_cases e : xs[xs.length - 1] = 0
  · rw [e]; rfl
  · rw [decide_eq_true e, bne_iff_ne]; exact e

set_option maxHeartbeats 400000 in
set_option maxRecDepth 100000 in
theorem specNatOk_any (v : Value) (xs : List Int) (lo hi : Nat) (w : World) (hl : xs.length ≤ 1048576) (hr : Row w lo hi v (intsV xs)) :
    Calls Try.prog 32 #[v] w fun e w' => e = .returned (.bool (natOkB xs)) ∧ w = w' := by
  obtain ⟨A, c, rfl, hA⟩ := hr
  have HA := Lib.hid hA
  rw [intsV_length]
  clear hA
  go_enter Try.func32, Try.ntmps32
  go_wp2
  go_loop [7] (fun i => ∃ k : Nat, k ≤ xs.length ∧ i = .int .i64 k ∧ Hid ((xs.take k).all digB = true)) (fun i => xs.length - (intOf i).toNat)
  case atStart => exact ⟨0, Nat.zero_le _, rfl, Lib.hid rfl⟩
  case round =>
    obtain ⟨k, hk, rfl, HD⟩ := hrel
    by_cases hlt : k < xs.length
    · obtain ⟨a, rfl, _, _, hca⟩ := HA.out k _ (intsV_at xs k hlt)
      by_cases hd : digB xs[k] = true
      · have HS := Lib.hid (all_succ xs k hlt HD.out hd)
        go_wp2_with (go_at_call 21; refine (specIn_any _ _ _ true _ hd).mono ?_; rintro e w' ⟨rfl, rfl⟩)
        go_round
        case rel => exact ⟨k + 1, by omega, by go_num, HS⟩
        case measure => simp [intOf]; omega
      · have hd' : digB xs[k] = false := by simpa using hd
        have HN := Lib.hid (not_all xs k hlt hd')
        go_wp2_with (go_at_call 21; refine (specIn_any _ _ _ false _ hd').mono ?_; rintro e w' ⟨rfl, rfl⟩)
        go_ret
        exact ⟨ret_bool HN.out.symm, rfl⟩
    · have HF := Lib.hid (all_upto xs k HD.out hlt)
      by_cases h50 : xs.length ≤ 50
      · by_cases h0 : xs.length = 0
        · have hz : ((xs.length : Int) == 0) = true := by simp [h0]
          obtain rfl : xs = [] := List.eq_nil_of_length_eq_zero h0
          clear h0
          go_wp2
          go_ret
          exact ⟨rfl, rfl⟩
        · have hz : ((xs.length : Int) == 0) = false := by rw [beq_eq_false_iff_ne]; omega
          have hlt2 : xs.length - 1 < xs.length := by omega
          obtain ⟨a, rfl, _, _, hca⟩ := HA.out (xs.length - 1) _ (intsV_at xs (xs.length - 1) hlt2)
          have HL := Lib.hid (ok_last xs HF.out h50 hlt2)
          clear h0
          go_wp2
          go_ret
          exact ⟨ret_bool HL.out, rfl⟩
      · have HN := Lib.hid (ok_long xs h50)
        go_wp2
        go_ret
        exact ⟨ret_bool HN.out.symm, rfl⟩

theorem cmp_lt {x y : Int} (h : x < y) : cmpI x y = -1 := by unfold cmpI; rw [if_pos h]
theorem cmp_gt {x y : Int} (h : y < x) : cmpI x y = 1 := by unfold cmpI; rw [if_neg (by omega), if_pos h]
theorem cmp_eq {x y : Int} (h : x = y) : cmpI x y = 0 := by unfold cmpI; rw [if_neg (by omega), if_neg (by omega)]
theorem drop_same (a b : List Int) (k : Nat) (ha : k < a.length) (hb : k < b.length) (h : a.drop (k + 1) = b.drop (k + 1)) (e : a[k] = b[k]) : a.drop k = b.drop k := by
  rw [List.drop_eq_getElem_cons ha, List.drop_eq_getElem_cons hb, h, e]

set_option maxHeartbeats 1000000 in
set_option maxRecDepth 100000 in
theorem specCmp_any (va vb : Value) (a b : List Int) (la ha lb hb : Nat) (w : World) (hal : a.length ≤ 1048576) (_hbl : b.length ≤ 1048576) (oa : DigN a ∧ a.getLastD 1 ≠ 0) (ob : DigN b ∧ b.getLastD 1 ≠ 0)
    (hra : Row w la ha va (intsV a)) (hrb : Row w lb hb vb (intsV b)) :
    Calls Try.prog 35 #[va, vb] w fun e w' => e = .returned (.int .i64 (cmpI (nval a) (nval b))) ∧ ∃ q, w.drewN q = w' := by
  obtain ⟨A, c, rfl, hA⟩ := hra
  obtain ⟨B, d, rfl, hB⟩ := hrb
  rw [intsV_length, intsV_length]
  have HA := Lib.hid hA
  have HB := Lib.hid hB
  have OA := Lib.hid oa
  have OB := Lib.hid ob
  clear hA hB oa ob
  by_cases hlen : a.length = b.length
  · have HL := Lib.hid hlen
    have hbe : ((a.length : Int) != (b.length : Int)) = false := by simp [hlen]
    clear hlen
    go_enter Try.func35, Try.ntmps35
    go_wp2
    go_loopw [5] (fun i wr => ∃ k q : Nat, k ≤ a.length ∧ i = .int .i64 ((k : Int) - 1) ∧ wr = w.drewN q ∧ Hid (a.drop k = b.drop k)) (fun i _ => (intOf i + 1).toNat)
    case atStart => exact ⟨a.length, 0, Nat.le_refl _, rfl, rfl, Lib.hid (by rw [List.drop_of_length_le (Nat.le_refl _), List.drop_of_length_le (by have := HL.out; omega)])⟩
    case round =>
      obtain ⟨k, q, hk, rfl, rfl, HT⟩ := hrel
      by_cases hz : 0 < k
      · obtain ⟨m, rfl⟩ : ∃ m, k = m + 1 := ⟨k - 1, by omega⟩
        have hlt : m < a.length := by omega
        have hlt2 : m < b.length := by have := HL.out; omega
        obtain ⟨p, rfl, _, _, hca⟩ := HA.out m _ (intsV_at a m hlt)
        obtain ⟨r, rfl, _, _, hcb⟩ := HB.out m _ (intsV_at b m hlt2)
        have hm1 : ((m + 1 : Nat) : Int) - 1 = (m : Int) := by omega
        rw [hm1]
        clear hm1 hz
        by_cases h1 : a[m] < b[m]
        · have HV := Lib.hid (nval_lt_down a b OA.out.1 OB.out.1 HL.out m (by rw [nval_drop a m hlt, nval_drop b m hlt2, HT.out]; omega))
          go_wp2
          go_quiet (fail)
          go_wp2
          go_ret
          exact ⟨ret_int (cmp_lt HV.out).symm, _, (World.drewN_drewN _ _ _).symm⟩
        · by_cases h2 : b[m] < a[m]
          · have HV := Lib.hid (nval_lt_down b a OB.out.1 OA.out.1 HL.out.symm m (by rw [nval_drop a m hlt, nval_drop b m hlt2, HT.out]; omega))
            go_wp2
            go_quiet (fail)
            go_wp2
            go_quiet (fail)
            go_wp2
            go_ret
            exact ⟨ret_int (cmp_gt HV.out).symm, drew_three _ _ _ _⟩
          · have HS := Lib.hid (drop_same a b m hlt hlt2 HT.out (by omega))
            go_wp2
            go_quiet (fail)
            go_wp2
            go_quiet (fail)
            go_wp2
            go_roundw
            case rel => exact ⟨m, _, by omega, rfl, rfl, HS⟩
            case measure => simp [intOf]
      · obtain rfl : k = 0 := by omega
        go_wp2
        go_ret
        exact ⟨ret_int (cmp_eq (by have := HT.out; rw [List.drop_zero, List.drop_zero] at this; rw [this])).symm, q, rfl⟩
  · have hbe : ((a.length : Int) != (b.length : Int)) = true := by simp; omega
    by_cases hs : a.length < b.length
    · have HV := Lib.hid (nval_short a b OA.out.1 OB.out.1 hs OB.out.2)
      go_enter Try.func35, Try.ntmps35
      go_wp2
      go_ret
      exact ⟨ret_int (cmp_lt HV.out).symm, 0, rfl⟩
    · have HV := Lib.hid (nval_short b a OB.out.1 OA.out.1 (by omega) OA.out.2)
      go_enter Try.func35, Try.ntmps35
      go_wp2
      go_ret
      exact ⟨ret_int (cmp_gt HV.out).symm, 0, rfl⟩

theorem ok_dig {xs : List Int} (h : natOkB xs = true) : DigN xs ∧ xs.getLastD 1 ≠ 0 := ⟨(natOk_parts h).1, (natOk_parts h).2.2⟩
/-- what NatCmp answers -/
def cmpN (a b : List Int) : Int := if natOkB a = true ∧ natOkB b = true then cmpI (nval a) (nval b) else 0


/-- the first k of a row that the call owns -/
theorem own_take {w : World} {base n : Nat} {e : TypeId} {A : Option Addr} {c : Nat} {xs : List Value} (k : Nat) (hk : k ≤ n) (h : w.ownsRow base e 1 (.slice A n c) n xs) : w.ownsRow base e 1 (.slice A k c) k (xs.take k) := by
  obtain ⟨hl, ⟨h1, h2⟩ | ⟨g, cap, cur, e1, hb, hh, hn, hc, hs, ht⟩⟩ := h
  · cases h1
    obtain rfl : k = 0 := by omega
    exact ⟨by simp, .inl ⟨rfl, rfl⟩⟩
  · obtain ⟨rfl, rfl⟩ : A = some ⟨g, 0, none⟩ ∧ cap = c := by cases e1; exact ⟨rfl, rfl⟩
    refine ⟨by rw [List.length_take]; omega, .inr ⟨g, cap, cur, rfl, hb, hh, by omega, hc, hs, ?_⟩⟩
    rw [← ht, List.take_take]
    congr 1
    omega
theorem intsV_take (xs : List Int) (k : Nat) : (intsV xs).take k = intsV (xs.take k) := by simp [intsV, List.map_take]

/-- the first elements of an own row of ints, handed back -/
def OwnPost (base : Nat) (ys : List Int) (w : World) (e : Ending) (w' : World) : Prop :=
  w = w' ∧ ∃ v, e = .returned v ∧ w.ownsRow base 3 1 v ys.length (intsV ys)

/-- the first elements of an own row of ints, told by its address -/
def TrimPost (A : Option Addr) (c base : Nat) (ys : List Int) (w : World) (e : Ending) (w' : World) : Prop :=
  w = w' ∧ e = .returned (.slice A ys.length c) ∧ w.ownsRow base 3 1 (.slice A ys.length c) ys.length (intsV ys)
set_option maxHeartbeats 400000 in
set_option maxRecDepth 100000 in
theorem specTrim_at (A : Option Addr) (c : Nat) (xs : List Int) (base : Nat) (w : World) (hl : xs.length ≤ 1048576) (ho : w.ownsRow base 3 1 (.slice A xs.length c) xs.length (intsV xs)) :
    Calls Try.prog 45 #[.slice A xs.length c] w (TrimPost A c base (trimL xs) w) := by
  have hA : ∀ j u, (intsV xs)[j]? = some u → ∃ a : Addr, A = some a ∧ base ≤ a.block ∧ a.block < w.heap.size ∧ w.cell? (a.add j) = some u := by
    obtain ⟨A', c', e1, hA⟩ := Row.of_own ho
    injection e1 with e1 e2 e3
    subst e1
    exact hA
  have HA := Lib.hid hA
  have HO := Lib.hid ho
  have hcap : xs.length ≤ c := by
    rcases ho.2 with ⟨h1, h2⟩ | ⟨g, cap, cur, e1, _, _, hn, _⟩
    · omega
    · injection e1 with _ _ e3; omega
  clear hA ho
  go_enter Try.func45, Try.ntmps45
  go_wp2
  go_loop [3] (fun n => ∃ k : Nat, k ≤ xs.length ∧ n = .int .i64 k ∧ Hid (∀ j (h : j < xs.length), k ≤ j → xs[j] = 0)) (fun n => (intOf n).toNat)
  case atStart => exact ⟨xs.length, Nat.le_refl _, rfl, Lib.hid (fun j h hj => absurd h (by omega))⟩
  case round =>
    obtain ⟨k, hk, rfl, HZ⟩ := hrel
    by_cases h0 : 0 < k
    · obtain ⟨m, rfl⟩ : ∃ m, k = m + 1 := ⟨k - 1, by omega⟩
      have hlt : m < xs.length := by omega
      obtain ⟨a, rfl, _, _, hca⟩ := HA.out m _ (intsV_at xs m hlt)
      by_cases hz : xs[m] = 0
      · have hzb : (xs[m] == 0) = true := by rw [beq_iff_eq]; exact hz
        have HN : Hid (∀ j (h : j < xs.length), m ≤ j → xs[j] = 0) := Lib.hid (fun j h hj => by
          by_cases e : j = m
          · subst e; exact hz
          · exact HZ.out j h (by omega))
        clear hz
        go_wp2
        go_round
        case rel => exact ⟨m, by omega, rfl, HN⟩
        case measure => simp [intOf]
      · have hzb : (xs[m] == 0) = false := by rw [beq_eq_false_iff_ne]; exact hz
        have HT := Lib.hid (trim_prefix xs (m + 1) hk HZ.out (fun _ _ => hz))
        clear hz
        go_wp2
        go_ret
        refine ⟨rfl, ?_⟩
        rw [HT.out, ← intsV_take, List.length_take, show min (m + 1) xs.length = m + 1 from by omega]
        exact ⟨rfl, own_take (m + 1) hk HO.out⟩
    · obtain rfl : k = 0 := by omega
      have HT := Lib.hid (trim_prefix xs 0 hk HZ.out (fun _ h => absurd h (by omega)))
      go_wp2
      go_ret
      refine ⟨rfl, ?_⟩
      rw [HT.out, ← intsV_take, List.length_take, Nat.zero_min]
      exact ⟨rfl, own_take 0 hk HO.out⟩
theorem specTrim_any (v : Value) (xs : List Int) (base : Nat) (w : World) (hl : xs.length ≤ 1048576) (ho : w.ownsRow base 3 1 v xs.length (intsV xs)) :
    Calls Try.prog 45 #[v] w (OwnPost base (trimL xs) w) := by
  obtain ⟨A, c, rfl⟩ := own_len ho
  refine (specTrim_at A c xs base w hl ho).mono ?_
  rintro e w' ⟨rfl, rfl, h⟩
  exact ⟨rfl, _, rfl, h⟩

theorem trimL_length (xs : List Int) : (trimL xs).length ≤ xs.length := by
  induction xs with
  | nil => exact Nat.le_refl _
  | cons d r ih =>
    unfold trimL
    split
    · simp
    · simp; omega
set_option maxHeartbeats 400000 in
set_option maxRecDepth 100000 in
theorem specCap_any (v : Value) (xs : List Int) (base : Nat) (w : World) (hl : xs.length ≤ 1048576) (ho : w.ownsRow base 3 1 v xs.length (intsV xs)) :
    Calls Try.prog 36 #[v] w (OwnPost base (capL (trimL xs)) w) := by
  have hlt := trimL_length xs
  by_cases h50 : 50 < (trimL xs).length
  · have HC := Lib.hid (show capL (trimL xs) = [] by unfold capL; rw [if_pos h50])
    go_enter Try.func36, Try.ntmps36
    go_wp2_with fail
    refine (specTrim_any v xs base _ hl ho).mono ?_
    rintro e w' ⟨rfl, v', rfl, ho'⟩
    obtain ⟨A, c, rfl⟩ := own_len ho'
    go_wp2
    go_ret
    exact ⟨rfl, _, rfl, by rw [HC.out]; exact ⟨rfl, .inl ⟨rfl, rfl⟩⟩⟩
  · have HC := Lib.hid (show capL (trimL xs) = trimL xs by unfold capL; rw [if_neg h50])
    go_enter Try.func36, Try.ntmps36
    go_wp2_with fail
    refine (specTrim_any v xs base _ hl ho).mono ?_
    rintro e w' ⟨rfl, v', rfl, ho'⟩
    obtain ⟨A, c, rfl⟩ := own_len ho'
    go_wp2
    go_ret
    exact ⟨rfl, _, rfl, by rw [HC.out]; exact ho'⟩

/-! ### l02Add -/
theorem addL_both (a b : List Int) (i : Nat) (c : Int) (h1 : i < a.length) (h2 : i < b.length) : addL (a.drop i) (b.drop i) c = (c + a[i] + b[i]) % 1000000000 :: addL (a.drop (i + 1)) (b.drop (i + 1)) ((c + a[i] + b[i]) / 1000000000) := by
  rw [List.drop_eq_getElem_cons h1, List.drop_eq_getElem_cons h2, addL]
theorem addL_left (a b : List Int) (i : Nat) (c : Int) (h1 : i < a.length) (h2 : ¬ i < b.length) : addL (a.drop i) (b.drop i) c = (c + a[i]) % 1000000000 :: addL (a.drop (i + 1)) (b.drop (i + 1)) ((c + a[i]) / 1000000000) := by
  rw [List.drop_eq_getElem_cons h1, List.drop_of_length_le (l := b) (by omega), List.drop_of_length_le (l := b) (by omega), addL]
theorem addL_right (a b : List Int) (i : Nat) (c : Int) (h1 : ¬ i < a.length) (h2 : i < b.length) : addL (a.drop i) (b.drop i) c = (c + b[i]) % 1000000000 :: addL (a.drop (i + 1)) (b.drop (i + 1)) ((c + b[i]) / 1000000000) := by
  rw [List.drop_eq_getElem_cons h2, List.drop_of_length_le (l := a) (by omega), List.drop_of_length_le (l := a) (by omega), addL]
theorem addL_end (a b : List Int) (i : Nat) (c : Int) (h1 : ¬ i < a.length) (h2 : ¬ i < b.length) : addL (a.drop i) (b.drop i) c = if 0 < c then [c] else [] := by
  rw [List.drop_of_length_le (by omega), List.drop_of_length_le (by omega), addL]

/-- what the loop of l02Add knows at its head -/
def AddRel (a b : List Int) (w : World) (v c i : Value) (wr : World) : Prop :=
  ∃ (k : Nat) (cr : Int) (out : List Int), k ≤ a.length + b.length + 1 ∧ i = .int .i64 k ∧ c = .int .i64 cr ∧ 0 ≤ cr ∧ cr ≤ 1 ∧ out.length = k ∧ out ++ addL (a.drop k) (b.drop k) cr = addL a b 0 ∧
    wr.ownsRow w.heap.size 3 1 v out.length (intsV out) ∧ Below w.heap.size w wr
theorem add_step {a b out : List Int} {w w1 : World} {v1 : Value} {k : Nat} {n : Int} (hk : k + 1 ≤ a.length + b.length + 1) (h0 : 0 ≤ n / 1000000000) (h1 : n / 1000000000 ≤ 1) (hl : out.length = k) (e : out ++ n % 1000000000 :: addL (a.drop (k + 1)) (b.drop (k + 1)) (n / 1000000000) = addL a b 0)
    (ho : w1.ownsRow w.heap.size 3 1 v1 (out.length + 1) (intsV out ++ [.int .i64 (n % 1000000000)])) (hb : Below w.heap.size w w1) : AddRel a b w v1 (.int .i64 (n / 1000000000)) (.int .i64 ((k : Int) + 1)) w1 := by
  refine ⟨k + 1, n / 1000000000, out ++ [n % 1000000000], hk, by go_num, rfl, h0, h1, by simp [hl], by rw [List.append_assoc]; exact e, ?_, hb⟩
  simpa [intsV] using ho

end Go.Proofs.Ytofehcpapdlcnaa
