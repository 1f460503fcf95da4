/-
  Chapter 13: WeightsOk of both packages, and the sums of weights.
-/
import Derived.Test.YtipbdpdmefcofaaDoorShareWt
import Derived.Test.YtipbdpdmefcofaaDoorNatSpec
namespace Go.Proofs.YtipbdpdmefcofaaDoor
open Go.RowKit

def wtB (x : Int) : Bool := decide (0 ≤ x ∧ x ≤ 1000000000)
theorem sum_take {w : List Int} {k : Nat} (h : k < w.length) : (w.take (k + 1)).sum = (w.take k).sum + w[k] := by
  rw [List.take_succ_eq_append_getElem h, List.sum_append]
  simp
theorem sum_bounds {w : List Int} (h : w.all wtB = true) (hl : w.length ≤ 30) (k : Nat) : 0 ≤ (w.take k).sum ∧ (w.take k).sum ≤ 30000000000 := by
  have h1 : ∀ x ∈ w.take k, 0 ≤ x ∧ x ≤ 1000000000 := fun x hx => by
    have := List.all_eq_true.1 h x (List.mem_of_mem_take hx)
    exact of_decide_eq_true this
  obtain ⟨_, h2, h3⟩ := sum_nat _ h1
  have h4 : (w.take k).length ≤ 30 := by rw [List.length_take]; omega
  omega
theorem okW_yes {w : List Int} (h1 : 1 ≤ w.length) (h2 : w.length ≤ 30) (h : w.all wtB = true) : okW w = decide (0 < w.sum) := by
  unfold okW
  rw [decide_eq_true ⟨h1, h2⟩, show w.all (fun x => decide (0 ≤ x ∧ x ≤ 1000000000)) = true from h]
  rfl
theorem okW_badlen {w : List Int} (h : ¬ (1 ≤ w.length ∧ w.length ≤ 30)) : okW w = false := by
  unfold okW
  rw [decide_eq_false h]
  rfl
theorem okW_bad {w : List Int} (h : w.all wtB = false) : okW w = false := by
  unfold okW
  rw [show w.all (fun x => decide (0 ≤ x ∧ x ≤ 1000000000)) = false from h, Bool.and_false]
  rfl
theorem wt_succ (w : List Int) (k : Nat) (hk : k < w.length) (h : (w.take k).all wtB = true) (hd : wtB w[k] = true) : (w.take (k + 1)).all wtB = true := by
  rw [List.take_succ_eq_append_getElem hk, List.all_append, h]
  simp [hd]
theorem wt_not (w : List Int) (k : Nat) (hk : k < w.length) (hd : wtB w[k] = false) : w.all wtB = false := by
  rw [List.all_eq_false]
  exact ⟨w[k], List.getElem_mem hk, by rw [hd]; decide⟩
theorem wt_upto (w : List Int) (k : Nat) (h : (w.take k).all wtB = true) (hk : ¬ k < w.length) : w.all wtB = true := by
  rw [List.take_of_length_le (by omega)] at h; exact h

set_option maxHeartbeats 400000 in
set_option maxRecDepth 100000 in
theorem specSumW_any (v : Value) (xs : List Int) (lo hi : Nat) (w : World) (hl : xs.length ≤ 30) (ha : xs.all wtB = true) (hr : Row w lo hi v (intsV xs)) :
    Calls Tryd.prog 23 #[v] w fun e w' => e = .returned (.int .i64 xs.sum) ∧ w = w' := by
  obtain ⟨A, c, rfl, hA⟩ := hr
  have HA := Lib.hid hA
  have HB := Lib.hid (sum_bounds ha hl)
  rw [intsV_length]
  clear hA ha
  go_enter Tryd.func23, Tryd.ntmps23
  go_wp2
  go_loop [3, 8] (fun t i => ∃ k : Nat, k ≤ xs.length ∧ i = .int .i64 k ∧ t = .int .i64 (xs.take k).sum) (fun _ i => xs.length - (intOf i).toNat)
  case atStart => exact ⟨0, Nat.zero_le _, rfl, rfl⟩
  case round =>
    obtain ⟨k, hk, rfl, rfl⟩ := hrel
    by_cases hlt : k < xs.length
    · obtain ⟨a, rfl, _, _, hca⟩ := HA.out k _ (intsV_at xs k hlt)
      have HS := Lib.hid (sum_take hlt)
      have h1 := (HB.out k).1
      have h2 := (HB.out k).2
      have h3 := (HB.out (k + 1)).1
      have h4 := (HB.out (k + 1)).2
      rw [HS.out] at h3 h4
      generalize (xs.take k).sum = S at *
      go_wp2
      go_round
      case rel => exact ⟨k + 1, by omega, by go_num, by rw [HS.out]⟩
      case measure => simp [intOf]; omega
    · obtain rfl : k = xs.length := by omega
      rw [show (xs.take xs.length).sum = xs.sum by rw [List.take_length]]
      have h1 := (HB.out xs.length).1
      have h2 := (HB.out xs.length).2
      rw [List.take_length] at h1 h2
      go_wp2
      go_ret
      exact ⟨rfl, rfl⟩
set_option maxHeartbeats 400000 in
set_option maxRecDepth 100000 in
theorem implTotal_any (v : Value) (xs : List Int) (lo hi : Nat) (w : World) (hl : xs.length ≤ 30) (ha : xs.all wtB = true) (hr : Row w lo hi v (intsV xs)) :
    Calls Tryd.prog 29 #[v] w fun e w' => e = .returned (.int .i64 xs.sum) ∧ w = w' := by
  obtain ⟨A, c, rfl, hA⟩ := hr
  have HA := Lib.hid hA
  have HB := Lib.hid (sum_bounds ha hl)
  rw [intsV_length]
  clear hA ha
  go_enter Tryd.func29, Tryd.ntmps29
  go_wp2
  go_loop [3, 8] (fun t i => ∃ k : Nat, k ≤ xs.length ∧ i = .int .i64 k ∧ t = .int .i64 (xs.take k).sum) (fun _ i => xs.length - (intOf i).toNat)
  case atStart => exact ⟨0, Nat.zero_le _, rfl, rfl⟩
  case round =>
    obtain ⟨k, hk, rfl, rfl⟩ := hrel
    by_cases hlt : k < xs.length
    · obtain ⟨a, rfl, _, _, hca⟩ := HA.out k _ (intsV_at xs k hlt)
      have HS := Lib.hid (sum_take hlt)
      have h1 := (HB.out k).1
      have h2 := (HB.out k).2
      have h3 := (HB.out (k + 1)).1
      have h4 := (HB.out (k + 1)).2
      rw [HS.out] at h3 h4
      generalize (xs.take k).sum = S at *
      go_wp2
      go_round
      case rel => exact ⟨k + 1, by omega, by go_num, by rw [HS.out]⟩
      case measure => simp [intOf]; omega
    · obtain rfl : k = xs.length := by omega
      rw [show (xs.take xs.length).sum = xs.sum by rw [List.take_length]]
      have h1 := (HB.out xs.length).1
      have h2 := (HB.out xs.length).2
      rw [List.take_length] at h1 h2
      go_wp2
      go_ret
      exact ⟨rfl, rfl⟩
set_option maxHeartbeats 400000 in
set_option maxRecDepth 100000 in
theorem specWeightsOk_any (v : Value) (xs : List Int) (lo hi : Nat) (w : World) (hl : xs.length ≤ 9223372036854775807) (hr : Row w lo hi v (intsV xs)) :
    Calls Tryd.prog 17 #[v] w fun e w' => e = .returned (.bool (okW xs)) ∧ w = w' := by
  have HR := Lib.hid hr
  obtain ⟨A, c, rfl, hA⟩ := hr
  have HA := Lib.hid hA
  rw [intsV_length] at HR ⊢
  clear hA
  by_cases hb : 1 ≤ xs.length ∧ xs.length ≤ 30
  · have hin : decide ((1 : Int) ≤ xs.length ∧ (xs.length : Int) ≤ 30) = true := decide_eq_true (by omega)
    go_enter Tryd.func17, Tryd.ntmps17
    go_wp2_with (go_at_call 18; refine (specIn_any _ _ _ true _ hin).mono ?_; rintro e w' ⟨rfl, rfl⟩)
    go_loop [11] (fun i => ∃ k : Nat, k ≤ xs.length ∧ i = .int .i64 k ∧ Hid ((xs.take k).all wtB = true)) (fun i => xs.length - (intOf i).toNat)
    case atStart => exact ⟨0, Nat.zero_le _, rfl, Lib.hid rfl⟩
    case round =>
      obtain ⟨k, hk, rfl, HD⟩ := hrel
      by_cases hlt : k < xs.length
      · obtain ⟨a, rfl, _, _, hca⟩ := HA.out k _ (intsV_at xs k hlt)
        by_cases hd : wtB xs[k] = true
        · have HS := Lib.hid (wt_succ xs k hlt HD.out hd)
          go_wp2_with (go_at_call 18; refine (specIn_any _ _ _ true _ hd).mono ?_; rintro e w' ⟨rfl, rfl⟩)
          go_round
          case rel => exact ⟨k + 1, by omega, by go_num, HS⟩
          case measure => simp [intOf]; omega
        · have hd' : wtB xs[k] = false := by simpa using hd
          have HN := Lib.hid (okW_bad (wt_not xs k hlt hd'))
          go_wp2_with (go_at_call 18; refine (specIn_any _ _ _ false _ hd').mono ?_; rintro e w' ⟨rfl, rfl⟩)
          go_ret
          exact ⟨ret_bool HN.out.symm, rfl⟩
      · have HF := Lib.hid (wt_upto xs k HD.out hlt)
        have HK := Lib.hid (okW_yes hb.1 hb.2 HF.out)
        go_wp2_with (go_at_call 23; refine (specSumW_any _ xs _ _ _ hb.2 HF.out HR.out).mono ?_; rintro e w' ⟨rfl, rfl⟩)
        go_ret
        exact ⟨ret_bool (by rw [HK.out]), rfl⟩
  · have hin : decide ((1 : Int) ≤ xs.length ∧ (xs.length : Int) ≤ 30) = false := decide_eq_false (by omega)
    have HN := Lib.hid (okW_badlen hb)
    clear hb
    go_enter Tryd.func17, Tryd.ntmps17
    go_wp2_with (go_at_call 18; refine (specIn_any _ _ _ false _ hin).mono ?_; rintro e w' ⟨rfl, rfl⟩)
    go_ret
    exact ⟨ret_bool HN.out.symm, rfl⟩
set_option maxHeartbeats 400000 in
set_option maxRecDepth 100000 in
theorem implWeightsOk_any (v : Value) (xs : List Int) (lo hi : Nat) (w : World) (hl : xs.length ≤ 9223372036854775807) (hr : Row w lo hi v (intsV xs)) :
    Calls Tryd.prog 25 #[v] w fun e w' => e = .returned (.bool (okW xs)) ∧ w = w' := by
  have HR := Lib.hid hr
  obtain ⟨A, c, rfl, hA⟩ := hr
  have HA := Lib.hid hA
  rw [intsV_length] at HR ⊢
  clear hA
  by_cases hb : xs.length ≤ 30
  · go_enter Tryd.func25, Tryd.ntmps25
    go_wp2
    go_loop [10] (fun i => ∃ k : Nat, k ≤ xs.length ∧ i = .int .i64 k ∧ Hid ((xs.take k).all wtB = true)) (fun i => xs.length - (intOf i).toNat)
    case atStart => exact ⟨0, Nat.zero_le _, rfl, Lib.hid rfl⟩
    case round =>
      obtain ⟨k, hk, rfl, HD⟩ := hrel
      by_cases hlt : k < xs.length
      · obtain ⟨a, rfl, _, _, hca⟩ := HA.out k _ (intsV_at xs k hlt)
        by_cases hd : wtB xs[k] = true
        · have HS := Lib.hid (wt_succ xs k hlt HD.out hd)
          have hd2 : 0 ≤ xs[k] ∧ xs[k] ≤ 1000000000 := of_decide_eq_true hd
          have hd3 := hd2.1
          have hd4 := hd2.2
          clear hd2 hd
          go_wp2
          go_round
          case rel => exact ⟨k + 1, by omega, by go_num, HS⟩
          case measure => simp [intOf]; omega
        · have hd' : wtB xs[k] = false := by simpa using hd
          have HN := Lib.hid (okW_bad (wt_not xs k hlt hd'))
          have hd2 : ¬ (0 ≤ xs[k] ∧ xs[k] ≤ 1000000000) := of_decide_eq_false hd'
          clear hd hd'
          by_cases hneg : xs[k] < 0
          · go_wp2
            go_ret
            exact ⟨ret_bool HN.out.symm, rfl⟩
          · have hbig : 1000000000 < xs[k] := by omega
            clear hd2
            go_wp2
            go_ret
            exact ⟨ret_bool HN.out.symm, rfl⟩
      · have HF := Lib.hid (wt_upto xs k HD.out hlt)
        have HK := Lib.hid (show okW xs = decide (0 < xs.sum) from by
          by_cases h1 : 1 ≤ xs.length
          · exact okW_yes h1 hb HF.out
          · rw [okW_badlen (fun h => h1 h.1), List.eq_nil_of_length_eq_zero (l := xs) (by omega)]
            rfl)
        go_wp2_with (go_at_call 29; refine (implTotal_any _ xs _ _ _ hb HF.out HR.out).mono ?_; rintro e w' ⟨rfl, rfl⟩)
        go_ret
        exact ⟨ret_bool (by rw [HK.out]), rfl⟩
  · have HN := Lib.hid (okW_badlen (w := xs) (by omega))
    have hb2 : (30 : Int) < xs.length := by omega
    go_enter Tryd.func25, Tryd.ntmps25
    go_wp2
    go_ret
    exact ⟨ret_bool HN.out.symm, rfl⟩
end Go.Proofs.YtipbdpdmefcofaaDoor
