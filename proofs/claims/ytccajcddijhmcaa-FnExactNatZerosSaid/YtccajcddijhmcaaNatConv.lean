/-
  What NatOf and NatInt of package spec return.
-/
import Derived.Test.YtccajcddijhmcaaNatMul
namespace Go.Proofs.Ytccajcddijhmcaa
open Go.RowKit

theorem limbs_pos (n : Nat) (h : n ≠ 0) : limbs n = ((n % 1000000000 : Nat) : Int) :: limbs (n / 1000000000) := by rw [limbs, dif_neg h]
theorem limbs_none : limbs 0 = [] := by rw [limbs, dif_pos rfl]
theorem Row.lit (w : World) (cs : Array Value) (t : TypeId) : Row (w.alloc (.cells cs t)) w.heap.size (w.heap.size + 1) (.slice (some ⟨w.heap.size, 0, none⟩) cs.size cs.size) cs.toList := by
  refine ⟨_, _, rfl, fun j u hu => ⟨_, rfl, Nat.le_refl _, Nat.lt_succ_self _, ?_⟩⟩
  have e1 : (Addr.add ⟨w.heap.size, 0, none⟩ j) = ⟨w.heap.size, j, none⟩ := by
    unfold Addr.add
    split
    · simp_all
    · simp
  rw [e1, World.cell?_alloc_at _ _ _ _ rfl]
  simpa using hu


/-- what NatInt answers -/
def natIntN (a : List Int) : Int × Bool := if natOkB a = true ∧ nval a ≤ 9223372036854775807 then (nval a, true) else (0, false)
def TwoPost (r : Int × Bool) (w : World) (e : Ending) (w' : World) : Prop := e = .returned (.tuple #[.int .i64 r.1, .bool r.2]) ∧ Below w.heap.size w w'
theorem nval_drop_le (a : List Int) (ha : DigN a) (k : Nat) : nval (a.drop k) ≤ nval a := by
  induction k with
  | zero => simp
  | succ k ih =>
    by_cases h : k < a.length
    · have h1 := nval_drop a k h
      have h2 := ha.at_ k h
      have h3 := nval_nonneg (a.drop (k + 1)) (ha.drop _)
      omega
    · rw [List.drop_of_length_le (by omega)]
      exact nval_nonneg a ha
theorem max_nat : nval [854775807, 223372036, 9] = 9223372036854775807 := by simp [nval]
theorem max_dig : DigN [854775807, 223372036, 9] ∧ [854775807, 223372036, (9 : Int)].getLastD 1 ≠ 0 := by
  refine ⟨fun d hd => ?_, by decide⟩
  simp at hd
  omega

set_option maxHeartbeats 1000000 in
set_option maxRecDepth 100000 in
theorem specNatInt_any (v : Value) (a : List Int) (lo hi : Nat) (w : World) (hal : a.length ≤ 1048576) (hhi : hi ≤ w.heap.size) (hr : Row w lo hi v (intsV a)) :
    Calls Try.prog 10 #[v] w (TwoPost (natIntN a) w) := by
  by_cases ok : natOkB a = true
  · have pa := natOk_parts ok
    have PA := Lib.hid pa
    have h50 := pa.2.1
    clear pa
    by_cases hbig : 9223372036854775807 < nval a
    · have HR := Lib.hid (show natIntN a = (0, false) by unfold natIntN; rw [if_neg (fun h => by have := h.2; omega)])
      have HC : Hid (cmpI (nval a) (nval [854775807, 223372036, 9]) = 1) := Lib.hid (cmp_gt (by rw [max_nat]; exact hbig))
      clear hbig
      go_enter Try.func10, Try.ntmps10
      go_wp2_with fail
      refine (specNatOk_any v a lo hi _ (by omega) hr).mono ?_
      rintro e w' ⟨rfl, rfl⟩
      rw [ok]
      go_wp2_with fail
      refine (specCmp_any v _ a [854775807, 223372036, 9] lo hi w.heap.size (w.heap.size + 1) _ (by omega) (by simp) ⟨PA.out.1, PA.out.2.2⟩ max_dig (hr.below ((Below.refl _ _).alloc (Nat.le_refl _) _) hhi) (Row.lit w #[.int .i64 854775807, .int .i64 223372036, .int .i64 9] _)).mono ?_
      rintro e w' ⟨rfl, q, rfl⟩
      rw [HC.out]
      go_wp2
      go_ret2
      exact ⟨by rw [HR.out]; rfl, below_drewN ((Below.refl _ _).alloc (Nat.le_refl _) _) q⟩
    · have HR := Lib.hid (show natIntN a = (nval a, true) by unfold natIntN; rw [if_pos ⟨ok, by omega⟩])
      have hcd : ¬ 0 < cmpI (nval a) (nval [854775807, 223372036, 9]) := by
        unfold cmpI
        rw [max_nat, if_neg (show ¬ 9223372036854775807 < nval a from hbig)]
        split <;> omega
      have hnv : nval a ≤ 9223372036854775807 := by omega
      clear hbig
      go_enter Try.func10, Try.ntmps10
      go_wp2_with fail
      refine (specNatOk_any v a lo hi _ (by omega) hr).mono ?_
      rintro e w' ⟨rfl, rfl⟩
      rw [ok]
      go_wp2_with fail
      refine (specCmp_any v _ a [854775807, 223372036, 9] lo hi w.heap.size (w.heap.size + 1) _ (by omega) (by simp) ⟨PA.out.1, PA.out.2.2⟩ max_dig (hr.below ((Below.refl _ _).alloc (Nat.le_refl _) _) hhi) (Row.lit w #[.int .i64 854775807, .int .i64 223372036, .int .i64 9] _)).mono ?_
      rintro e w' ⟨rfl, q, rfl⟩
      obtain ⟨A, c, rfl, hA⟩ := hr
      have HA := Lib.hid hA
      rw [intsV_length]
      clear hA
      have hbl : Below w.heap.size w ((w.alloc (.cells #[.int .i64 854775807, .int .i64 223372036, .int .i64 9] 3)).drewN q) := below_drewN ((Below.refl _ _).alloc (Nat.le_refl _) _) q
      go_wp2
      go_loop [4, 5] (fun n i => ∃ (k : Nat) (m : Int), k ≤ a.length ∧ i = .int .i64 ((k : Int) - 1) ∧ n = .int .i64 m ∧ Hid (m = nval (a.drop k))) (fun _ i => (intOf i + 1).toNat)
      case atStart => exact ⟨a.length, 0, Nat.le_refl _, rfl, rfl, Lib.hid (by rw [List.drop_of_length_le (Nat.le_refl _)]; rfl)⟩
      case round =>
        obtain ⟨k, m, hk, rfl, rfl, HM⟩ := hrel
        have hm0 : 0 ≤ m := by rw [HM.out]; exact nval_nonneg _ (PA.out.1.drop k)
        by_cases hz : 0 < k
        · obtain ⟨j, rfl⟩ : ∃ j, k = j + 1 := ⟨k - 1, by omega⟩
          have hlt : j < a.length := by omega
          obtain ⟨p, rfl, _, hpb, hca⟩ := HA.out j _ (intsV_at a j hlt)
          have hca' : ((w.alloc (.cells #[.int .i64 854775807, .int .i64 223372036, .int .i64 9] 3)).drewN q).cell? (p.add j) = some (.int .i64 a[j]) := (hbl.cell (by rw [block_add]; omega)).trans hca
          have hda := PA.out.1.at_ j hlt
          have HD := Lib.hid (nval_drop a j hlt)
          have hle : m * 1000000000 + a[j] ≤ 9223372036854775807 := by
            have h1 := nval_drop_le a PA.out.1 j
            have h2 := HD.out
            have h3 := HM.out
            omega
          have hm1 : ((j + 1 : Nat) : Int) - 1 = (j : Int) := by omega
          rw [hm1]
          clear hm1 hz hca
          go_wp2
          go_round
          case rel => exact ⟨j, m * 1000000000 + a[j], by omega, rfl, rfl, Lib.hid (by rw [HD.out, ← HM.out]; omega)⟩
          case measure => simp [intOf]
        · obtain rfl : k = 0 := by omega
          go_wp2
          go_ret2
          exact ⟨by rw [HR.out, HM.out]; rfl, hbl⟩
  · have ok' : natOkB a = false := by simpa using ok
    have HR := Lib.hid (show natIntN a = (0, false) by unfold natIntN; rw [if_neg (fun h => ok h.1)])
    clear ok
    go_enter Try.func10, Try.ntmps10
    go_wp2_with fail
    refine (specNatOk_any v a lo hi _ hal hr).mono ?_
    rintro e w' ⟨rfl, rfl⟩
    rw [ok']
    go_wp2
    go_ret2
    exact ⟨by rw [HR.out]; rfl, Below.refl _ _⟩
end Go.Proofs.Ytccajcddijhmcaa
