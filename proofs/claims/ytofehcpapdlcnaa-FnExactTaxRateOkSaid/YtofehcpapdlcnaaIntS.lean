/-
  What laws.toIntS, eqIntS, markIntS and heldIntS return, for slices of ints that read as lists.
-/
import Derived.Test.YtofehcpapdlcnaaCore
namespace Go.Proofs.Ytofehcpapdlcnaa
open Go.RowKit

/-- ints as cells -/
def intsV (xs : List Int) : List Value := xs.map (Value.int .i64)
theorem intsV_length (xs : List Int) : (intsV xs).length = xs.length := by simp [intsV]
theorem intsV_at (xs : List Int) (k : Nat) (h : k < xs.length) : (intsV xs)[k]? = some (.int .i64 xs[k]) := by simp [intsV, h]

theorem take_same_succ {α : Type} {ss ts : List α} {k : Nat} (h : ss.take k = ts.take k) (h1 : k < ss.length) (h2 : k < ts.length) (e : ss[k] = ts[k]) : ss.take (k + 1) = ts.take (k + 1) := by
  rw [List.take_succ_eq_append_getElem h1, List.take_succ_eq_append_getElem h2, h, e]
theorem ne_of_at {α : Type} {ss ts : List α} {k : Nat} (h1 : k < ss.length) (h2 : k < ts.length) (e : ¬ ss[k] = ts[k]) : ¬ ss = ts := by
  intro h
  subst h
  exact e rfl
theorem same_of_takes {α : Type} {ss ts : List α} {k : Nat} (h : ss.take k = ts.take k) (hl : ss.length = ts.length) (hk : ¬ k < ss.length) : ss = ts := by
  rwa [List.take_of_length_le (by omega), List.take_of_length_le (by omega)] at h

set_option maxHeartbeats 400000 in
set_option maxRecDepth 100000 in
theorem eqIntS_any (va vb : Value) (ss ts : List Int) (la ha lb hb : Nat) (w : World) (hl : ss.length ≤ 9223372036854775807)
    (hra : Row w la ha va (intsV ss)) (hrb : Row w lb hb vb (intsV ts)) :
    Calls Try.prog 31 #[va, vb] w fun e w' => e = .returned (.bool (decide (ss = ts))) ∧ ∃ q, w.drewN q = w' := by
  obtain ⟨A, c, rfl, hA⟩ := hra
  obtain ⟨B, d, rfl, hB⟩ := hrb
  rw [intsV_length, intsV_length]
  have HA := Lib.hid hA
  have HB := Lib.hid hB
  clear hA hB
  by_cases hlen : ss.length = ts.length
  · have HL := Lib.hid hlen
    have hbe : ((ss.length : Int) != (ts.length : Int)) = false := by simp [hlen]
    clear hlen
    go_enter Try.func31, Try.ntmps31
    go_wp2
    go_loopw [5] (fun i wr => ∃ k q : Nat, k ≤ ss.length ∧ i = .int .i64 k ∧ wr = w.drewN q ∧ Hid (ss.take k = ts.take k)) (fun i _ => ss.length - (intOf i).toNat)
    case atStart => exact ⟨0, 0, Nat.zero_le _, rfl, rfl, Lib.hid rfl⟩
    case round =>
      obtain ⟨k, q, hk, rfl, rfl, HT⟩ := hrel
      by_cases hlt : k < ss.length
      · have hlt2 : k < ts.length := by have := HL.out; omega
        obtain ⟨a, rfl, _, _, hca⟩ := HA.out k _ (intsV_at ss k hlt)
        obtain ⟨b, rfl, _, _, hcb⟩ := HB.out k _ (intsV_at ts k hlt2)
        by_cases he : ss[k] = ts[k]
        · rw [← he] at hcb
          have HE := Lib.hid he
          clear he
          go_wp2
          go_quiet (fail)
          go_wp2
          go_roundw
          case rel => exact ⟨k + 1, _, by omega, by go_num, rfl, Lib.hid (take_same_succ HT.out hlt hlt2 HE.out)⟩
          case measure => simp [intOf]; omega
        · have hne : (ss[k] != ts[k]) = true := by rw [bne_iff_ne]; exact he
          have hne2 : (ss[k] == ts[k]) = false := by rw [beq_eq_false_iff_ne]; exact he
          go_wp2
          go_quiet (fail)
          go_wp2
          go_ret
          exact ⟨ret_bool (decide_eq_false (ne_of_at hlt hlt2 he)).symm, _, (World.drewN_drewN _ _ _).symm⟩
      · go_wp2
        go_ret
        exact ⟨ret_bool (decide_eq_true (same_of_takes HT.out HL.out hlt)).symm, q, rfl⟩
  · have hbe : ((ss.length : Int) != (ts.length : Int)) = true := by simp; omega
    go_enter Try.func31, Try.ntmps31
    go_wp2
    go_ret
    exact ⟨ret_bool (decide_eq_false (fun e => hlen (by rw [e]))).symm, 0, rfl⟩

/-- the numbers from m on -/
def marksI (m : Int) (n : Nat) : List Value := (List.range n).map fun i : Nat => Value.int .i64 (m + (i : Int))
theorem marksI_succ (m : Int) (n : Nat) : marksI m (n + 1) = marksI m n ++ [Value.int .i64 (m + (n : Int))] := by
  simp [marksI, List.range_succ]
theorem marksI_length (m : Int) (n : Nat) : (marksI m n).length = n := by simp [marksI]
theorem marksI_get (m : Int) (n k : Nat) (h : k < n) : (marksI m n)[k]? = some (Value.int .i64 (m + (k : Int))) := by simp [marksI, h]
theorem setI_mid (m : Int) (k : Nat) (xs : List Value) (h : k < xs.length) : (marksI m k ++ xs.drop k).set k (Value.int .i64 (m + (k : Int))) = marksI m (k + 1) ++ xs.drop (k + 1) := by
  rw [List.set_append_right _ _ (by rw [marksI_length]; omega), marksI_length, Nat.sub_self, List.drop_eq_getElem_cons h, List.set_cons_zero, marksI_succ, List.append_assoc]
  rfl



theorem intInfo : (Try.prog.info? 3).map (fun i => (i.zero, i.size, i.bytes)) = some (some (.int .i64 0), 1, 8) := by kernel_rfl
theorem make_ints (n : Nat) (hn : n ≤ 1099511627776) (W : World) :
    (Instr.makeSlice 22 (.int .i64 (n : Int)) (.int .i64 (n : Int))).run Try.prog W = .ok (.slice (some ⟨W.heap.size, 0, none⟩) n n) (W.alloc (.cells (madeCells #[.int .i64 0] n) 3)) := by
  obtain ⟨i0, hi, hz0, hz1, hz2⟩ := info_parts intInfo
  have h := run_make (P := Try.prog) W 22 3 i0 (.int .i64 0) Try.underlying22 hi hz0 .i64 .i64 (n : Int) (n : Int) (by omega) (by omega) (by rw [hz2]; omega) (by omega)
  rw [hz1, Int.toNat_natCast, Nat.mul_one] at h
  exact h
theorem setI_copy (xs ys : List Value) (k : Nat) (u : Value) (hx : xs.length = ys.length) (h : k < ys.length) (hu : ys[k]? = some u) : (ys.take k ++ xs.drop k).set k u = ys.take (k + 1) ++ xs.drop (k + 1) := by
  have hl : (ys.take k).length = k := by rw [List.length_take]; omega
  have hyk : ys[k] = u := by rw [List.getElem?_eq_getElem h] at hu; injection hu
  rw [List.set_append_right _ _ (by omega), hl, Nat.sub_self, List.drop_eq_getElem_cons (by omega), List.set_cons_zero, List.take_succ_eq_append_getElem h, hyk, List.append_assoc]
  rfl

/-- a new row of ints that the call owns -/
def NewInts (xs : List Int) (w : World) (e : Ending) (w' : World) : Prop :=
  ∃ v, e = .returned v ∧ w'.ownsRow w.heap.size 3 1 v xs.length (intsV xs) ∧ Below w.heap.size w w'

set_option maxHeartbeats 400000 in
set_option maxRecDepth 100000 in
theorem toIntS_any (v : Value) (ss : List Int) (lo hi : Nat) (w : World) (hhi : hi ≤ w.heap.size) (hn : ss.length ≤ 1048576) (hr : Row w lo hi v (intsV ss)) :
    Calls Try.prog 26 #[v] w (NewInts ss w) := by
  obtain ⟨A, c, rfl, hA⟩ := hr
  have HA := Lib.hid hA
  have hmk := make_ints ss.length (by omega)
  rw [intsV_length]
  clear hA
  go_enter Try.func26, Try.ntmps26
  go_wp2
  go_loopw [4] (fun i wr => ∃ k : Nat, k ≤ ss.length ∧ i = .int .i64 k ∧ wr.ownsRow w.heap.size 3 1 (.slice (some ⟨w.heap.size, 0, none⟩) ss.length ss.length) ss.length ((intsV ss).take k ++ (List.replicate ss.length (Value.int .i64 0)).drop k) ∧ Below w.heap.size w wr) (fun i _ => ss.length - (intOf i).toNat)
  case atStart =>
    refine ⟨0, Nat.zero_le _, rfl, ?_, (Below.refl _ _).alloc (Nat.le_refl _) _⟩
    have h := World.ownsRow_lit (e := 3) (size := 1) (base := w.heap.size) w (madeCells #[.int .i64 0] ss.length) ss.length (Nat.le_refl _) (by unfold maxLen; omega) (by rw [size_madeCells, Nat.mul_one])
    rw [toList_madeCells_one] at h
    exact h
  case round =>
    obtain ⟨k, hk, rfl, ho, hb⟩ := hrel
    by_cases hlt : k < ss.length
    · obtain ⟨a, rfl, _, hab, hca⟩ := HA.out k _ (intsV_at ss k hlt)
      have hca' : wr.cell? (a.add k) = some (.int .i64 ss[k]) := (hb.cell (by rw [block_add]; omega)).trans hca
      clear hca
      have hcell := ho.cellAt k (by omega)
      rw [List.getElem?_eq_getElem (by simp [intsV_length]; omega)] at hcell
      have hfr := ho.frozenAt k
      obtain ⟨ho2, hg2⟩ := ho.stored k (.int .i64 ss[k])
      rw [setI_copy _ _ k _ (by simp [intsV_length]) (by rw [intsV_length]; exact hlt) (intsV_at ss k hlt)] at ho2
      have hb2 := hb.grown hg2 hb.size (fun g hg => by cases hg; exact Nat.le_refl _)
      clear ho hg2
      go_wp2
      go_roundw
      case rel => exact ⟨k + 1, by omega, by go_num, ho2, hb2⟩
      case measure => simp [intOf]; omega
    · obtain rfl : k = ss.length := by omega
      rw [List.take_of_length_le (by rw [intsV_length]; exact Nat.le_refl _), List.drop_of_length_le (by simp), List.append_nil] at ho
      go_wp2
      go_ret
      exact ⟨_, rfl, ho, hb⟩
end Go.Proofs.Ytofehcpapdlcnaa
