/-
  What laws.toStringS and szStringS return.
-/
import Derived.Test.YtppgdekcngkijaaMarkS
namespace Go.Proofs.Ytppgdekcngkijaa
open Go.RowKit

theorem strInfo' : (Try.prog.info? 9).map (fun i => (i.zero, i.size, i.bytes)) = some (some (.string ⟨#[]⟩), 1, 16) := by kernel_rfl
theorem make_strs (n : Nat) (hn : n ≤ 1099511627776) (W : World) :
    (Instr.makeSlice 23 (.int .i64 (n : Int)) (.int .i64 (n : Int))).run Try.prog W = .ok (.slice (some ⟨W.heap.size, 0, none⟩) n n) (W.alloc (.cells (madeCells #[.string ⟨#[]⟩] n) 9)) := by
  obtain ⟨i0, hi, hz0, hz1, hz2⟩ := info_parts strInfo'
  have h := run_make (P := Try.prog) W 23 9 i0 (.string ⟨#[]⟩) Try.underlying23 hi hz0 .i64 .i64 (n : Int) (n : Int) (by omega) (by omega) (by rw [hz2]; omega) (by omega)
  rw [hz1, Int.toNat_natCast, Nat.mul_one] at h
  exact h

theorem set_copy (xs ys : List Value) (k : Nat) (u : Value) (hx : xs.length = ys.length) (h : k < ys.length) (hu : ys[k]? = some u) : (ys.take k ++ xs.drop k).set k u = ys.take (k + 1) ++ xs.drop (k + 1) := by
  have hl : (ys.take k).length = k := by rw [List.length_take]; omega
  have hyk : ys[k] = u := by rw [List.getElem?_eq_getElem h] at hu; injection hu
  rw [List.set_append_right _ _ (by omega), hl, Nat.sub_self, List.drop_eq_getElem_cons (by omega), List.set_cons_zero, List.take_succ_eq_append_getElem h, hyk, List.append_assoc]
  rfl

set_option maxHeartbeats 400000 in
theorem toStringS_any (v : Value) (ss : List ByteArray) (lo hi : Nat) (w : World) (hhi : hi ≤ w.heap.size) (hn : ss.length ≤ 1048576) (hr : Row w lo hi v (ss.map Value.string)) :
    Calls Try.prog 28 #[v] w fun e w' => ∃ v', e = .returned v' ∧ w'.ownsRow w.heap.size 9 1 v' ss.length (ss.map Value.string) ∧ Below w.heap.size w w' := by
  obtain ⟨A, c, rfl, hA⟩ := hr
  have HA := Lib.hid hA
  have hmk := make_strs ss.length (by omega)
  rw [List.length_map]
  clear hA
  go_enter Try.func28, Try.ntmps28
  go_wp2
  go_loopw [4] (fun i wr => ∃ k : Nat, k ≤ ss.length ∧ i = .int .i64 k ∧ wr.ownsRow w.heap.size 9 1 (.slice (some ⟨w.heap.size, 0, none⟩) ss.length ss.length) ss.length ((ss.map Value.string).take k ++ (List.replicate ss.length (Value.string ⟨#[]⟩)).drop k) ∧ Below w.heap.size w wr) (fun i _ => ss.length - (intOf i).toNat)
  case atStart =>
    refine ⟨0, Nat.zero_le _, rfl, ?_, (Below.refl _ _).alloc (Nat.le_refl _) _⟩
    have h := World.ownsRow_lit (e := 9) (size := 1) (base := w.heap.size) w (madeCells #[.string ⟨#[]⟩] ss.length) ss.length (Nat.le_refl _) (by unfold maxLen; omega) (by rw [size_madeCells, Nat.mul_one])
    rw [toList_madeCells_one] at h
    exact h
  case round =>
    obtain ⟨k, hk, rfl, ho, hb⟩ := hrel
    by_cases hlt : k < ss.length
    · obtain ⟨a, rfl, _, hab, hca⟩ := HA.out k (.string ss[k]) (by simp [hlt])
      have hca' : wr.cell? (a.add k) = some (.string ss[k]) := (hb.cell (by rw [block_add]; omega)).trans hca
      clear hca
      have hcell := ho.cellAt k (by omega)
      rw [List.getElem?_eq_getElem (by simp; omega)] at hcell
      have hfr := ho.frozenAt k
      obtain ⟨ho2, hg2⟩ := ho.stored k (.string ss[k])
      rw [set_copy _ _ k _ (by simp) (by simpa using hlt) (by simp [hlt])] at ho2
      have hb2 := hb.grown hg2 hb.size (fun g hg => by cases hg; exact Nat.le_refl _)
      clear ho hg2
      go_wp2
      go_roundw
      case rel => exact ⟨k + 1, by omega, by go_num, ho2, hb2⟩
      case measure => simp [intOf]; omega
    · obtain rfl : k = ss.length := by omega
      rw [List.take_of_length_le (by simp), List.drop_of_length_le (by simp), List.append_nil] at ho
      go_wp2
      go_ret
      exact ⟨_, rfl, ho, hb⟩

/-- the bytes of the first k strings -/
def sizeTo (ss : List ByteArray) (k : Nat) : Nat := ((ss.take k).map ByteArray.size).sum
theorem sizeTo_succ (ss : List ByteArray) (k : Nat) (h : k < ss.length) : sizeTo ss (k + 1) = sizeTo ss k + ss[k].size := by
  unfold sizeTo
  rw [List.take_succ_eq_append_getElem h, List.map_append, List.sum_append, List.map_cons, List.map_nil, List.sum_cons, List.sum_nil, Nat.add_zero]
theorem sizeTo_le (ss : List ByteArray) (s : ByteArray) (h : s ∈ ss) : s.size ≤ sizeTo ss ss.length := by
  unfold sizeTo
  rw [List.take_length]
  induction ss with
  | nil => cases h
  | cons a r ih =>
    rw [List.map_cons, List.sum_cons]
    cases h with
    | head => omega
    | tail _ h => have := ih h; omega

/-- szStringS hands back a negative number, or how much is left -/
def SzPost (left : Int) (ss : List ByteArray) (w : World) (e : Ending) (w' : World) : Prop :=
  w = w' ∧ ∃ r : Int, e = .returned (.int .i64 r) ∧ (r < 0 ∨ (0 ≤ r ∧ (ss.length : Int) + sizeTo ss ss.length ≤ left))

set_option maxHeartbeats 400000 in
theorem szStringS_any (v : Value) (ss : List ByteArray) (lo hi : Nat) (left : Int) (w : World) (h0 : 0 ≤ left) (hl : left ≤ 1099511627776) (hn : ss.length ≤ 9223372036854775807) (hs : ∀ s ∈ ss, s.size ≤ maxLen) (hr : Row w lo hi v (ss.map Value.string)) :
    Calls Try.prog 26 #[v, .int .i64 left] w (SzPost left ss w) := by
  obtain ⟨A, c, rfl, hA⟩ := hr
  have HA := Lib.hid hA
  have HS := Lib.hid hs
  rw [List.length_map]
  clear hA hs
  by_cases hneg : left - ss.length < 0
  · go_enter Try.func26, Try.ntmps26
    go_wp2
    go_ret
    exact ⟨rfl, -1, rfl, .inl (by omega)⟩
  · go_enter Try.func26, Try.ntmps26
    go_wp2
    go_loop [1, 5] (fun a i => ∃ k : Nat, k ≤ ss.length ∧ i = .int .i64 k ∧ a = .int .i64 (left - ss.length - sizeTo ss k) ∧ 0 ≤ left - ss.length - sizeTo ss k) (fun _ i => ss.length - (intOf i).toNat)
    case atStart => exact ⟨0, Nat.zero_le _, rfl, by simp [sizeTo], by simp [sizeTo]; omega⟩
    case round =>
      obtain ⟨k, hk, rfl, rfl, hge⟩ := hrel
      by_cases hlt : k < ss.length
      · obtain ⟨a, rfl, _, hab, hca⟩ := HA.out k (.string ss[k]) (by simp [hlt])
        have hsk : ss[k].size ≤ 9223372036854775807 := HS.out _ (List.getElem_mem hlt)
        have HZ := Lib.hid (sizeTo_succ ss k hlt)
        by_cases hz : left - ss.length - sizeTo ss k - ss[k].size < 0
        · go_wp2
          go_ret
          exact ⟨rfl, -1, rfl, .inl (by omega)⟩
        · go_wp2
          go_round
          case rel => exact ⟨k + 1, by omega, by go_num, by rw [HZ.out]; go_num, by have := HZ.out; omega⟩
          case measure => simp [intOf]; omega
      · obtain rfl : k = ss.length := by omega
        go_wp2
        go_ret
        exact ⟨rfl, _, rfl, .inr ⟨hge, by omega⟩⟩
end Go.Proofs.Ytppgdekcngkijaa
