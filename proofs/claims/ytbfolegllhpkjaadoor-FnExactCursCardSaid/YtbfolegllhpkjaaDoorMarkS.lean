/-
  What laws.eqStringS, markStringS and heldStringS return, for slices of strings that read as lists.
-/
import Derived.Test.YtbfolegllhpkjaaDoorMarkText
import Derived.Deep.RegionHeld3
namespace Go.Proofs.YtbfolegllhpkjaaDoor
open Go.RowKit

theorem take_eq_succ {α : Type} {ss ts : List α} {k : Nat} (h : ss.take k = ts.take k) (h1 : k < ss.length) (h2 : k < ts.length) (e : ss[k] = ts[k]) : ss.take (k + 1) = ts.take (k + 1) := by
  rw [List.take_succ_eq_append_getElem h1, List.take_succ_eq_append_getElem h2, h, e]
theorem ne_of_get {α : Type} {ss ts : List α} {k : Nat} (h1 : k < ss.length) (h2 : k < ts.length) (e : ¬ ss[k] = ts[k]) : ¬ ss = ts := by
  intro h
  subst h
  exact e rfl

theorem bytes_ne {a b : ByteArray} (h : ¬ a = b) : (a.toList == b.toList) = false := by
  rw [beq_eq_false_iff_ne, ByteArray.toList_eq, ByteArray.toList_eq]
  exact fun e => h (WideShapes.bytes_inj e)
theorem eq_of_takes {α : Type} {ss ts : List α} {k : Nat} (h : ss.take k = ts.take k) (hl : ss.length = ts.length) (hk : ¬ k < ss.length) : ss = ts := by
  rwa [List.take_of_length_le (by omega), List.take_of_length_le (by omega)] at h

set_option maxHeartbeats 400000 in
set_option maxRecDepth 100000 in
theorem eqStringS_any (va vb : Value) (ss ts : List ByteArray) (la ha lb hb : Nat) (w : World) (hl : ss.length ≤ 9223372036854775807)
    (hra : Row w la ha va (ss.map Value.string)) (hrb : Row w lb hb vb (ts.map Value.string)) :
    Calls Tryd.prog 9 #[va, vb] w fun e w' => e = .returned (.bool (decide (ss = ts))) ∧ ∃ q, w.drewN q = w' := by
  obtain ⟨A, c, rfl, hA⟩ := hra
  obtain ⟨B, d, rfl, hB⟩ := hrb
  rw [List.length_map, List.length_map] 
  have HA := Lib.hid hA
  have HB := Lib.hid hB
  clear hA hB
  by_cases hlen : ss.length = ts.length
  · have HL := Lib.hid hlen
    have hbe : ((ss.length : Int) != (ts.length : Int)) = false := by simp [hlen]
    clear hlen
    go_enter Tryd.func9, Tryd.ntmps9
    go_wp2
    go_loopw [5] (fun i wr => ∃ k q : Nat, k ≤ ss.length ∧ i = .int .i64 k ∧ wr = w.drewN q ∧ Hid (ss.take k = ts.take k)) (fun i _ => ss.length - (intOf i).toNat)
    case atStart => exact ⟨0, 0, Nat.zero_le _, rfl, rfl, Lib.hid rfl⟩
    case round =>
      obtain ⟨k, q, hk, rfl, rfl, HT⟩ := hrel
      by_cases hlt : k < ss.length
      · have hlt2 : k < ts.length := by have := HL.out; omega
        obtain ⟨a, rfl, _, _, hca⟩ := HA.out k (.string ss[k]) (by simp [hlt])
        obtain ⟨b, rfl, _, _, hcb⟩ := HB.out k (.string ts[k]) (by simp [hlt2])
        by_cases he : ss[k] = ts[k]
        · rw [← he] at hcb
          have HE := Lib.hid he
          clear he
          go_wp2
          go_quiet (fail)
          go_wp2
          go_roundw
          case rel => exact ⟨k + 1, _, by omega, by go_num, rfl, Lib.hid (take_eq_succ HT.out hlt hlt2 HE.out)⟩
          case measure => simp [intOf]; omega
        · have hne := bytes_ne he
          go_wp2
          go_quiet (fail)
          go_wp2
          go_ret
          exact ⟨ret_bool (decide_eq_false (ne_of_get hlt hlt2 he)).symm, _, (World.drewN_drewN _ _ _).symm⟩
      · go_wp2
        go_ret
        exact ⟨ret_bool (decide_eq_true (eq_of_takes HT.out HL.out hlt)).symm, q, rfl⟩
  · have hbe : ((ss.length : Int) != (ts.length : Int)) = true := by simp; omega
    go_enter Tryd.func9, Tryd.ntmps9
    go_wp2
    go_ret
    exact ⟨ret_bool (decide_eq_false (fun e => hlen (by rw [e]))).symm, 0, rfl⟩

/-- the texts of the numbers from m on -/
def marksS (m : Int) (n : Nat) : List Value := (List.range n).map fun i : Nat => Value.string (markB (m + (i : Int)))
theorem marksS_succ (m : Int) (n : Nat) : marksS m (n + 1) = marksS m n ++ [Value.string (markB (m + (n : Int)))] := by
  simp [marksS, List.range_succ]
theorem marksS_length (m : Int) (n : Nat) : (marksS m n).length = n := by simp [marksS]
theorem marksS_get (m : Int) (n k : Nat) (h : k < n) : (marksS m n)[k]? = some (Value.string (markB (m + (k : Int)))) := by simp [marksS, h]
theorem set_mid (m : Int) (k : Nat) (xs : List Value) (h : k < xs.length) : (marksS m k ++ xs.drop k).set k (Value.string (markB (m + (k : Int)))) = marksS m (k + 1) ++ xs.drop (k + 1) := by
  rw [List.set_append_right _ _ (by rw [marksS_length]; omega), marksS_length, Nat.sub_self, List.drop_eq_getElem_cons h, List.set_cons_zero, marksS_succ, List.append_assoc]
  rfl

set_option maxHeartbeats 400000 in
set_option maxRecDepth 100000 in
/-- marking writes the texts of the numbers from m on -/
theorem markStringS_any (v : Value) (n : Nat) (xs : List Value) (base : Nat) (m : Int) (w : World) (hm : m + n ≤ 9223372036854775807) (hm0 : 0 ≤ m)
    (ho : w.ownsRow base 9 1 v n xs) :
    Calls Tryd.prog 10 #[v, .int .i64 m] w fun e w' => e = .returned (.int .i64 (m + n)) ∧ w'.ownsRow base 9 1 v n (marksS m n) ∧ w.grownBy w' v.ownBlock := by
  rcases ho.2 with ⟨rfl, rfl⟩ | ⟨g, cap, cur, rfl, hb, hh, hnc, hcm, hcs, ht⟩
  · go_enter Tryd.func10, Tryd.ntmps10
    go_wp2
    refine wp_loop_rounds 1 ?_
    rw [rounds_succ]
    go_wp2
    go_ret
    exact ⟨ret_int (by omega), ⟨rfl, .inl ⟨rfl, rfl⟩⟩, World.grownBy.refl _ _⟩
  · have hxl := Lib.hid ho.1
    have HO := Lib.hid ho
    clear ho hh hcs ht
    go_enter Tryd.func10, Tryd.ntmps10
    go_wp2
    go_loopw [1, 5] (fun a i wr => ∃ k : Nat, k ≤ n ∧ i = .int .i64 k ∧ a = .int .i64 (m + k) ∧ wr.ownsRow base 9 1 (.slice (some ⟨g, 0, none⟩) n cap) n (marksS m k ++ xs.drop k) ∧ w.grownBy wr (some g)) (fun _ i _ => n - (intOf i).toNat)
    case atStart => exact ⟨0, Nat.zero_le _, rfl, by simp, HO.out, World.grownBy.refl _ _⟩
    case round =>
      obtain ⟨k, hk, rfl, rfl, ho, hg⟩ := hrel
      by_cases hlt : k < n
      · go_wp2_with fail
        refine (markText_any _ _ (by omega)).mono ?_
        rintro e w1 ⟨rfl, hb1⟩
        have ho1 := own_below ho hb1
        have hcell := ho1.cellAt k (by omega)
        rw [List.getElem?_eq_getElem (by simp [marksS_length]; have := hxl.out; omega)] at hcell
        have hfr := ho1.frozenAt k
        obtain ⟨ho2, hg2⟩ := ho1.stored k (Value.string (markB (m + (k : Int))))
        rw [set_mid m k xs (by have := hxl.out; omega)] at ho2
        have hg3 := grown_trans (grown_below hg hb1) hg2
        go_wp2
        go_roundw
        case rel => exact ⟨k + 1, by omega, by go_num, by go_num, ho2, hg3⟩
        case measure => simp [intOf]; omega
      · obtain rfl : k = n := by omega
        rw [List.drop_of_length_le (by have := hxl.out; omega), List.append_nil] at ho
        go_wp2
        go_ret
        exact ⟨rfl, ho, hg⟩

/-- a cell that is known, in a world in which nothing old has changed -/
def Kept (w : World) (p : Addr) (u : Value) (W : World) : Prop := W.cell? p = some u ∧ Below w.heap.size w W
theorem Kept.start {w W : World} {p : Addr} {u : Value} (hb : Below w.heap.size w W) (hp : p.block < w.heap.size) (h : w.cell? p = some u) : Kept w p u W := ⟨(hb.cell hp).trans h, hb⟩
theorem Kept.next {w W w1 : World} {p : Addr} {u : Value} (h : Kept w p u W) (hp : p.block < w.heap.size) (hb : Below W.heap.size W w1) : Kept w p u w1 :=
  ⟨(hb.cell (Nat.lt_of_lt_of_le hp h.2.size)).trans h.1, Below.next h.2 hb⟩

set_option maxHeartbeats 400000 in
set_option maxRecDepth 100000 in
/-- a slice that bears the texts of the numbers from m on is held -/
theorem heldStringS_any (v : Value) (n lo hi : Nat) (m : Int) (w : World) (hm : m + n ≤ 9223372036854775807) (hm0 : 0 ≤ m) (hhi : hi ≤ w.heap.size)
    (hr : Row w lo hi v (marksS m n)) :
    Calls Tryd.prog 11 #[v, .int .i64 m] w fun e w' => e = .returned (.int .i64 (m + n)) ∧ Below w.heap.size w w' := by
  obtain ⟨A, c, rfl, hA⟩ := hr
  rw [marksS_length]
  have HA := Lib.hid hA
  clear hA
  go_enter Tryd.func11, Tryd.ntmps11
  go_wp2
  go_loopw [1, 5] (fun a i wr => ∃ k : Nat, k ≤ n ∧ i = .int .i64 k ∧ a = .int .i64 (m + k) ∧ Below w.heap.size w wr) (fun _ i _ => n - (intOf i).toNat)
  case atStart => exact ⟨0, Nat.zero_le _, rfl, by simp, Below.refl _ _⟩
  case round =>
    obtain ⟨k, hk, rfl, rfl, hb⟩ := hrel
    by_cases hlt : k < n
    · obtain ⟨a, rfl, _, hab, hca⟩ := HA.out k _ (marksS_get m n k hlt)
      have hab' : (a.add k).block < w.heap.size := by rw [block_add]; omega
      obtain ⟨hc0, _⟩ := Kept.start hb hab' hca
      go_wp2
      go_region_held3 (fun W => W.cell? (a.add k) = some (Value.string (markB (m + (k : Int)))) ∧ Below w.heap.size w W) (first | exact ⟨by go_keep, hb.drew⟩ | exact Kept.next ‹_ ∧ _› hab' hb1)
        (first | (go_at_call 14; refine (markText_any _ _ (by omega)).mono ?_; rintro e w1 ⟨rfl, hb1⟩))
      go_wp2
      go_roundw
      case rel => exact ⟨k + 1, by omega, by go_num, by go_num, Below.next hb.drew hb1⟩
      case measure => simp [intOf]; omega
    · obtain rfl : k = n := by omega
      go_wp2
      go_ret
      exact ⟨rfl, hb⟩
end Go.Proofs.YtbfolegllhpkjaaDoor
