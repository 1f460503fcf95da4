/-
  The list of all codes: spec lays it in order, impl appends and sorts.
-/
import Derived.Test.YtbfolegllhpkjaaDoorCurImpl
import Derived.Test.YtbfolegllhpkjaaDoorCurSpec
import Derived.Test.YtbfolegllhpkjaaDoorMarkS
import Derived.Laws.AppendOwnNone
import Derived.Maps.AppendAt
import Derived.Sort.OwnSorted
import Derived.Deep.DeepCutAuto
import Derived.Test.YtbfolegllhpkjaaDoorShelf
namespace Go.Proofs.YtbfolegllhpkjaaDoor
open Go.RowKit

theorem strInfoC : (Tryd.prog.info? 9).map (fun i => (i.zero, i.size, i.bytes)) = some (some (.string ⟨#[]⟩), 1, 16) := by kernel_rfl
def strsC (l : List ByteArray) : List Value := l.map Value.string
theorem strsC_snoc (l : List ByteArray) (x : ByteArray) : strsC l ++ [Value.string x] = strsC (l ++ [x]) := by simp [strsC]
theorem codes_next {l : List CR} {k : Nat} (hk : k < l.length) : codesT (l.take (k + 1)) = codesT (l.take k) ++ [l[k].1] := by
  unfold codesT
  rw [List.take_succ_eq_append_getElem hk, List.map_append]
  rfl
theorem codes_len (l : List CR) (k : Nat) (hk : k ≤ l.length) : (codesT (l.take k)).length = k := by unfold codesT; rw [List.length_map, List.length_take]; omega
def CodesRel (l : List CR) (w : World) (v i : Value) (wr : World) : Prop :=
  ∃ k : Nat, k ≤ 20 ∧ i = .int .i64 k ∧ wr.ownsRow w.heap.size 9 1 v k (strsC (codesT (l.take k))) ∧ Below w.heap.size w wr
/-- the table stays where the list grows elsewhere -/
def TabRel (g : Nat) (v : Value) (wr : World) : Prop := wr.rangeAt g 0 (cellsT specT) ∧ g < wr.heap.size ∧ ∀ b, v.ownBlock = some b → b ≠ g
theorem TabRel.next {g : Nat} {v v' : Value} {wr w' : World} {o p : Obj} (h : TabRel g v wr) (hg : ((wr.alloc o).alloc p).grownBy w' v.ownBlock) (hb : v'.ownBlock = v.ownBlock ∨ v'.ownBlock = some (wr.heap.size + 1 + 1)) : TabRel g v' w' := by
  obtain ⟨hr, hl, hn⟩ := h
  have hz : ((wr.alloc o).alloc p).heap.size = wr.heap.size + 2 := by simp
  have b1 : Below wr.heap.size wr ((wr.alloc o).alloc p) := ((Below.refl _ _).alloc (Nat.le_refl _) _).alloc (by simp) _
  have hr1 := range_below hr hl b1
  refine ⟨fun j v hv => (World.cell?_of_block (hg.block g (by omega) (fun e => hn g e.symm rfl))).trans (hr1 j v hv), by have := hg.size; omega, fun b e => ?_⟩
  rcases hb with hb | hb
  · exact hn b (hb ▸ e)
  · rw [hb] at e
    injection e with e
    omega
set_option maxHeartbeats 1000000 in
set_option maxRecDepth 100000 in
theorem specCurs_any (w : World) : Calls Tryd.prog 7 #[] w fun e w' => ∃ v, e = .returned v ∧ w'.ownsRow w.heap.size 9 1 v 20 (strsC (codesT specT)) ∧ Below w.heap.size w w' := by
  obtain ⟨i0, hi, hz0, hz1, hz2⟩ := info_parts strInfoC
  have hown0 : (w.alloc (.cells #[] 9)).ownsRow w.heap.size 9 1 (.slice (some ⟨w.heap.size, 0, none⟩) 0 0) 0 [] := ⟨rfl, .inr ⟨w.heap.size, 0, #[], rfl, Nat.le_refl _, heap_alloc_new w _, Nat.le_refl _, Nat.zero_le _, rfl, rfl⟩⟩
  have hb0 : Below w.heap.size w (w.alloc (.cells #[] 9)) := (Below.refl _ _).alloc (Nat.le_refl _) _
  obtain ⟨W0, hW0⟩ : ∃ W0, W0 = w.alloc (.cells #[] 9) := ⟨_, rfl⟩
  have HW := Lib.hid hW0
  have HZ := Lib.hid (show W0.heap.size = w.heap.size + 1 by rw [hW0]; simp)
  rw [← hW0] at hown0 hb0
  clear hW0
  go_enter Tryd.func7, Tryd.ntmps7
  go_wp2_with fail
  rw [← HW.out]
  refine (l08Table_any _).mono ?_
  rintro e w1 ⟨rfl, hw1⟩
  have b1 : Below W0.heap.size W0 w1 := by rw [hw1]; exact (Below.refl _ _).alloc (Nat.le_refl _) _
  have hr1 : w1.rangeAt W0.heap.size 0 (cellsT specT) := by rw [hw1]; exact range_new _ _ _
  have hg1 : W0.heap.size < w1.heap.size := by rw [hw1]; simp
  have hown1 := own_below hown0 b1
  have hb1 := Below.next hb0 b1
  have htr : TabRel W0.heap.size (.slice (some ⟨w.heap.size, 0, none⟩) 0 0) w1 := ⟨hr1, hg1, fun b e => by have e1 := Option.some.inj (show some w.heap.size = some b from e); have := HZ.out; omega⟩
  generalize W0.heap.size = g at htr hg1
  clear hw1 hr1 b1 hown0 hb0 HW HZ
  go_wp2
  go_loopw [1, 7] (fun v i wr => CodesRel specT w v i wr ∧ Hid (TabRel g v wr)) (fun _ i _ => 20 - (intOf i).toNat)
  case atStart => exact ⟨⟨0, Nat.zero_le _, rfl, hown1, hb1⟩, Lib.hid htr⟩
  case round =>
    obtain ⟨⟨k, hk, rfl, hown, hb⟩, HTR⟩ := hrel
    by_cases hlt : k < 20
    · have hix := rowCells_of (l := specT) HTR.out.1 hlt
      have HN := Lib.hid (codes_next (l := specT) hlt)
      generalize specT[k] = r at hix HN
      obtain ⟨c, m, p, q⟩ := r
      obtain ⟨x0, x1, x2, x3⟩ := hix
      dsimp only at x0 x1 x2 x3
      have hownA := own_alloc (own_alloc hown (.cells #[.string c, .string m, .int .i64 p, .int .i64 q] 32)) (.cells #[.string c] 9)
      have hone := one_new (wr.alloc (.cells #[.string c, .string m, .int .i64 p, .int .i64 q] 32)) (.string c) 9
      rw [show (wr.alloc (.cells #[.string c, .string m, .int .i64 p, .int .i64 q] 32)).heap.size = wr.heap.size + 1 by simp] at hone
      have HA := Lib.hid hownA
      have HO := Lib.hid hone
      clear hownA hone
      go_wp2_with (at_builtin; refine Go.wpList_append_own_at _ rfl (.tmp 11) (.tmp 14) 24 rfl w.heap.size 9 i0 (.string ⟨#[]⟩) 1 16 Tryd.underlying24 hi hz0 hz1 hz2 rfl (by decide) _ _ _ rfl HA.out ⟨wr.heap.size + 1, 0, none⟩ 1 1 [.string c] rfl rfl HO.out ?c2 ?c3 ?c4 ?c5 ?_)
      case c2 => first | rfl | (intro u hu; simp at hu; subst hu; rfl)
      case c3 => unfold maxLen; omega
      case c4 => omega
      case c5 => have := hb.size; simp; omega
      intro v1 w2 hown2 hg2 _ hlies
      have hb2 := below_push (o := .cells #[.string c] 9) (hb.alloc (by have := hb.size; omega) (.cells #[.string c, .string m, .int .i64 p, .int .i64 q] 32)) (Nat.le_refl _) (own_alloc hown _) hg2
      have HT2 := Lib.hid (HTR.out.next hg2 hlies)
      rw [strsC_snoc, show codesT (specT.take k) ++ [c] = codesT (specT.take (k + 1)) from HN.out.symm] at hown2
      go_wp2
      exact ⟨⟨⟨k + 1, by omega, by go_num, hown2, hb2⟩, HT2⟩, by simp [intOf]; omega⟩
    · obtain rfl : k = 20 := by omega
      rw [List.take_of_length_le (l := specT) (i := 20) (by decide)] at hown
      go_wp2
      go_ret
      exact ⟨_, rfl, hown, hb⟩
def bytesT (l : List CR) : List (List UInt8) := l.map fun r => r.1.data.toList
theorem bytesT_enc (l : List CR) : strsC (codesT l) = (bytesT l).map Go.Proofs.encStr := by simp [strsC, codesT, bytesT]
theorem sorted_codes : (bytesT implT).mergeSort (fun x y => decide (x ≤ y)) = bytesT specT :=
  List.Perm.eq_of_pairwise (le := fun a b => decide (a ≤ b) = true) (fun a b _ _ h1 h2 => List.le_antisymm (of_decide_eq_true h1) (of_decide_eq_true h2))
    (List.pairwise_mergeSort (le := fun (x y : List UInt8) => decide (x ≤ y)) (fun a b c h1 h2 => decide_eq_true (List.le_trans (of_decide_eq_true h1) (of_decide_eq_true h2)))
      (fun a b => by rcases List.le_total (α := UInt8) a b with h | h <;> simp [h]) _)
    (by decide +kernel) ((List.mergeSort_perm _ _).trans (List.isPerm_iff.1 (by decide +kernel)))
set_option maxHeartbeats 1000000 in
set_option maxRecDepth 100000 in
theorem implCurs_any (w : World) (ht : CurTab w) : Calls Tryd.prog 8 #[] w fun e w' => ∃ v, e = .returned v ∧ w'.ownsRow w.heap.size 9 1 v 20 (strsC (codesT specT)) ∧ Below w.heap.size w w' := by
  obtain ⟨i0, hi, hz0, hz1, hz2⟩ := info_parts strInfoC
  have HT := Lib.hid ht
  have HI := Lib.hid cur_index
  go_enter Tryd.func8, Tryd.ntmps8
  go_wp2
  refine wp_load_mid 35 _ (by rfl) 0 0 (by rfl) (cellsT implT) _ HT.out.range Tryd.underlying35 (by rfl) curInfo ?_
  generalize hTA : (cellsT implT).toArray = TA at *
  clear hTA ht
  go_wp2
  go_loopw [1, 5] (fun v i wr => CodesRel implT w v i wr) (fun _ i _ => 20 - (intOf i).toNat)
  case atStart => exact ⟨0, Nat.zero_le _, rfl, ⟨rfl, .inl ⟨rfl, rfl⟩⟩, Below.refl _ _⟩
  case round =>
    obtain ⟨k, hk, rfl, hown, hb⟩ := hrel
    by_cases hlt : k < 20
    · have hix := HI.out k hlt
      have HN := Lib.hid (codes_next (l := implT) hlt)
      generalize implT[k] = r at hix HN
      obtain ⟨c, m, p, q⟩ := r
      simp only [cellsC] at hix
      have hownA := own_alloc (own_alloc hown (.cells #[.string c, .string m, .int .i64 p, .int .i64 q] 34)) (.cells #[.string c] 9)
      have hone := one_new (wr.alloc (.cells #[.string c, .string m, .int .i64 p, .int .i64 q] 34)) (.string c) 9
      rw [show (wr.alloc (.cells #[.string c, .string m, .int .i64 p, .int .i64 q] 34)).heap.size = wr.heap.size + 1 by simp] at hone
      have HA := Lib.hid hownA
      have HO := Lib.hid hone
      clear hownA hone
      go_wp2_with (at_builtin; refine wpList_append_own _ rfl (.tmp 8) (.tmp 11) 24 rfl w.heap.size 9 i0 (.string ⟨#[]⟩) 1 16 Tryd.underlying24 hi hz0 hz1 hz2 rfl (by decide) _ _ _ rfl HA.out ⟨wr.heap.size + 1, 0, none⟩ 1 1 [.string c] rfl rfl HO.out ?c2 ?c3 ?c4 ?c5 ?_)
      case c2 => first | rfl | (intro u hu; simp at hu; subst hu; rfl)
      case c3 => unfold maxLen; omega
      case c4 => omega
      case c5 => have := hb.size; simp; omega
      intro v1 w2 hown2 hg2 _
      have hb2 := below_push (o := .cells #[.string c] 9) (hb.alloc (by have := hb.size; omega) (.cells #[.string c, .string m, .int .i64 p, .int .i64 q] 34)) (Nat.le_refl _) (own_alloc hown _) hg2
      rw [strsC_snoc, show codesT (implT.take k) ++ [c] = codesT (implT.take (k + 1)) from HN.out.symm] at hown2
      go_wp2
      exact ⟨⟨k + 1, by omega, by go_num, hown2, hb2⟩, by simp [intOf]; omega⟩
    · obtain rfl : k = 20 := by omega
      rw [List.take_of_length_le (l := implT) (i := 20) (by decide)] at hown
      have hown0 := hown
      rw [bytesT_enc] at hown
      rcases hown.2 with ⟨_, h0⟩ | ⟨g, cap, cur, rfl, hbase, hblk, h1, h2, h3, h4⟩
      · exact absurd h0 (by decide)
      · have hlen : (bytesT implT).length = 20 := rfl
        have hH := holds_of_block (ss := bytesT implT) hblk (by rw [hlen]; simpa using h4)
        have hsz : (bytesT implT).length < 4611686018427387904 := by decide
        have hg := (Array.getElem?_eq_some_iff.1 hblk).1
        have HC := Lib.hid (Tryd.slices_Sort_string g 0 cap (bytesT implT) wr hH hg hsz)
        rw [hlen, sorted_codes] at HC
        have HF := Lib.hid (fun n os => And.intro (ownsRow_sorted (ss := bytesT implT) (ts := bytesT specT) (n := n) (os := os) rfl hbase hblk (by rw [hlen]; exact h1) h2 h3) (grownBy_sorted (n := n) (os := os) (w := wr) (g := g) (bytesT specT).toArray))
        have HB := Lib.hid hb
        clear hH hsz hown hown0 h4 h1 h2 h3 hb
        go_wp2_with fail
        refine HC.out.mono ?_
        rintro e w2 ⟨rfl, n, os, hw2⟩
        obtain ⟨f1, f2⟩ := HF.out n os
        rw [← hw2] at f1 f2
        rw [hlen, ← bytesT_enc] at f1
        have hbz := HB.out.size
        have b2 : Below w.heap.size w w2 := HB.out.grown f2 hbz (fun k hk => by obtain rfl := Option.some.inj hk; exact hbase)
        clear hw2 f2 HC HF
        go_wp2
        go_ret
        exact ⟨_, rfl, f1, b2⟩
end Go.Proofs.YtbfolegllhpkjaaDoor
