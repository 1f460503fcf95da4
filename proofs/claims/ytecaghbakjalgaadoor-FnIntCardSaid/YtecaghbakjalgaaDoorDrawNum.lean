/-
  The number that a law draws out of a code, as a function of its bytes: two draws come to the same.
-/
import Derived.Test.YtecaghbakjalgaaDoorCursor
namespace Go.Proofs.YtecaghbakjalgaaDoor
open Go.RowKit

/-- a cursor's state: how many bytes it has read, and its word -/
def nextH (h : Int) : Int := wrap64 (wrap64 (h * 6364136223846793005) + 1442695040888963407)
def rawX (h : Int) : Int := bits .and .i64 (bits .xor .i64 (h / 8589934592) (h / 35184372088832)) 255
def byteX (bs : List Nat) (i : Nat) (h : Int) : Int := if i < bs.length then bits .and .i64 (rawX (nextH h) + (bs.getD i 0 : Nat)) 255 else rawX (nextH h)
def byteI (bs : List Nat) (i : Nat) : Nat := if i < bs.length then i + 1 else i
theorem nextH_range (h : Int) : -9223372036854775808 ≤ nextH h ∧ nextH h ≤ 9223372036854775807 := by unfold nextH wrap64; omega
theorem byteX_range (bs : List Nat) (i : Nat) (h : Int) : 0 ≤ byteX bs i h ∧ byteX bs i h ≤ 255 := by
  unfold byteX
  split
  · exact and255 _
  · exact and255 _
/-- block g is a cursor in this state -/
def CurS (w : World) (g : Nat) (v : Value) (n : Nat) (i : Nat) (h : Int) : Prop :=
  i ≤ n ∧ -9223372036854775808 ≤ h ∧ h ≤ 9223372036854775807 ∧ w.heap[g]? = some (.cells #[v, .int .i64 (i : Int), .int .i64 h] 70 (0, 0))

set_option maxHeartbeats 1000000 in
set_option maxRecDepth 100000 in
theorem l01ByteS_any (g lo hi : Nat) (v : Value) (bs : List Nat) (i : Nat) (h : Int) (w : World) (hb : ∀ b ∈ bs, b < 256) (hn : bs.length ≤ 1048576) (hc : CurS w g v bs.length i h) (hr : Row w lo hi v (bytesV bs)) (hg : hi ≤ g) :
    Calls Tryd.prog 69 #[.pointer (some ⟨g, 0, none⟩)] w fun e w' => e = .returned (.int .i64 (byteX bs i h)) ∧ CurS w' g v bs.length (byteI bs i) (nextH h) ∧ w.grownBy w' (some g) := by
  obtain ⟨hin, hh0, hh1, hbl⟩ := hc
  obtain ⟨A, c, rfl, hA⟩ := hr
  have hlen : (bytesV bs).length = bs.length := by simp [bytesV]
  have HA := Lib.hid hA
  clear hA
  rw [hlen] at hbl ⊢
  have c0 := cell_in hbl 0 _ rfl
  have c1 := cell_in hbl 1 _ rfl
  have c2 := cell_in hbl 2 _ rfl
  have f1 := free_in hbl 1
  have f2 := free_in hbl 2
  have HBL := Lib.hid hbl
  clear hbl
  obtain ⟨h2, Hh2⟩ : ∃ h2 : Int, Hid (wrap64 (wrap64 (h * 6364136223846793005) + 1442695040888963407) = h2 ∧ -9223372036854775808 ≤ h2 ∧ h2 ≤ 9223372036854775807 ∧ nextH h = h2) := ⟨_, Lib.hid ⟨rfl, by unfold wrap64; omega, by unfold wrap64; omega, rfl⟩⟩
  have hbl1 := put_in HBL.out 2 (.int .i64 h2)
  have hgr1 := put_grown w g 2 (.int .i64 h2)
  have HX := Lib.hid (show byteX bs i h = (if i < bs.length then bits .and .i64 (rawX (nextH h) + (bs.getD i 0 : Nat)) 255 else rawX (nextH h)) from rfl)
  have HI := Lib.hid (show byteI bs i = (if i < bs.length then i + 1 else i) from rfl)
  rw [Hh2.out.2.2.2] at HX ⊢
  go_enter Tryd.func69, Tryd.ntmps69
  go_wp2
  rw [Hh2.out.1]
  obtain ⟨_, hl0, hl1, _⟩ := Hh2.out
  clear Hh2 c0 c1 c2 f1 f2
  generalize w.setCell ⟨g, 2, none⟩ (.int .i64 h2) = w1 at *
  have c0 : w1.cell? ⟨g, 0, none⟩ = some (.slice A bs.length c) := cell_in hbl1 0 _ rfl
  have c1 : w1.cell? ⟨g, 1, none⟩ = some (.int .i64 i) := cell_in hbl1 1 _ rfl
  have c2 : w1.cell? ⟨g, 2, none⟩ = some (.int .i64 h2) := cell_in hbl1 2 _ rfl
  have f1 := free_in hbl1 1
  have HBL1 := Lib.hid hbl1
  clear hbl1
  go_quiet (fail)
  go_wp2
  have hx := and255 (bits .xor .i64 (h2 / 8589934592) (h2 / 35184372088832))
  have HRX := Lib.hid (show rawX h2 = bits .and .i64 (bits .xor .i64 (h2 / 8589934592) (h2 / 35184372088832)) 255 from rfl)
  generalize bits .and .i64 (bits .xor .i64 (h2 / 8589934592) (h2 / 35184372088832)) 255 = x at *
  by_cases hlt : i < bs.length
  · obtain ⟨a, rfl, _, hab, hca⟩ := HA.out i (.int .u8 (bs[i] : Nat)) (by simp [bytesV, hlt])
    have hbk := hb bs[i] (List.getElem_mem hlt)
    have hca1 : w1.cell? (a.add i) = some (.int .u8 (bs[i] : Nat)) := by
      rw [← hca]
      have hne : some (a.add i).block ≠ some g := by rw [block_add]; intro e; injection e with e; omega
      exact World.cell?_of_block (hgr1.block _ (cell_lt hca) hne)
    have HV := Lib.hid (show byteX bs i h = bits .and .i64 (x + (bs[i] : Nat)) 255 by rw [HX.out, if_pos hlt, HRX.out, List.getD_eq_getElem?_getD, List.getElem?_eq_getElem hlt]; rfl)
    have HV2 := Lib.hid (show byteI bs i = i + 1 by rw [HI.out, if_pos hlt])
    clear hca HX HI
    have HB := Lib.hid hb
    clear hb
    go_quiet (fail)
    go_wp2
    go_quiet (fail)
    go_wp2
    go_ret
    exact ⟨ret_int HV.out.symm, by rw [HV2.out]; exact ⟨by omega, hl0, hl1, put_in HBL1.out 1 _⟩, grown_drewN (grown_trans hgr1 (put_grown w1 g 1 _)) _⟩
  · have hlt' : decide ((i : Int) < bs.length) = false := decide_eq_false (by omega)
    have HB := Lib.hid hb
    have HV := Lib.hid (show byteX bs i h = x by rw [HX.out, if_neg hlt, HRX.out])
    have HV2 := Lib.hid (show byteI bs i = i by rw [HI.out, if_neg hlt])
    clear hb HX HI
    go_quiet (fail)
    go_wp2
    go_ret
    exact ⟨ret_int HV.out.symm, by rw [HV2.out]; exact ⟨hin, hl0, hl1, HBL1.out⟩, grown_drewN (grown_drewN hgr1 _) _⟩

/-- the number drawn below m, for m above 256 -/
def belowX (bs : List Nat) (m : Int) (i : Nat) (h : Int) : Int :=
  (byteX bs i h * 16777216 + byteX bs (byteI bs i) (nextH h) * 65536 + byteX bs (byteI bs (byteI bs i)) (nextH (nextH h)) * 256 + byteX bs (byteI bs (byteI bs (byteI bs i))) (nextH (nextH (nextH h)))) % m
set_option maxHeartbeats 1000000 in
set_option maxRecDepth 100000 in
theorem l01BelowS_any (m : Int) (g lo hi : Nat) (v : Value) (bs : List Nat) (i : Nat) (h : Int) (w : World) (hm : 256 < m) (hm2 : m ≤ 2147483648) (hb : ∀ b ∈ bs, b < 256) (hn : bs.length ≤ 1048576) (hc : CurS w g v bs.length i h) (hr : Row w lo hi v (bytesV bs)) (hg : hi ≤ g) :
    Calls Tryd.prog 40 #[.pointer (some ⟨g, 0, none⟩), .int .i64 m] w fun e w' => e = .returned (.int .i64 (belowX bs m i h)) ∧ w.grownBy w' (some g) := by
  have HB := Lib.hid hb
  clear hb
  have hmz : (m == 0) = false := by rw [beq_eq_false_iff_ne]; omega
  have HV : Hid (belowX bs m i h = (byteX bs i h * 16777216 + byteX bs (byteI bs i) (nextH h) * 65536 + byteX bs (byteI bs (byteI bs i)) (nextH (nextH h)) * 256 + byteX bs (byteI bs (byteI bs (byteI bs i))) (nextH (nextH (nextH h)))) % m) := Lib.hid rfl
  generalize belowX bs m i h = r at *
  have x1 := byteX_range bs i h
  have x2 := byteX_range bs (byteI bs i) (nextH h)
  have x3 := byteX_range bs (byteI bs (byteI bs i)) (nextH (nextH h))
  have x4 := byteX_range bs (byteI bs (byteI bs (byteI bs i))) (nextH (nextH (nextH h)))
  go_enter Tryd.func40, Tryd.ntmps40
  go_wp2_with fail
  refine (l01ByteS_any g lo hi v bs i h _ HB.out hn hc hr hg).mono ?_
  rintro e w1 ⟨rfl, hc1, hg1⟩
  have hr1 := hr.far hg1 hg
  generalize byteX bs i h = y1 at *
  go_wp2_with fail
  refine (l01ByteS_any g lo hi v bs _ _ _ HB.out hn hc1 hr1 hg).mono ?_
  rintro e w2 ⟨rfl, hc2, hg2⟩
  have hr2 := hr1.far hg2 hg
  generalize byteX bs (byteI bs i) (nextH h) = y2 at *
  go_wp2_with fail
  refine (l01ByteS_any g lo hi v bs _ _ _ HB.out hn hc2 hr2 hg).mono ?_
  rintro e w3 ⟨rfl, hc3, hg3⟩
  have hr3 := hr2.far hg3 hg
  generalize byteX bs (byteI bs (byteI bs i)) (nextH (nextH h)) = y3 at *
  go_wp2_with fail
  refine (l01ByteS_any g lo hi v bs _ _ _ HB.out hn hc3 hr3 hg).mono ?_
  rintro e w4 ⟨rfl, hc4, hg4⟩
  generalize byteX bs (byteI bs (byteI bs (byteI bs i))) (nextH (nextH (nextH h))) = y4 at *
  obtain ⟨x10, x11⟩ := x1
  obtain ⟨x20, x21⟩ := x2
  obtain ⟨x30, x31⟩ := x3
  obtain ⟨x40, x41⟩ := x4
  go_wp2
  go_ret
  exact ⟨ret_int HV.out.symm, grown_trans (grown_trans (grown_trans hg1 hg2) hg3) hg4⟩

/-- the word of a new cursor, k bytes read -/
def wordH (bs : List Nat) : Nat → Int
  | 0 => 1616 + (bs.length : Int)
  | k + 1 => bits .and .i64 (wordH bs k * 41 + (bs.getD k 0 : Nat) + 7) 1073741823
theorem wordH_range (bs : List Nat) (hn : bs.length ≤ 1048576) (k : Nat) : 0 ≤ wordH bs k ∧ wordH bs k ≤ 1073741823 := by
  cases k with
  | zero => show 0 ≤ 1616 + (bs.length : Int) ∧ 1616 + (bs.length : Int) ≤ 1073741823; omega
  | succ k => exact andMask _
set_option maxRecDepth 100000 in
set_option maxHeartbeats 1000000 in
set_option maxRecDepth 100000 in
theorem l01NewS_any (lo hi : Nat) (v : Value) (bs : List Nat) (w : World) (hb : ∀ b ∈ bs, b < 256) (hn : bs.length ≤ 1048576) (hr : Row w lo hi v (bytesV bs)) :
    Calls Tryd.prog 27 #[v] w fun e w' => ∃ g : Nat, w.heap.size ≤ g ∧ e = .returned (.pointer (some ⟨g, 0, none⟩)) ∧ CurS w' g v bs.length 0 (wordH bs (min bs.length 4000)) ∧ Below w.heap.size w w' := by
  obtain ⟨A, c, rfl, hA⟩ := hr
  have hlen : (bytesV bs).length = bs.length := by simp [bytesV]
  rw [hlen]
  have HA := Lib.hid hA
  have HB := Lib.hid hb
  have HR := Lib.hid (wordH_range bs hn)
  clear hA hb hlen
  go_enter Tryd.func27, Tryd.ntmps27
  go_wp2
  go_loop [3, 4] (fun a i => ∃ (k : Nat) (h : Int), k ≤ bs.length ∧ k ≤ 4000 ∧ i = .int .i64 k ∧ a = .int .i64 h ∧ 0 ≤ h ∧ h ≤ 1073741823 ∧ Hid (h = wordH bs k)) (fun _ i => bs.length - (intOf i).toNat)
  case atStart => exact ⟨0, _, Nat.zero_le _, Nat.zero_le _, rfl, rfl, by omega, by omega, Lib.hid rfl⟩
  case round =>
    obtain ⟨k, h, hk, hk4, rfl, rfl, hh0, hh1, HH⟩ := hrel
    by_cases hlt : k < bs.length ∧ k < 4000
    · obtain ⟨a, rfl, _, hab, hca⟩ := HA.out k (.int .u8 (bs[k]'hlt.1 : Nat)) (by simp [bytesV, hlt.1])
      have hbk := HB.out _ (List.getElem_mem hlt.1)
      have HN := Lib.hid (show bits .and .i64 (h * 41 + (bs[k]'hlt.1 : Nat) + 7) 1073741823 = wordH bs (k + 1) by
        show _ = bits .and .i64 (wordH bs k * 41 + (bs.getD k 0 : Nat) + 7) 1073741823
        rw [← HH.out, List.getD_eq_getElem?_getD, List.getElem?_eq_getElem hlt.1]; rfl)
      obtain ⟨hl1, hl2⟩ := hlt
      go_wp2
      have hm := andMask (h * 41 + (bs[k] : Nat) + 7)
      go_round
      case rel => exact ⟨k + 1, _, by omega, by omega, by go_num, rfl, hm.1, hm.2, HN⟩
      case measure => simp [intOf]; omega
    · by_cases hl1 : k < bs.length
      · have hl2 : ¬ k < 4000 := fun e => hlt ⟨hl1, e⟩
        have HF := Lib.hid (show h = wordH bs (min bs.length 4000) by rw [HH.out]; congr 1; omega)
        clear hlt
        go_wp2
        go_ret
        exact ⟨w.heap.size, Nat.le_refl _, rfl, by rw [← HF.out]; exact ⟨by omega, by omega, by omega, heap_alloc_new w _⟩, (Below.refl _ _).alloc (Nat.le_refl _) _⟩
      · have HF := Lib.hid (show h = wordH bs (min bs.length 4000) by rw [HH.out]; congr 1; omega)
        clear hlt
        go_wp2
        go_ret
        exact ⟨w.heap.size, Nat.le_refl _, rfl, by rw [← HF.out]; exact ⟨by omega, by omega, by omega, heap_alloc_new w _⟩, (Below.refl _ _).alloc (Nat.le_refl _) _⟩

/-- the number that MakeNum makes of the bytes -/
def numX (bs : List Nat) (m : Int) : Int := belowX bs m 0 (wrap64 (wordH bs (min bs.length 4000) + 777))
theorem numX_range (bs : List Nat) (m : Int) (hm : 0 < m) : 0 ≤ numX bs m ∧ numX bs m < m := ⟨Int.emod_nonneg _ (by omega), Int.emod_lt_of_pos _ hm⟩
set_option maxHeartbeats 1000000 in
set_option maxRecDepth 100000 in
theorem makeNumS_any (m : Int) (v : Value) (bs : List Nat) (w : World) (hm : 256 < m) (hm2 : m ≤ 2147483648) (hb : ∀ b ∈ bs, b < 256) (hn : bs.length ≤ 1048576) (hr : Row w 0 w.heap.size v (bytesV bs)) :
    Calls Tryd.prog 15 #[v, .int .i64 m] w fun e w' => e = .returned (.int .i64 (numX bs m)) ∧ Below w.heap.size w w' := by
  have HB := Lib.hid hb
  clear hb
  go_enter Tryd.func15, Tryd.ntmps15
  go_wp2_with fail
  refine (l01NewS_any 0 w.heap.size v bs _ HB.out hn hr).mono ?_
  rintro e w1 ⟨g, hg, rfl, ⟨hi1, hh0, hh1, hbl⟩, b1⟩
  have HV := Lib.hid (show numX bs m = belowX bs m 0 (wrap64 (wordH bs (min bs.length 4000) + 777)) from rfl)
  generalize wordH bs (min bs.length 4000) = h at *
  have c2 : w1.cell? ⟨g, 2, none⟩ = some (.int .i64 h) := cell_in hbl 2 _ rfl
  have f2 := free_in hbl 2
  have hr1 := hr.below b1 (Nat.le_refl _)
  have hcur : CurS (w1.setCell ⟨g, 2, none⟩ (.int .i64 (wrap64 (h + 777)))) g v bs.length 0 (wrap64 (h + 777)) := ⟨hi1, by unfold wrap64; omega, by unfold wrap64; omega, put_in hbl 2 _⟩
  have hgr := put_grown w1 g 2 (.int .i64 (wrap64 (h + 777)))
  have hr2 := hr1.far hgr hg
  have HC := Lib.hid hcur
  have HG := Lib.hid hgr
  have HR := Lib.hid hr2
  clear hcur hgr hr2 hbl
  go_wp2_with fail
  refine (l01BelowS_any m g 0 w.heap.size v bs _ _ _ hm hm2 HB.out hn HC.out HR.out hg).mono ?_
  rintro e w2 ⟨rfl, hg2⟩
  generalize belowX bs m 0 (wrap64 (h + 777)) = x at *
  go_wp2
  go_ret
  exact ⟨ret_int HV.out.symm, b1.grown (grown_trans HG.out hg2) b1.size (fun k hk => by cases hk; exact hg)⟩
end Go.Proofs.YtecaghbakjalgaaDoor
