/-
  What TextNat of package impl returns.
-/
import Derived.Test.YtecaghbakjalgaaDoorNatDoorImpl
import Derived.Test.YtecaghbakjalgaaDoorNatBuf2
import Derived.Deep.RegionLaw
import Derived.Deep.AppendLies
namespace Go.Proofs.YtecaghbakjalgaaDoor
open Go.RowKit

theorem digitsValue_nine (s : ByteArray) (w : World) (hd : DigL s.data.toList) (hl : s.size ≤ 9) :
    Calls Tryd.prog 56 #[.string s] w fun e w' => e = .returned (.int .i64 (valL s.data.toList)) ∧ Below w.heap.size w w' := by
  refine (digitsValue_any s w hd).mono ?_
  rintro e w' ⟨rfl, hb⟩
  have h1 := valL_nine s.data.toList hd hl
  have h0 := valL_nonneg s.data.toList hd
  exact ⟨ret_int (by unfold wrap64; omega), hb⟩
theorem extract_listD (s : ByteArray) (a b : Nat) : (s.extract a b).data.toList = (s.data.toList.take b).drop a := by
  simp [ByteArray.data_extract, List.drop_take]

/-- the value of the digits from m to k -/
def partV (s : ByteArray) (m k : Nat) : Int := valL ((s.data.toList.take k).drop m)
theorem digitsValue_part (s : ByteArray) (m k : Nat) (w : World) (hd : DigL s.data.toList) (hl : k ≤ m + 9) :
    Calls Tryd.prog 56 #[.string (s.extract m k)] w fun e w' => e = .returned (.int .i64 (partV s m k)) ∧ Below w.heap.size w w' := by
  refine (digitsValue_nine (s.extract m k) w (by rw [extract_listD]; exact dig_part _ hd _ _) (by rw [ByteArray.size_extract]; omega)).mono ?_
  rintro e w' ⟨rfl, hb⟩
  exact ⟨ret_int (by rw [extract_listD]; rfl), hb⟩

/-- the limbs that are read are those of the value -/
theorem read_limbs (s : ByteArray) (hd : DigL s.data.toList) : trimL (groups s.data.toList s.size) = limbs (valL s.data.toList).toNat := by
  have hv := groups_val s.data.toList hd s.size (Nat.le_refl _)
  rw [take_full] at hv
  rw [← hv.1, trim_limbs _ hv.2.1]
theorem read_len (s : ByteArray) (hd : DigL s.data.toList) (h : s.size ≤ 450) : (limbs (valL s.data.toList).toNat).length ≤ 50 := by
  rw [← read_limbs s hd]
  have h1 := trimL_length (groups s.data.toList s.size)
  have h2 := groups_len s.data.toList s.size
  omega
/-- the number is written as it was read where the text is a numeral -/
theorem read_text (s : ByteArray) (hd : digitsB s = true) (h : s.size ≤ 450) : natTextB (limbs (valL s.data.toList).toNat) = s ↔ decOk s = true := by
  obtain ⟨h1, h2⟩ := (digitsB_iff s).1 hd
  have hne : s.data.toList ≠ [] := h2
  have e := natText_limbs _ (read_len s h1 h)
  have hdv := dec_val s.data.toList h1 hne
  have hsz : s.data.toList.length = s.size := rfl
  constructor
  · intro hs
    rw [hs] at e
    have hn := hdv.1 e.symm
    unfold decOk
    rw [hd, decide_eq_true h]
    by_cases hc : 1 < s.size
    · have : ¬ s.data.toList.headD 0 = 48 := fun e2 => hn ⟨by omega, e2⟩
      rw [decide_eq_false this]
      simp
    · rw [decide_eq_false hc]
      simp
  · intro ho
    apply WideShapes.bytes_inj
    rw [e]
    apply hdv.2
    rintro ⟨hc1, hc2⟩
    unfold decOk at ho
    rw [decide_eq_true (show 1 < s.size by omega), decide_eq_true hc2] at ho
    simp at ho
theorem part_next {s : ByteArray} {k m : Nat} {out : List Int} (hk : 0 < k) (hm : m = k - 9) (h : out ++ groups s.data.toList k = groups s.data.toList s.size) :
    out ++ [partV s m k] ++ groups s.data.toList m = groups s.data.toList s.size := by
  rw [groups_pos _ k (by omega)] at h
  rw [← h, hm, List.append_assoc]
  rfl
/-- what is known at the head of the loop -/
def ReadRel (s : ByteArray) (B H : Nat) (w : World) (e : Value) (wr : World) : Prop :=
  ∃ (en : Int) (out : List Int), -9 ≤ en ∧ en ≤ s.size ∧ e = .int .i64 en ∧ out.length + en.toNat ≤ s.size ∧ out ++ groups s.data.toList en.toNat = groups s.data.toList s.size ∧ NatAt B H out wr ∧ Below B w wr

set_option maxHeartbeats 2000000 in
set_option maxRecDepth 100000 in
theorem implTextNat_any (s : ByteArray) (w : World) (hs : s.size ≤ 9223372036854775807) (ht : Tab w) : Calls Tryd.prog 30 #[.string s] w (TNNew s w) := by
  obtain ⟨i0, hi0, hz0, hz1, hz2⟩ := info_parts intInfo
  by_cases h450 : s.size ≤ 450
  · by_cases hd : digitsB s = true
    · have HD := Lib.hid ((digitsB_iff s).1 hd).1
      have HRT := Lib.hid (read_text s hd h450)
      have HRL := Lib.hid (read_len s HD.out h450)
      go_enter Tryd.func30, Tryd.ntmps30
      go_wp2_with fail
      refine (implIsDigits_any s _).mono ?_
      rintro e w1 ⟨rfl, b1⟩
      rw [hd]
      clear hd
      go_wp2
      go_loopw [5] (fun e wr => ReadRel s w.heap.size w1.heap.size w e wr) (fun e _ => (intOf e).toNat)
      case atStart => exact ⟨s.size, [], by omega, by omega, rfl, by simp, by rw [Int.toNat_natCast]; rfl, NatAt.new b1.size (World.ownsRow_nil _ _ _ _), b1.alloc b1.size _⟩
      case round =>
        obtain ⟨en, out, h0, h1, rfl, hol, hg, hat, hb⟩ := hrel
        have HG := Lib.hid hg
        clear hg
        by_cases hpos : 0 < en
        · obtain ⟨k, rfl⟩ := Int.eq_ofNat_of_zero_le (show 0 ≤ en by omega)
          obtain ⟨m, hmk, HM⟩ : ∃ m : Nat, m ≤ k ∧ Hid (m = k - 9) := ⟨k - 9, by omega, Lib.hid rfl⟩
          have hmx : max 0 ((k : Int) - 9) = (m : Int) := by have := HM.out; omega
          have hmi : (m : Int) ≤ (k : Int) := by omega
          have hks : (k : Int) ≤ (s.size : Int) := by omega
          have hol2 : out.length + 1 ≤ 450 := by omega
          obtain ⟨hB, u, hbk, hown, hne⟩ := hat
          obtain ⟨A, c, rfl⟩ := own_len hown
          have c1 : wr.cell? ⟨w1.heap.size, 0, none⟩ = some (.slice A out.length c) := by rw [Lib.cell_of_heap hbk]; rfl
          have f1 : wr.frozen? ⟨w1.heap.size, 0, none⟩ = false := Lib.frozen_of_heap hbk 0
          have hlt := (Array.getElem?_eq_some_iff.1 hbk).1
          have HB := Lib.hid hbk
          have HE := Lib.hid hne
          have HO := Lib.hid hown
          clear hbk hne hown
          go_wp2
          clear hmx
          go_region_law (first
              | (refine step_append_lies _ (by rfl) _ _ _ (by rfl) w.heap.size 3 i0 _ 1 8 Tryd.underlying23 hi0 hz0 hz1 hz2 rfl (by omega) (.slice A out.length c) out.length (intsV out) (by rfl) (own_alloc (own_below HO.out.drew b2) _) ⟨w2.heap.size, 0, none⟩ 1 1 [.int .i64 (partV s m k)] (by rfl) (by rfl) (one_new _ _ _) (by simp [Value.oneCell']) (by omega) (by unfold maxLen; omega) (by omega) (by have h1 := hb.size; have h2 := b2.size; simp at h2 ⊢; omega) (w2.heap.size + 1) (by simp) ?_; intro gg cap w3 hown3 hg3 hat3 hlt3; have hb3 : w3.heap[w1.heap.size]? = some (.cells #[.slice A out.length c] 59 (0, 0)) := ((hg3.block w1.heap.size (by simp; omega) (fun e => HE.out e.symm)).trans (Below.heap_alloc _ _ _ hlt2)).trans ((b2.block _ hlt).trans HB.out); have hc3 : w3.cell? ⟨w1.heap.size, 0, none⟩ = some (.slice A out.length c) := (by rw [Lib.cell_of_heap hb3]; rfl); have hf3 : w3.frozen? ⟨w1.heap.size, 0, none⟩ = false := Lib.frozen_of_heap hb3 0; have HB3 := Lib.hid hb3; clear hb3)
              | (go_simp; go_at_call 56; refine (digitsValue_part s m k _ HD.out (by have := HM.out; omega)).mono ?_; rintro e w2 ⟨rfl, b2⟩; have hlt2 : w1.heap.size < w2.heap.size := Nat.lt_of_lt_of_le hlt b2.size; have hc2 : w2.cell? ⟨w1.heap.size, 0, none⟩ = some (.slice A out.length c) := (b2.cell (p := ⟨w1.heap.size, 0, none⟩) hlt).trans c1; have hf2 : w2.frozen? ⟨w1.heap.size, 0, none⟩ = false := (b2.frozen (p := ⟨w1.heap.size, 0, none⟩) hlt).trans f1))
          all_goals
            have hput := NatAt.put (ys := out ++ [partV s m k]) hB HB3.out (by rw [List.length_append, List.length_singleton, intsV_append]; exact hown3)
            have hbe : Below w.heap.size w w3 := ((Below.next hb.drew b2).alloc (by have h1 := hb.size; have h2 := b2.size; simp at h2; omega) _).grown hg3 (by have h1 := hb.size; have h2 := b2.size; simp at h2 ⊢; omega) (fun j hj => (own_lt HO.out hj).1)
            clear HB3 hc3 hf3 hc2 hf2 hown3
            go_wp2
            refine ⟨⟨(k : Int) - 9, out ++ [partV s m k], by omega, by omega, rfl, ?_, ?_, hput, hbe.setCell (p := ⟨w1.heap.size, 0, none⟩) hB _⟩, by simp [intOf]; omega⟩
            · rw [List.length_append, List.length_singleton]; omega
            · rw [show ((k : Int) - 9).toNat = m by have := HM.out; omega]
              exact part_next (by omega) HM.out (by have := HG.out; rwa [Int.toNat_natCast] at this)
        · have HT : Hid (trimL out = limbs (valL s.data.toList).toNat) := Lib.hid (by
            have := HG.out
            rw [show en.toNat = 0 by omega, groups_zero, List.append_nil] at this
            rw [this]
            exact read_limbs s HD.out)
          go_wp2_with fail
          refine (natTrim_any w.heap.size w1.heap.size out _ (by omega) hat).mono ?_
          rintro e w2 ⟨rfl, hat2, hb2⟩
          rw [HT.out] at hat2
          clear hat HT HG
          obtain ⟨hB, u, hbk, hown, hne⟩ := hat2
          obtain ⟨A, c, rfl⟩ := own_len hown
          have c2 : w2.cell? ⟨w1.heap.size, 0, none⟩ = some (.slice A (limbs (valL s.data.toList).toNat).length c) := by rw [Lib.cell_of_heap hbk]; rfl
          have hlt := (Array.getElem?_eq_some_iff.1 hbk).1
          have HO := Lib.hid hown
          have bb2 : Below w.heap.size w w2 := hb.trans hb2
          have HR : Hid (decOk s = true → tnR s = limbs (valL s.data.toList).toNat) := Lib.hid (fun h => by unfold tnR; rw [if_pos h])
          have HR2 : Hid (decOk s = false → tnR s = []) := Lib.hid (fun h => by unfold tnR; rw [h]; rfl)
          clear hbk hown hne
          have hrl := HRL.out
          generalize limbs (valL s.data.toList).toNat = L at *
          go_wp2_with fail
          refine (implNatText_any _ L _ _ _ (by omega) (Nat.le_refl _) (Row.of_own HO.out) (ht.below bb2)).mono ?_
          rintro e w3 ⟨rfl, b3⟩
          have c3 : w3.cell? ⟨w1.heap.size, 0, none⟩ = some (.slice A L.length c) := (b3.cell (p := ⟨w1.heap.size, 0, none⟩) hlt).trans c2
          have HO3 := Lib.hid (own_below HO.out b3)
          have bb3 : Below w.heap.size w w3 := Below.next bb2 b3
          by_cases hsame : natTextB L = s
          · have HOK := Lib.hid (HRT.out.1 hsame)
            go_wp2
            go_ret2
            exact ⟨_, by rw [HOK.out]; rfl, by rw [HR.out HOK.out]; exact HO3.out, bb3⟩
          · have HOK : Hid (decOk s = false) := Lib.hid (by
              cases h : decOk s with
              | false => rfl
              | true => exact absurd (HRT.out.2 h) hsame)
            have hne := bytes_ne' hsame
            go_wp2
            go_ret2
            exact ⟨_, by rw [HOK.out]; rfl, by rw [HR2.out HOK.out]; exact World.ownsRow_nil _ _ _ _, bb3⟩
    · have hd' : digitsB s = false := by simpa using hd
      have HOK := Lib.hid (decOk_dig s hd')
      have HR : Hid (tnR s = []) := Lib.hid (by unfold tnR; rw [HOK.out]; rfl)
      clear hd
      go_enter Tryd.func30, Tryd.ntmps30
      go_wp2_with fail
      refine (implIsDigits_any s _).mono ?_
      rintro e w1 ⟨rfl, b1⟩
      rw [hd']
      go_wp2
      go_ret2
      exact ⟨_, by rw [HOK.out]; rfl, by rw [HR.out]; exact World.ownsRow_nil _ _ _ _, b1⟩
  · have HOK := Lib.hid (decOk_long s h450)
    have HR : Hid (tnR s = []) := Lib.hid (by unfold tnR; rw [HOK.out]; rfl)
    go_enter Tryd.func30, Tryd.ntmps30
    go_wp2
    go_ret2
    exact ⟨_, by rw [HOK.out]; rfl, by rw [HR.out]; exact World.ownsRow_nil _ _ _ _, Below.refl _ _⟩
end Go.Proofs.YtecaghbakjalgaaDoor
