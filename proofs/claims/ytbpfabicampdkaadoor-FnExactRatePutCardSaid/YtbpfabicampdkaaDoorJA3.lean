/-
  The law FnExactRateOk of chapter 11, walked: it returns true wherever both packages answer alike.
  Spec's look-ups over its table of currencies, a list that a call lays.
  Spec's look-ups by code.
  Impl's look-ups by code, where they scan the table.
  Chapter 5 of package spec: what its functions on signed numbers return.
  Chapter 5 of package spec: sums of signed numbers.
  Chapter 5 of package spec: IntNum, IntCmp, IntSign.
  Chapter 8 of package spec: what its functions return that need no fractions.
  What NatOk, NatOf, NatCmp and NatInt of package impl return.
  Chapter 5 of package impl: IntOk.
  Chapter 8 of package impl: DecOk.
  Chapter 5 of package impl: the number of a signed one, its order and its sign.
  Chapter 11 of package impl: what its functions return that need no fractions and no texts (RateOk, pairOf).
  Chapter 11 of package spec: what its functions return that need no fractions and no texts.
  Arguments, opened: slices of strings and of ints that came in read as lists.
  Arguments of type laws.Signed, opened.
  What laws.markText returns: a text that is a function of its number alone.
-/
import Derived.Deep.RegionHeld3
import Derived.Deep.DeepCutAuto
import Derived.Deep.MidRow
import Derived.Lib.SmallJoins
import Derived.ChangeArms
import Derived.Test.YtbpfabicampdkaaDoorJA2
namespace Go.Proofs.YtbpfabicampdkaaDoor
open Go.RowKit

set_option maxHeartbeats 4000000 in
set_option maxRecDepth 100000 in
theorem lawRateOk_walk (va : Value) (a : EI) (R0 : Bool) (w : World)
    (hS : ∀ (ua : Value) (W : World), OwnE ua a W → Calls Tryd.prog 8 #[ua] W (Postb R0 W))
    (hI : ∀ (ua : Value) (W : World), OwnE ua a W → CurTab W → Calls Tryd.prog 10 #[ua] W (Postb R0 W))
    (ht0 : CurTab w) (hl : szE a ≤ 1048576) (ra : RdE w va a) :
    Calls Tryd.prog 3 #[va] w fun e w' => e = .returned (.bool true) ∧ Below w.heap.size w w' := by
  have HS := Lib.hid hS
  have HI := Lib.hid hI
  clear hS hI
  have HT0 := Lib.hid ht0
  clear ht0
  have hsa := szE_nonneg a
  have hma := mkE_range a
  have hza : szE a ≤ 1048576 := by omega
  obtain ⟨Aa, ca, rfl⟩ := rdE_form ra
  have bb0 : Below w.heap.size w (w.alloc (.cells #[.string a.1, .string a.2.1, .bool a.2.2.1.1, .slice Aa a.2.2.1.2.length ca, .int .i64 a.2.2.2] 28)) := below_al (Below.refl _ _) _
  have ka := (box_new w #[.string a.1, .string a.2.1, .bool a.2.2.1.1, .slice Aa a.2.2.1.2.length ca, .int .i64 a.2.2.2] 28)
  have RFa : Hid (∀ W, Below w.heap.size w W → RdE W (.agg #[.string a.1, .string a.2.1, .bool a.2.2.1.1, .slice Aa a.2.2.1.2.length ca, .int .i64 a.2.2.2]) a) := Lib.hid fun W hb => ra.below hb
  go_enter Tryd.func3, Tryd.ntmps3
  have ka_c0 := ka.here.cell 0 _ rfl
  have ka_c1 := ka.here.cell 1 _ rfl
  have ka_c2 := ka.here.cell 2 _ rfl
  have ka_c3 := ka.here.cell 3 _ rfl
  have ka_c4 := ka.here.cell 4 _ rfl
  go_wp2_with fail
  clear ka_c0 ka_c1 ka_c2 ka_c3 ka_c4
  refine (szE_cal _ a (1048576) _ (capE_of hza) (by omega) (by omega) (RFa.out _ bb0)).mono ?_
  rintro e w1 ⟨rfl, b1⟩
  rw [leftI_of (by omega)]
  have bb1 := Below.next bb0 b1
  replace ka := ka.below b1
  have hn : decide (((1048576 : Int) - szE a : Int) < 0) = false := decide_eq_false (by omega)
  have HKa := Lib.hid (ka.lt (w.heap.size) (by simp))
  have ka_c0 := ka.here.cell 0 _ rfl
  have ka_c1 := ka.here.cell 1 _ rfl
  have ka_c2 := ka.here.cell 2 _ rfl
  have ka_c3 := ka.here.cell 3 _ rfl
  have ka_c4 := ka.here.cell 4 _ rfl
  go_wp2_with fail
  clear ka_c0 ka_c1 ka_c2 ka_c3 ka_c4
  refine (toE_new _ a _ hza (RFa.out _ bb1)).mono ?_
  rintro e w2 ⟨t, St, rfl, ot, lt, b2⟩
  have bb2 := Below.next bb1 b2
  replace ka := ka.below b2
  go_wp2_with fail
  refine (HS.out _ _ ot.here).mono ?_
  rintro e w3 ⟨rfl, b3⟩
  clear ot lt
  have bb3 := Below.next bb2 b3
  replace ka := ka.below b3
  have ka_c0 := ka.here.cell 0 _ rfl
  have ka_c1 := ka.here.cell 1 _ rfl
  have ka_c2 := ka.here.cell 2 _ rfl
  have ka_c3 := ka.here.cell 3 _ rfl
  have ka_c4 := ka.here.cell 4 _ rfl
  go_upto_region 6 with fail
  go_cut [5] (fun s wx => NewLocV 35 (fun v => OwnE v a) w3 s wx)
  case first =>
    go_wp2_with fail
    refine (toE_new _ a _ hza (RFa.out _ bb3)).mono ?_
    rintro e wt ⟨ut, St, rfl, ot, lt, bt⟩
    obtain ⟨At, ct, rfl⟩ := ownE_form ot.here
    go_wp2_with fail
    go_meet
    exact newLocV_last ot lt (Nat.le_refl _) bt
  rename World => w4
  clear ka_c0 ka_c1 ka_c2 ka_c3 ka_c4
  obtain ⟨gxa, csxa, Sxa, rfl, kxa, oxa, nxa, lxa, b4⟩ := hcut
  obtain ⟨Axa, cxa, exa⟩ := ownE_form oxa.here
  injection exa with exa
  subst exa
  have bb4 := Below.next bb3 b4
  replace ka := ka.below b4
  have kxa_c0 := kxa.here.cell 0 _ rfl
  have kxa_c1 := kxa.here.cell 1 _ rfl
  have kxa_c2 := kxa.here.cell 2 _ rfl
  have kxa_c3 := kxa.here.cell 3 _ rfl
  have kxa_c4 := kxa.here.cell 4 _ rfl
  go_wp2_with fail
  clear kxa_c0 kxa_c1 kxa_c2 kxa_c3 kxa_c4
  refine (HI.out _ _ oxa.here (HT0.out.below bb4)).mono ?_
  rintro e w5 ⟨rfl, b5⟩
  have bb5 := Below.next bb4 b5
  replace ka := ka.below b5
  replace kxa := kxa.below b5
  replace oxa := oxa.below b5
  have ka_c0 := ka.here.cell 0 _ rfl
  have ka_c1 := ka.here.cell 1 _ rfl
  have ka_c2 := ka.here.cell 2 _ rfl
  have ka_c3 := ka.here.cell 3 _ rfl
  have ka_c4 := ka.here.cell 4 _ rfl
  have kxa_c0 := kxa.here.cell 0 _ rfl
  have kxa_c1 := kxa.here.cell 1 _ rfl
  have kxa_c2 := kxa.here.cell 2 _ rfl
  have kxa_c3 := kxa.here.cell 3 _ rfl
  have kxa_c4 := kxa.here.cell 4 _ rfl
  go_wp2_with fail
  have HB0 := Lib.hid (show Below w5.heap.size w5 w5.drew from (Below.refl _ _).drew)
  have KL := Lib.hid (show ∀ W, Below w5.heap.size w5 W → W.cell? ⟨w.heap.size, 0, none⟩ = some (.string a.1) ∧ W.cell? ⟨w.heap.size, 1, none⟩ = some (.string a.2.1) ∧ W.cell? ⟨w.heap.size, 2, none⟩ = some (.bool a.2.2.1.1) ∧ W.cell? ⟨w.heap.size, 3, none⟩ = some (.slice Aa a.2.2.1.2.length ca) ∧ W.cell? ⟨w.heap.size, 4, none⟩ = some (.int .i64 a.2.2.2) ∧ W.cell? ⟨gxa, 0, none⟩ = some (.string a.1) ∧ W.cell? ⟨gxa, 1, none⟩ = some (.string a.2.1) ∧ W.cell? ⟨gxa, 2, none⟩ = some (.bool a.2.2.1.1) ∧ W.cell? ⟨gxa, 3, none⟩ = some (.slice Axa a.2.2.1.2.length cxa) ∧ W.cell? ⟨gxa, 4, none⟩ = some (.int .i64 a.2.2.2) ∧ Hid (Below w5.heap.size w5 W) from
    fun W hb => ⟨(ka.below hb).here.cell 0 _ rfl, (ka.below hb).here.cell 1 _ rfl, (ka.below hb).here.cell 2 _ rfl, (ka.below hb).here.cell 3 _ rfl, (ka.below hb).here.cell 4 _ rfl, (kxa.below hb).here.cell 0 _ rfl, (kxa.below hb).here.cell 1 _ rfl, (kxa.below hb).here.cell 2 _ rfl, (kxa.below hb).here.cell 3 _ rfl, (kxa.below hb).here.cell 4 _ rfl, Lib.hid hb⟩)
  have BBF := Lib.hid (show ∀ W, Below w5.heap.size w5 W → Below w.heap.size w W from fun W hb => Below.next bb5 hb)
  have OXF := Lib.hid (show ∀ W, Below w5.heap.size w5 W → OwnE (.agg #[.string a.1, .string a.2.1, .bool a.2.2.1.1, .slice Axa a.2.2.1.2.length cxa, .int .i64 a.2.2.2]) a W from fun W hb => (oxa.below hb).here)
  clear ka_c0 ka_c1 ka_c2 ka_c3 ka_c4 kxa_c0 kxa_c1 kxa_c2 kxa_c3 kxa_c4
  go_region_held3 (fun W => W.cell? ⟨w.heap.size, 0, none⟩ = some (.string a.1) ∧ W.cell? ⟨w.heap.size, 1, none⟩ = some (.string a.2.1) ∧ W.cell? ⟨w.heap.size, 2, none⟩ = some (.bool a.2.2.1.1) ∧ W.cell? ⟨w.heap.size, 3, none⟩ = some (.slice Aa a.2.2.1.2.length ca) ∧ W.cell? ⟨w.heap.size, 4, none⟩ = some (.int .i64 a.2.2.2) ∧ W.cell? ⟨gxa, 0, none⟩ = some (.string a.1) ∧ W.cell? ⟨gxa, 1, none⟩ = some (.string a.2.1) ∧ W.cell? ⟨gxa, 2, none⟩ = some (.bool a.2.2.1.1) ∧ W.cell? ⟨gxa, 3, none⟩ = some (.slice Axa a.2.2.1.2.length cxa) ∧ W.cell? ⟨gxa, 4, none⟩ = some (.int .i64 a.2.2.2) ∧ Hid (Below w5.heap.size w5 W))
    ((refine KL.out _ ?_; (first | exact HBe.out | exact HBt.out | exact HB0.out | fail)))
    (first
      | (go_at_call 9; (have hBB := (‹_ ∧ _ ∧ _ ∧ _ ∧ _ ∧ _ ∧ _ ∧ _ ∧ _ ∧ _ ∧ Hid (Below w5.heap.size w5 _)›).2.2.2.2.2.2.2.2.2.2); (with_reducible refine (toE_new _ a _ hza (RFa.out _ (BBF.out _ hBB.out))).mono ?_); rintro e wt ⟨t, St, rfl, ot, lt, bt⟩; have HBt := Lib.hid (Below.next hBB.out bt); clear hBB)
      | (go_at_call 11; (have hBB := (‹_ ∧ _ ∧ _ ∧ _ ∧ _ ∧ _ ∧ _ ∧ _ ∧ _ ∧ _ ∧ Hid (Below w5.heap.size w5 _)›).2.2.2.2.2.2.2.2.2.2); (with_reducible refine (eqE_cal _ _ a a _ (capE_of hza) (OwnE.rd (OXF.out _ hBB.out)) (OwnE.rd ot.here)).mono ?_); rintro e w6 ⟨rfl, be⟩; rw [decide_refl]; have HBe := Lib.hid (Below.next hBB.out be); clear hBB))
  have b6 := HBe.out
  have bb6 := Below.next bb5 b6
  replace ka := ka.below b6
  replace kxa := kxa.below b6
  replace oxa := oxa.below b6
  clear HB0 KL BBF OXF HBt HBe ot lt
  go_wp2
  go_ret
  exact ⟨rfl, bb6⟩
end Go.Proofs.YtbpfabicampdkaaDoor

namespace Go.Proofs.YtbpfabicampdkaaDoor
open Go.RowKit

/-- the four cells of a row, where the table lies -/
def RowCells (W : World) (g k : Nat) (r : CR) : Prop := W.cell? ⟨g, k * 4, none⟩ = some (.string r.1) ∧ W.cell? ⟨g, k * 4 + 1, none⟩ = some (.string r.2.1) ∧ W.cell? ⟨g, k * 4 + 2, none⟩ = some (.int .i64 r.2.2.1) ∧ W.cell? ⟨g, k * 4 + 3, none⟩ = some (.int .i64 r.2.2.2)
theorem rowCells_of {W : World} {g : Nat} {l : List CR} (h : W.rangeAt g 0 (cellsT l)) {k : Nat} (hk : k < l.length) : RowCells W g k l[k] := by
  have f : ∀ j (hj : j < 4) v, (cellsC l[k])[j]? = some v → W.cell? ⟨g, k * 4 + j, none⟩ = some v := fun j hj v hv => by
    have := h (k * 4 + j) v (by rw [cellsT_get l k j hk hj]; exact hv)
    rwa [Nat.zero_add] at this
  exact ⟨f 0 (by decide) _ rfl, f 1 (by decide) _ rfl, f 2 (by decide) _ rfl, f 3 (by decide) _ rfl⟩
theorem range_new (w : World) (l : List Value) (T : TypeId) : (w.alloc (.cells l.toArray T)).rangeAt w.heap.size 0 l := by
  intro j v hv
  have hb : (w.alloc (.cells l.toArray T)).heap[w.heap.size]? = some (.cells l.toArray T (0, 0)) := Array.getElem?_push_size
  rw [Nat.zero_add]
  unfold World.cell?
  simp only [hb]
  simpa using hv
theorem range_below {w W : World} {g : Nat} {l : List Value} (h : w.rangeAt g 0 l) (hg : g < w.heap.size) (hb : Below w.heap.size w W) : W.rangeAt g 0 l := fun j v hv => (hb.cell hg).trans (h j v hv)
def TabPost (w : World) (e : Ending) (w' : World) : Prop := e = .returned (.slice (some ⟨w.heap.size, 0, none⟩) 20 20) ∧ w' = w.alloc (.cells (cellsT specT).toArray 81)
set_option maxHeartbeats 1000000 in
set_option maxRecDepth 100000 in
theorem l08Table_any (w : World) : Calls Tryd.prog 75 #[] w (TabPost w) := by
  go_enter Tryd.func75, Tryd.ntmps75
  go_wp2
  go_ret
  exact ⟨rfl, rfl⟩
end Go.Proofs.YtbpfabicampdkaaDoor

namespace Go.Proofs.YtbpfabicampdkaaDoor
open Go.RowKit

def RowPost (r : CR) (w : World) (e : Ending) (w' : World) : Prop := e = .returned (.agg #[.string r.1, .string r.2.1, .int .i64 r.2.2.1, .int .i64 r.2.2.2]) ∧ Below w.heap.size w w'
theorem below_set4 {W0 W : World} {g : Nat} {a b c d : Value} (h : Below W0.heap.size W0 W) (hg : W0.heap.size ≤ g) : Below W0.heap.size W0 ((((W.setCell ⟨g, 0, none⟩ a).setCell ⟨g, 1, none⟩ b).setCell ⟨g, 2, none⟩ c).setCell ⟨g, 3, none⟩ d) :=
  (((h.setCell (p := ⟨g, 0, none⟩) hg _).setCell (p := ⟨g, 1, none⟩) hg _).setCell (p := ⟨g, 2, none⟩) hg _).setCell (p := ⟨g, 3, none⟩) hg _
set_option maxHeartbeats 1000000 in
set_option maxRecDepth 100000 in
theorem l08Find_any (n : ByteArray) (w : World) : Calls Tryd.prog 51 #[.string n] w (RowPost (rowOf specT n) w) := by
  have kr := box_new w #[.string ⟨#[]⟩, .string ⟨#[]⟩, .int .i64 0, .int .i64 0] 81
  have b0 := below_al (Below.refl w.heap.size w) (.cells #[.string ⟨#[]⟩, .string ⟨#[]⟩, .int .i64 0, .int .i64 0] 81)
  obtain ⟨W0, hW0⟩ : ∃ W0, W0 = w.alloc (.cells #[.string ⟨#[]⟩, .string ⟨#[]⟩, .int .i64 0, .int .i64 0] 81) := ⟨_, rfl⟩
  rw [← hW0] at kr b0
  have HW := Lib.hid hW0
  clear hW0
  go_enter Tryd.func51, Tryd.ntmps51
  go_wp2_with fail
  rw [← HW.out]
  refine (l08Table_any _).mono ?_
  rintro e w1 ⟨rfl, hw1⟩
  have b1 : Below W0.heap.size W0 w1 := by rw [hw1]; exact (Below.refl _ _).alloc (Nat.le_refl _) _
  have hr1 : w1.rangeAt W0.heap.size 0 (cellsT specT) := by rw [hw1]; exact range_new _ _ _
  have hg1 : W0.heap.size < w1.heap.size := by rw [hw1]; simp
  have HR := Lib.hid (show ∀ W, Below w1.heap.size w1 W → ∀ k (hk : k < 20), RowCells W W0.heap.size k (specT[k]'hk) from fun W hb k hk => rowCells_of (range_below hr1 hg1 hb) hk)
  have HK := Lib.hid (kr.below b1)
  have B1 := Lib.hid (Below.next b0 b1)
  generalize W0.heap.size = g at HR hg1
  clear hw1 hr1 b1 kr b0 HW
  go_wp2
  go_loopw [7] (fun i wr => ∃ k : Nat, k ≤ 20 ∧ i = .int .i64 k ∧ Hid (∀ r ∈ specT.take k, ¬ r.1 = n) ∧ Below w1.heap.size w1 wr) (fun i _ => 20 - (intOf i).toNat)
  case atStart => exact ⟨0, Nat.zero_le _, rfl, Lib.hid (fun r hr => absurd hr (by simp)), Below.refl _ _⟩
  case round =>
    obtain ⟨k, hk, rfl, hp, hb⟩ := hrel
    by_cases hlt : k < 20
    · have hix := HR.out wr hb k hlt
      have HM := Lib.hid (show specT[k] ∈ specT from List.getElem_mem _)
      have HN := Lib.hid (fun h => take_next hp.out (show k < specT.length from hlt) h)
      generalize specT[k] = r at hix HM HN
      obtain ⟨c, m, p, q⟩ := r
      obtain ⟨x0, x1, x2, x3⟩ := hix
      dsimp only at x0 x1 x2 x3
      have hal := below_al (Below.refl wr.heap.size wr) (.cells #[.string c, .string m, .int .i64 p, .int .i64 q] 81)
      by_cases he : c = n
      · subst he
        have hA := Lib.hid (rowOf_mem specT_codes HM.out)
        have ko := (HK.out.below hb).below hal
        have HB := Lib.hid (Below.next (Below.next B1.out hb) hal)
        have co0 := ko.here.cell 0 _ rfl
        have co1 := ko.here.cell 1 _ rfl
        have co2 := ko.here.cell 2 _ rfl
        have co3 := ko.here.cell 3 _ rfl
        have fo0 := Lib.frozen_of_heap ko.here 0
        have fo1 := Lib.frozen_of_heap ko.here 1
        have fo2 := Lib.frozen_of_heap ko.here 2
        have fo3 := Lib.frozen_of_heap ko.here 3
        clear HM HN hp ko hal
        go_wp2
        refine bodyPost_ret (v := .agg #[.string c, .string m, .int .i64 p, .int .i64 q]) (by simp [results, Tryd.results51, go_sem, co0, co1, co2, co3]) rfl ?_
        unfold RowPost
        rw [hA.out]
        exact ⟨rfl, below_set4 HB.out (Nat.le_refl _)⟩
      · have HN2 := Lib.hid (HN.out he)
        clear HM HN hp hal
        have hne := bytes_neC he
        go_wp2
        exact ⟨⟨k + 1, by omega, by go_num, HN2, hb.alloc (by have := hb.size; omega) _⟩, by simp [intOf]; omega⟩
    · obtain rfl : k = 20 := by omega
      have hA := Lib.hid (rowOf_none (l := specT) (n := n) (by rw [← List.take_of_length_le (l := specT) (i := 20) (by decide)]; exact hp.out))
      have ko := HK.out.below hb
      have HB := Lib.hid (Below.next B1.out hb)
      have co0 := ko.here.cell 0 _ rfl
      have co1 := ko.here.cell 1 _ rfl
      have co2 := ko.here.cell 2 _ rfl
      have co3 := ko.here.cell 3 _ rfl
      have fo0 := Lib.frozen_of_heap ko.here 0
      have fo1 := Lib.frozen_of_heap ko.here 1
      have fo2 := Lib.frozen_of_heap ko.here 2
      have fo3 := Lib.frozen_of_heap ko.here 3
      clear hp ko
      go_wp2
      refine bodyPost_ret (v := .agg #[.string ⟨#[]⟩, .string ⟨#[]⟩, .int .i64 0, .int .i64 0]) (by simp [results, Tryd.results51, go_sem, co0, co1, co2, co3]) rfl ?_
      unfold RowPost
      rw [hA.out]
      first | exact ⟨rfl, HB.out⟩ | exact ⟨rfl, below_set4 HB.out (Nat.le_refl _)⟩
theorem field_row0 (c m : ByteArray) (p q : Int) (W : World) : (Instr.field 81 (.agg #[.string c, .string m, .int .i64 p, .int .i64 q]) 0).run Tryd.prog W = .ok (.string c) W := by kernel_rfl
theorem field_row1 (c m : ByteArray) (p q : Int) (W : World) : (Instr.field 81 (.agg #[.string c, .string m, .int .i64 p, .int .i64 q]) 1).run Tryd.prog W = .ok (.string m) W := by kernel_rfl
theorem field_row2 (c m : ByteArray) (p q : Int) (W : World) : (Instr.field 81 (.agg #[.string c, .string m, .int .i64 p, .int .i64 q]) 2).run Tryd.prog W = .ok (.int .i64 p) W := by kernel_rfl
theorem field_row3 (c m : ByteArray) (p q : Int) (W : World) : (Instr.field 81 (.agg #[.string c, .string m, .int .i64 p, .int .i64 q]) 3).run Tryd.prog W = .ok (.int .i64 q) W := by kernel_rfl
theorem empty_list : (⟨#[]⟩ : ByteArray).toList = [] := by rw [ByteArray.toList_eq]
theorem known_neq (n : ByteArray) : ((rowOf specT n).1.toList == ([] : List UInt8)) = !knownC n := by
  rw [← known_ne n]
  by_cases h : (rowOf specT n).1 = ⟨#[]⟩
  · rw [h, empty_list]; rfl
  · have h2 := bytes_neC h
    rw [empty_list] at h2
    rw [h2, decide_eq_true h]
    rfl
set_option maxHeartbeats 400000 in
set_option maxRecDepth 100000 in
theorem specCurKnown_any (n : ByteArray) (w : World) : Calls Tryd.prog 25 #[.string n] w (Postb (knownC n) w) := by
  go_enter Tryd.func25, Tryd.ntmps25
  go_wp2_with fail
  refine (l08Find_any n _).mono ?_
  rintro e w1 ⟨rfl, b1⟩
  have hk := known_neq n
  generalize rowOf specT n = r at *
  obtain ⟨c, m, p, q⟩ := r
  dsimp only at hk ⊢
  have hk2 : (c.toList != ([] : List UInt8)) = knownC n := by rw [bne, hk, Bool.not_not]
  generalize knownC n = b at *
  have hf := field_row0 c m p q
  go_wp2
  go_ret
  exact ⟨rfl, b1⟩
end Go.Proofs.YtbpfabicampdkaaDoor

namespace Go.Proofs.YtbpfabicampdkaaDoor
open Go.RowKit

def RowPostb (r : CR) (b : Bool) (w : World) (e : Ending) (w' : World) : Prop := e = .returned (.tuple #[.agg #[.string r.1, .string r.2.1, .int .i64 r.2.2.1, .int .i64 r.2.2.2], .bool b]) ∧ Below w.heap.size w w'
theorem knownI {r : CR} (h : r ∈ implT) : knownC r.1 = true := List.any_eq_true.2 ⟨r.1, List.mem_map_of_mem (implT_sub r h), decide_eq_true rfl⟩
theorem knownI_none {n : ByteArray} (h : ∀ r ∈ implT, ¬ r.1 = n) : knownC n = false := by
  cases e : knownC n with
  | false => rfl
  | true =>
    obtain ⟨r, hr, he, _⟩ := known_row e
    exact absurd he (h r (specT_sub r hr))
set_option maxHeartbeats 1000000 in
set_option maxRecDepth 100000 in
theorem implFind_any (n : ByteArray) (w : World) (ht : CurTab w) : Calls Tryd.prog 56 #[.string n] w (RowPostb (rowOf specT n) (knownC n) w) := by
  have kr := box_new w #[.string ⟨#[]⟩, .string ⟨#[]⟩, .int .i64 0, .int .i64 0] 88
  have b0 := below_al (Below.refl w.heap.size w) (.cells #[.string ⟨#[]⟩, .string ⟨#[]⟩, .int .i64 0, .int .i64 0] 88)
  have HT := Lib.hid (ht.below b0)
  obtain ⟨W0, hW0⟩ : ∃ W0, W0 = w.alloc (.cells #[.string ⟨#[]⟩, .string ⟨#[]⟩, .int .i64 0, .int .i64 0] 88) := ⟨_, rfl⟩
  rw [← hW0] at kr b0 HT
  have HW := Lib.hid hW0
  have HI := Lib.hid cur_index
  have HK := Lib.hid kr
  have B1 := Lib.hid b0
  clear hW0 kr b0 ht
  go_enter Tryd.func56, Tryd.ntmps56
  go_wp2
  rw [← HW.out]
  refine wp_load_mid 107 _ (by rfl) 0 0 (by rfl) (cellsT implT) _ HT.out.range Tryd.underlying107 (by rfl) curInfo ?_
  generalize hTA : (cellsT implT).toArray = TA at *
  clear hTA HW
  go_wp2
  go_loopw [7] (fun i wr => ∃ k : Nat, k ≤ 20 ∧ i = .int .i64 k ∧ Hid (∀ r ∈ implT.take k, ¬ r.1 = n) ∧ Below W0.heap.size W0 wr) (fun i _ => 20 - (intOf i).toNat)
  case atStart => exact ⟨0, Nat.zero_le _, rfl, Lib.hid (fun r hr => absurd hr (by simp)), Below.refl _ _⟩
  case round =>
    obtain ⟨k, hk, rfl, hp, hb⟩ := hrel
    by_cases hlt : k < 20
    · have hix := HI.out k hlt
      have HM := Lib.hid (show implT[k] ∈ implT from List.getElem_mem _)
      have HN := Lib.hid (fun h => take_next hp.out (show k < implT.length from hlt) h)
      generalize implT[k] = r at hix HM HN
      obtain ⟨c, m, p, q⟩ := r
      simp only [cellsC] at hix
      have hal := below_al (Below.refl wr.heap.size wr) (.cells #[.string c, .string m, .int .i64 p, .int .i64 q] 88)
      by_cases he : c = n
      · subst he
        have hA := Lib.hid (show rowOf specT c = _ from (rowOf_eq c).symm.trans (rowOf_mem implT_codes HM.out))
        have hA2 := Lib.hid (knownI HM.out)
        have ko := (HK.out.below hb).below hal
        have HB := Lib.hid (Below.next (Below.next B1.out hb) hal)
        have co0 := ko.here.cell 0 _ rfl
        have co1 := ko.here.cell 1 _ rfl
        have co2 := ko.here.cell 2 _ rfl
        have co3 := ko.here.cell 3 _ rfl
        have fo0 := Lib.frozen_of_heap ko.here 0
        have fo1 := Lib.frozen_of_heap ko.here 1
        have fo2 := Lib.frozen_of_heap ko.here 2
        have fo3 := Lib.frozen_of_heap ko.here 3
        clear HM HN hp ko hal
        go_wp2
        refine bodyPost_ret (v := .tuple #[.agg #[.string c, .string m, .int .i64 p, .int .i64 q], .bool true]) (by simp [results, Tryd.results56, go_sem, co0, co1, co2, co3]) rfl ?_
        unfold RowPostb
        rw [hA.out, show knownC c = true from hA2.out]
        exact ⟨rfl, below_set4 HB.out (Nat.le_refl _)⟩
      · have HN2 := Lib.hid (HN.out he)
        clear HM HN hp hal
        have hne := bytes_neC he
        go_wp2
        exact ⟨⟨k + 1, by omega, by go_num, HN2, hb.alloc (by have := hb.size; omega) _⟩, by simp [intOf]; omega⟩
    · obtain rfl : k = 20 := by omega
      have hnone : ∀ r ∈ implT, ¬ r.1 = n := by rw [← List.take_of_length_le (l := implT) (i := 20) (by decide)]; exact hp.out
      have hA := Lib.hid (show rowOf specT n = zeroC from (rowOf_eq n).symm.trans (rowOf_none hnone))
      have hA2 := Lib.hid (knownI_none hnone)
      have ko := HK.out.below hb
      have HB := Lib.hid (Below.next B1.out hb)
      have co0 := ko.here.cell 0 _ rfl
      have co1 := ko.here.cell 1 _ rfl
      have co2 := ko.here.cell 2 _ rfl
      have co3 := ko.here.cell 3 _ rfl
      have fo0 := Lib.frozen_of_heap ko.here 0
      have fo1 := Lib.frozen_of_heap ko.here 1
      have fo2 := Lib.frozen_of_heap ko.here 2
      have fo3 := Lib.frozen_of_heap ko.here 3
      clear hp ko hnone
      go_wp2
      refine bodyPost_ret (v := .tuple #[.agg #[.string ⟨#[]⟩, .string ⟨#[]⟩, .int .i64 0, .int .i64 0], .bool false]) (by simp [results, Tryd.results56, go_sem, co0, co1, co2, co3]) rfl ?_
      unfold RowPostb
      rw [hA.out, hA2.out]
      first | exact ⟨rfl, HB.out⟩ | exact ⟨rfl, below_set4 HB.out (Nat.le_refl _)⟩
set_option maxHeartbeats 400000 in
set_option maxRecDepth 100000 in
theorem implCurKnown_any (n : ByteArray) (w : World) (ht : CurTab w) : Calls Tryd.prog 29 #[.string n] w fun e w' => e = .returned (.bool (knownC n)) ∧ Below w.heap.size w w' := by
  go_enter Tryd.func29, Tryd.ntmps29
  go_wp2_with fail
  refine (implFind_any n _ ht).mono ?_
  rintro e w1 ⟨rfl, b1⟩
  go_wp2
  go_ret
  exact ⟨rfl, below_al b1 _⟩
end Go.Proofs.YtbpfabicampdkaaDoor

namespace Go.Proofs.YtbpfabicampdkaaDoor
open Go.RowKit

/-- a parameter's box, new -/
theorem own_up {w w' : World} {base n : Nat} {e : TypeId} {v : Value} {xs : List Value} (h : w.ownsRow base e 1 v n xs) (hb : Below w.heap.size w w') : w'.ownsRow base e 1 v n xs := own_below h hb

set_option maxHeartbeats 400000 in
set_option maxRecDepth 100000 in
theorem specIntOk_any (v : Value) (x : SI) (w : World) (hl : x.2.length ≤ 1048576) (h : RdS w v x) :
    Calls Tryd.prog 52 #[v] w fun e w' => e = .returned (.bool (okS x)) ∧ Below w.heap.size w w' := by
  obtain ⟨n, xs⟩ := x
  obtain ⟨u, rfl, hp⟩ := h
  obtain ⟨A, c, rfl⟩ := row_form hp
  rw [intsV_length] at hp ⊢
  simp only at hl hp ⊢
  have hbx : Below w.heap.size w (w.alloc (.cells #[.bool n, .slice A xs.length c] 31)) := below_al (Below.refl _ _) _
  have HV := Lib.hid (show okS (n, xs) = (natOkB xs && (!n || decide (0 < xs.length))) from rfl)
  by_cases ok : natOkB xs = true
  · rw [ok] at HV
    go_enter Tryd.func52, Tryd.ntmps52
    go_wp2_with fail
    refine (specNatOk_any _ xs 0 w.heap.size _ hl (hp.below hbx (Nat.le_refl _))).mono ?_
    rintro e w1 ⟨rfl, rfl⟩
    rw [ok]
    cases n with
    | false =>
      go_wp2
      go_ret
      exact ⟨ret_bool (by rw [HV.out]; rfl), hbx⟩
    | true =>
      go_wp2
      go_ret
      exact ⟨ret_bool (by rw [HV.out]; simp), hbx⟩
  · have ok' : natOkB xs = false := by simpa using ok
    rw [ok'] at HV
    clear ok
    go_enter Tryd.func52, Tryd.ntmps52
    go_wp2_with fail
    refine (specNatOk_any _ xs 0 w.heap.size _ hl (hp.below hbx (Nat.le_refl _))).mono ?_
    rintro e w1 ⟨rfl, rfl⟩
    rw [ok']
    go_wp2
    go_ret
    exact ⟨ret_bool (by rw [HV.out]; rfl), hbx⟩

set_option maxHeartbeats 1000000 in
set_option maxRecDepth 100000 in
theorem l04Make_any (n : Bool) (v : Value) (xs : List Int) (base : Nat) (w : World) (hl : xs.length ≤ 1048576) (ho : w.ownsRow base 3 1 v xs.length (intsV xs)) :
    Calls Tryd.prog 60 #[.bool n, v] w (NewS (mkS n (trimL xs)) w) := by
  obtain ⟨i0, hi0, hz0, hz1, hz2⟩ := info_parts intInfo
  have hbx : Below w.heap.size w (w.alloc (.cells #[.bool false, .slice none 0 0] 31)) := below_al (Below.refl _ _) _
  obtain ⟨A, c, rfl⟩ := own_len ho
  have HO := Lib.hid ho
  clear ho
  have hcl : (capL (trimL xs)).length ≤ 50 := by
    unfold capL
    split
    · simp
    · omega
  have HR := Lib.hid (show mkS n (trimL xs) = (n && decide (0 < (capL (trimL xs)).length), capL (trimL xs)) from rfl)
  have hmade : ((w.alloc (.cells #[.bool false, .slice none 0 0] 31)).alloc (.cells #[] 3)).ownsRow w.heap.size 3 1 (.slice (some ⟨w.heap.size + 1, 0, none⟩) 0 0) 0 [] := by
    have h := World.ownsRow_made (base := w.heap.size) (e := 3) (size := 1) (w.alloc (.cells #[.bool false, .slice none 0 0] 31)) #[] 0 hbx.size (Nat.zero_le _) rfl
    simpa using h
  have hbx2 := below_al hbx (.cells #[] 3)
  have HM := Lib.hid hmade
  clear hmade
  have hone : Hid (∀ l : List Int, ∀ u ∈ intsV l, u.oneCell' = true) := Lib.hid (fun l u hu => by obtain ⟨x, _, rfl⟩ := List.mem_map.1 hu; rfl)
  have hsz1 : (w.alloc (.cells #[.bool false, .slice none 0 0] 31)).heap.size = w.heap.size + 1 := by simp
  cases n
  all_goals
    go_enter Tryd.func60, Tryd.ntmps60
    go_wp2_with fail
    refine (specCap_any _ xs base _ hl (own_up HO.out hbx)).mono ?_
    rintro e w1 ⟨rfl, v1, rfl, o1⟩
    have HO1 := Lib.hid (own_alloc o1 (.cells #[] 3))
    have HR2 := HR.out
    generalize capL (trimL xs) = ys at *
    obtain ⟨A1, c1, rfl⟩ := own_len o1
    have HRR := Lib.hid HR2
    clear o1 HR2 HR
    go_wp2_with (at_builtin; refine append_owned rfl _ _ 22 rfl w.heap.size 3 i0 (.int .i64 0) 8 Tryd.underlying22 hi0 hz0 hz1 hz2 rfl _ 0 [] rfl HM.out _ ys.length base 3 (intsV ys) rfl HO1.out (hone.out ys) (by unfold maxLen; omega) (by omega) hbx2.size ?_)
    intro v2 w2 o2 g2
    obtain ⟨A2, c2, rfl⟩ := own_len o2
    have b2 : Below w.heap.size w w2 := hbx2.grown g2 hbx2.size (fun k hk => by cases hk; show w.heap.size ≤ w.heap.size + 1; omega)
    have hbox : At [w.heap.size] (BoxAt w.heap.size #[.bool false, .slice none 0 0] 31) w2 :=
      ((box_new w #[.bool false, .slice none 0 0] 31).below (below_al (Below.refl _ _) (.cells #[] 3))).chg (Chg.of_grown g2) (fun i hi hm => by simp at hi; simp [Value.ownBlock] at hm; omega)
    have cz0 : w2.cell? ⟨w.heap.size, 0, none⟩ = some (.bool false) := hbox.here.cell 0 _ rfl
    have cz1 : w2.cell? ⟨w.heap.size, 1, none⟩ = some (.slice none 0 0) := hbox.here.cell 1 _ rfl
    have fz0 := Lib.frozen_of_heap hbox.here 0
    have fz1 := Lib.frozen_of_heap hbox.here 1
    have HO2 := Lib.hid o2
    have HBX := Lib.hid hbox
    have HB2 := Lib.hid b2
    clear o2 g2 hbox b2 hbx2 hbx
    go_wp2
    refine bodyPost_ret (v := .agg #[.bool _, .slice A2 ys.length c2]) (by simp [results, Tryd.results60, go_sem, cz0, cz1]; rfl) rfl ?_
    rw [HRR.out]
    refine ⟨.slice A2 ys.length c2, rfl, ?_, below_set2 HB2.out (Nat.le_refl _)⟩
    have hne := Lib.ownBlock_ne HO2.out HBX.out.here (by decide)
    refine own_stays HO2.out fun i hi => ?_
    have : i ≠ w.heap.size := fun e => hne (by rw [hi, e])
    exact (Below.heap_setCell _ _ _ _ this).trans (Below.heap_setCell _ _ _ _ this)

/-- a result that lies in its cell at block r -/
theorem newS_ret {r : Nat} {u c0 c1 : Value} {x : SI} {w W : World} {B : Nat} (hb : BoxAt r #[c0, c1] 31 W) (o : W.ownsRow B 3 1 u x.2.length (intsV x.2)) (hB : w.heap.size ≤ B) (hr : w.heap.size ≤ r) (hW : Below w.heap.size w W) :
    NewS x w (.returned (.agg #[.bool x.1, u])) ((W.setCell ⟨r, 0, none⟩ (.bool x.1)).setCell ⟨r, 1, none⟩ u) := by
  have hne := Lib.ownBlock_ne o hb (by decide)
  refine ⟨u, rfl, own_low (own_stays o fun i hi => ?_) hB, below_set2 hW hr⟩
  have : i ≠ r := fun e => hne (by rw [hi, e])
  exact (Below.heap_setCell _ _ _ _ this).trans (Below.heap_setCell _ _ _ _ this)
theorem newS_zero {w W : World} (hW : Below w.heap.size w W) : NewS zeroS w (.returned (.agg #[.bool false, .slice none 0 0])) W := ⟨_, rfl, World.ownsRow_nil _ _ _ _, hW⟩
theorem ok_trimL {xs : List Int} (h : natOkB xs = true) : trimL xs = limbs (nval xs).toNat := by rw [trim_limbs xs (natOk_parts h).1]
theorem negS_mk {x : SI} (h : okS x = true) : mkS (!x.1) (trimL x.2) = negS x := by
  have hp := okS_parts h
  have h0 := nval_ok hp.1
  unfold negS
  rw [if_pos h, ok_trimL hp.1, mkS_limbs]
  congr 1
  unfold valS
  cases x.1 <;> simp <;> omega
theorem absS_mk {x : SI} (h : okS x = true) : mkS false (trimL x.2) = absS x := by
  have hp := okS_parts h
  have h0 := nval_ok hp.1
  unfold absS
  rw [if_pos h, ok_trimL hp.1, mkS_limbs, valS_abs x hp.1]
  rfl


theorem trimL_limbs (m : Nat) : trimL (limbs m) = limbs m := trim_last _ (limbs_lastN m)
theorem min_limbs : limbs 9223372036854775808 = [854775808, 223372036, 9] := by
  rw [limbs_pos _ (by decide), limbs_pos _ (by decide), limbs_pos _ (by decide), limbs, dif_pos (by decide)]
  rfl
theorem ofZ_neg {n : Int} (h : n < 0) : mkS true (trimL (limbs (-n).toNat)) = ofZ n := by
  rw [trimL_limbs, mkS_limbs]
  congr 1
  simp
  omega
theorem ofZ_pos {n : Int} (h : ¬ n < 0) : mkS false (trimL (limbs n.toNat)) = ofZ n := by
  rw [trimL_limbs, mkS_limbs]
  congr 1
  simp
  omega
theorem Row.lit3 (w : World) (x y z : Value) (t : TypeId) : (w.alloc (.cells #[x, y, z] t)).ownsRow w.heap.size t 1 (.slice (some ⟨w.heap.size, 0, none⟩) 3 3) 3 [x, y, z] := by
  have h := World.ownsRow_lit (e := t) (size := 1) (base := w.heap.size) w #[x, y, z] 3 (Nat.le_refl _) (by unfold maxLen; omega) rfl
  simpa using h

end Go.Proofs.YtbpfabicampdkaaDoor

namespace Go.Proofs.YtbpfabicampdkaaDoor
open Go.RowKit

theorem At.behind {S : List Nat} {φ : World → Prop} {w w1 w2 : World} (h : At S φ w) (hb : Below w1.heap.size w1 w2) (hh : w1.heap = w.heap) : At S φ w2 :=
  (At.move (w' := w1) h (fun _ _ => by rw [hh]) (by rw [hh]; exact Nat.le_refl _)).below hb
theorem Chg.drew1 {T : List Nat} {w w1 : World} (h : Chg T w w1) : Chg T w w1.drew := ⟨h.os, h.tape, h.output, h.size, h.block⟩
theorem mk_add {n : Bool} {a b : List Int} (oa : natOkB a = true) (ob : natOkB b = true) : mkS n (trimL (addL a b 0)) = ofZ (if n = true then -(nval a + nval b) else nval a + nval b) := by
  have hv := addL_val a b 0 (natOk_parts oa).1 (natOk_parts ob).1 (by omega) (by omega)
  have h1 := nval_ok oa
  have h2 := nval_ok ob
  rw [trim_limbs _ hv.2.1, hv.1, mkS_limbs]
  congr 1
  split <;> omega
theorem mk_sub {n : Bool} {a b : List Int} (oa : natOkB a = true) (ob : natOkB b = true) (hle : nval b ≤ nval a) : mkS n (trimL (trimL (subL a b 0))) = ofZ (if n = true then -(nval a - nval b) else nval a - nval b) ∧ (subL a b 0).length = a.length := by
  have pa := natOk_parts oa
  have pb := natOk_parts ob
  have hll := len_of_le a b pa.1 ⟨pb.1, pb.2.2⟩ hle
  have hv := subL_val a b 0 pa.1 pb.1 hll (by omega) (by omega) (by omega)
  have h1 := nval_ok oa
  have h2 := nval_ok ob
  refine ⟨?_, hv.2.2⟩
  rw [trim_limbs (subL a b 0) hv.2.1, trimL_limbs, hv.1, mkS_limbs]
  congr 1
  split <;> omega




theorem mk_mul {n m : Bool} {a b L : List Int} (hL : trimL L = limbs (nval a * nval b).toNat) (oa : natOkB a = true) (ob : natOkB b = true) : mkS (n != m) (trimL L) = ofZ (valS (n, a) * valS (m, b)) := by
  have h1 := nval_ok oa
  have h2 := nval_ok ob
  have h3 := Int.mul_nonneg h1 h2
  rw [hL, mkS_limbs]
  congr 1
  unfold valS
  cases n <;> cases m <;> simp [Int.toNat_of_nonneg h3, Int.mul_neg, Int.neg_mul] <;> omega

end Go.Proofs.YtbpfabicampdkaaDoor

namespace Go.Proofs.YtbpfabicampdkaaDoor
open Go.RowKit

/-- what IntNum answers -/
def numS (x : SI) : Int × Bool := if okS x = true ∧ nval x.2 ≤ 9223372036854775807 then (valS x, true) else (0, false)


set_option maxHeartbeats 2000000 in
set_option maxRecDepth 100000 in
theorem specIntCmp_any (vx vy : Value) (x y : SI) (w : World) (hlx : x.2.length ≤ 1048576) (hly : y.2.length ≤ 1048576) (hx : OwnS vx x w) (hy : OwnS vy y w) :
    Calls Tryd.prog 54 #[vx, vy] w fun e w' => e = .returned (.int .i64 (cmpS x y)) ∧ Below w.heap.size w w' := by
  obtain ⟨ux, rfl, hox⟩ := hx
  obtain ⟨uy, rfl, hoy⟩ := hy
  obtain ⟨Ax, cx, rfl⟩ := own_len hox
  obtain ⟨Ay, cy, rfl⟩ := own_len hoy
  have hbb : Below w.heap.size w ((w.alloc (.cells #[.bool x.1, .slice Ax x.2.length cx] 31)).alloc (.cells #[.bool y.1, .slice Ay y.2.length cy] 31)) := below_al (below_al (Below.refl _ _) _) _
  have kx := (box_new w #[.bool x.1, .slice Ax x.2.length cx] 31).below (below_al (Below.refl _ _) (.cells #[.bool y.1, .slice Ay y.2.length cy] 31))
  have ky := box_new (w.alloc (.cells #[.bool x.1, .slice Ax x.2.length cx] 31)) #[.bool y.1, .slice Ay y.2.length cy] 31
  rw [show (w.alloc (.cells #[.bool x.1, .slice Ax x.2.length cx] 31)).heap.size = w.heap.size + 1 by simp] at ky
  have ox := own_below hox hbb
  have oy := own_below hoy hbb
  have rdx := (OwnS.mk (x := x) (ownI_of ox)).rd
  clear hox hoy
  by_cases okx : okS x = true
  · go_enter Tryd.func54, Tryd.ntmps54
    go_wp2_with fail
    refine (specIntOk_any _ x _ hlx rdx).mono ?_
    rintro e w1 ⟨rfl, b1⟩
    rw [okx]
    have bb1 := Below.next hbb b1
    replace kx := kx.below b1
    replace ky := ky.below b1
    replace ox := own_below ox b1
    replace oy := own_below oy b1
    have cy0 := ky.here.cell 0 _ rfl
    have cy1 := ky.here.cell 1 _ rfl
    clear rdx
    go_wp2_with fail
    refine (specIntOk_any _ y w1 hly (OwnS.mk (x := y) (ownI_of oy)).rd).mono ?_
    rintro e w2 ⟨rfl, b2⟩
    have bb2 := Below.next bb1 b2
    replace kx := kx.below b2
    replace ky := ky.below b2
    replace ox := own_below ox b2
    replace oy := own_below oy b2
    clear cy0 cy1
    by_cases oky : okS y = true
    · rw [oky]
      have HV := Lib.hid (show cmpS x y = cmpI (valS x) (valS y) by unfold cmpS; rw [if_pos ⟨okx, oky⟩])
      have px := okS_parts okx
      have py := okS_parts oky
      have h0x := nval_ok px.1
      have h0y := nval_ok py.1
      have Dx := Lib.hid (natOk_parts px.1)
      have Dy := Lib.hid (natOk_parts py.1)
      have cx0 := kx.here.cell 0 _ rfl
      have cx1 := kx.here.cell 1 _ rfl
      have cy0 := ky.here.cell 0 _ rfl
      have cy1 := ky.here.cell 1 _ rfl
      have hpx : x.1 = true → 0 < nval x.2 := fun h => okS_pos okx (px.2 h)
      have hpy : y.1 = true → 0 < nval y.2 := fun h => okS_pos oky (py.2 h)
      have HPX := Lib.hid hpx
      have HPY := Lib.hid hpy
      have rx := (ownI_of ox).row
      have ry := (ownI_of oy).row
      clear px py hpx hpy okx oky kx ky
      cases hx1 : x.1 <;> cases hy1 : y.1
      · rw [hx1] at cx0
        rw [hy1] at cy0
        have HC := Lib.hid (show cmpI (valS x) (valS y) = cmpI (nval x.2) (nval y.2) by unfold valS; rw [hx1, hy1]; rfl)
        clear hx1 hy1
        go_wp2_with fail
        refine (specCmp_any _ _ x.2 y.2 0 _ 0 _ w2 hlx hly ⟨Dx.out.1, Dx.out.2.2⟩ ⟨Dy.out.1, Dy.out.2.2⟩ rx ry).mono ?_
        rintro e w' ⟨rfl, q, rfl⟩
        go_wp2
        go_ret
        exact ⟨ret_int (by rw [HV.out, HC.out]), below_drewN bb2 q⟩
      · rw [hx1] at cx0
        rw [hy1] at cy0
        have HC := Lib.hid (show cmpI (valS x) (valS y) = 1 by have := HPY.out hy1; unfold valS; rw [hx1, hy1]; simp; unfold cmpI; rw [if_neg (by omega), if_pos (by omega)])
        clear hx1 hy1
        go_wp2
        go_ret
        exact ⟨ret_int (by rw [HV.out, HC.out]), bb2⟩
      · rw [hx1] at cx0
        rw [hy1] at cy0
        have HC := Lib.hid (show cmpI (valS x) (valS y) = -1 by have := HPX.out hx1; unfold valS; rw [hx1, hy1]; simp; unfold cmpI; rw [if_pos (by omega)])
        clear hx1 hy1
        go_wp2
        go_ret
        exact ⟨ret_int (by rw [HV.out, HC.out]), bb2⟩
      · rw [hx1] at cx0
        rw [hy1] at cy0
        have HC := Lib.hid (show cmpI (valS x) (valS y) = cmpI (nval y.2) (nval x.2) by unfold valS; rw [hx1, hy1]; simp; unfold cmpI; split <;> split <;> (try split) <;> (try split) <;> omega)
        clear hx1 hy1
        go_wp2_with fail
        refine (specCmp_any _ _ y.2 x.2 0 _ 0 _ w2 hly hlx ⟨Dy.out.1, Dy.out.2.2⟩ ⟨Dx.out.1, Dx.out.2.2⟩ ry rx).mono ?_
        rintro e w' ⟨rfl, q, rfl⟩
        go_wp2
        go_ret
        exact ⟨ret_int (by rw [HV.out, HC.out]), below_drewN bb2 q⟩
    · have oky' : okS y = false := by simpa using oky
      have HV := Lib.hid (show cmpS x y = 0 by unfold cmpS; rw [if_neg (fun h => oky h.2)])
      rw [oky']
      clear oky kx ky
      go_wp2
      go_ret
      exact ⟨ret_int HV.out.symm, bb2⟩
  · have okx' : okS x = false := by simpa using okx
    have HV := Lib.hid (show cmpS x y = 0 by unfold cmpS; rw [if_neg (fun h => okx h.1)])
    clear okx
    go_enter Tryd.func54, Tryd.ntmps54
    go_wp2_with fail
    refine (specIntOk_any _ x _ hlx rdx).mono ?_
    rintro e w1 ⟨rfl, b1⟩
    rw [okx']
    have bb1 := Below.next hbb b1
    clear kx ky rdx
    go_wp2
    go_ret
    exact ⟨ret_int HV.out.symm, bb1⟩

set_option maxHeartbeats 400000 in
set_option maxRecDepth 100000 in
theorem specIntSign_any (v : Value) (x : SI) (w : World) (hl : x.2.length ≤ 1048576) (h : OwnS v x w) :
    Calls Tryd.prog 27 #[v] w fun e w' => e = .returned (.int .i64 (cmpS x zeroS)) ∧ Below w.heap.size w w' := by
  obtain ⟨u, rfl, ho⟩ := h
  obtain ⟨A, c, rfl⟩ := own_len ho
  have hbb : Below w.heap.size w (w.alloc (.cells #[.bool x.1, .slice A x.2.length c] 31)) := below_al (Below.refl _ _) _
  have hoB := OwnS.mk (x := x) (ownI_of (own_below ho hbb))
  have hz : OwnS (.agg #[.bool false, .slice none 0 0]) zeroS (w.alloc (.cells #[.bool x.1, .slice A x.2.length c] 31)) := ⟨_, rfl, World.ownsRow_nil _ _ _ _⟩
  go_enter Tryd.func27, Tryd.ntmps27
  go_wp2_with fail
  refine (specIntCmp_any _ _ x zeroS _ hl (by decide) hoB hz).mono ?_
  rintro e w1 ⟨rfl, b1⟩
  go_wp2
  go_ret
  exact ⟨rfl, Below.next hbb b1⟩
end Go.Proofs.YtbpfabicampdkaaDoor

namespace Go.Proofs.YtbpfabicampdkaaDoor
open Go.RowKit

/-- what a call answers that keeps the memory of its argument: a decimal number that leans on no other blocks, and a bool -/
def KeptD (S : List Nat) (R0 : DI) (R1 : Bool) (w : World) (e : Ending) (w' : World) : Prop :=
  ∃ (v : Value) (T : List Nat), e = .returned (.tuple #[v, .bool R1]) ∧ At T (OwnD v R0) w' ∧ (∀ i ∈ T, i ∈ S) ∧ Below w.heap.size w w'
theorem keptD_at {r : Nat} {S : List Nat} {c0 c1 c2 : Value} {x : DI} {b : Bool} {w W : World} (o : At S (OwnD (.agg #[c0, c1, c2]) x) W) (hS : ∀ i ∈ S, i < w.heap.size) (hr : w.heap.size ≤ r) (hW : Below w.heap.size w W) :
    KeptD S x b w (.returned (.tuple #[.agg #[c0, c1, c2], .bool b])) (((W.setCell ⟨r, 0, none⟩ c0).setCell ⟨r, 1, none⟩ c1).setCell ⟨r, 2, none⟩ c2) :=
  ⟨_, S, rfl, o.chg chg_set3 (fun i hi hm => by have := hS i hi; simp at hm; omega), fun i hi => hi, below_set3 hW hr⟩
theorem keptD_zero {S : List Nat} {w W : World} (hW : Below w.heap.size w W) : KeptD S zeroD false w (.returned (.tuple #[.agg #[.bool false, .slice none 0 0, .int .i64 0], .bool false])) W :=
  ⟨_, [], rfl, atD_zero _, fun _ hi => absurd hi List.not_mem_nil, hW⟩
theorem keptD_eq {S : List Nat} {q p : DI × Bool} (e : q = p) {w w' : World} {n : Ending} (h : KeptD S q.1 q.2 w n w') : KeptD S p.1 p.2 w n w' := e ▸ h
set_option maxHeartbeats 1000000 in
set_option maxRecDepth 100000 in
theorem specDecOk_any (vd : Value) (d : DI) (w : World) (hl : d.1.2.length ≤ 1048576) (hd : OwnD vd d w) :
    Calls Tryd.prog 26 #[vd] w (Postb (okD d) w) := by
  have Hd := Lib.hid hd
  obtain ⟨Ad, cd, rfl⟩ := ownD_form hd
  have ODd := Lib.hid (show ∀ W, Below w.heap.size w W → OwnD (.agg #[.bool d.1.1, .slice Ad d.1.2.length cd, .int .i64 d.2]) d W from fun W hb => OwnD.below Hd.out hb)
  have OId := Lib.hid (show ∀ W, Below w.heap.size w W → OwnI (.slice Ad d.1.2.length cd) d.1.2 W from fun W hb => ownD_open (ODd.out W hb))
  have OSd := Lib.hid (show ∀ W, Below w.heap.size w W → OwnS (.agg #[.bool d.1.1, .slice Ad d.1.2.length cd]) d.1 W from fun W hb => OwnS.mk (OId.out W hb))
  clear hd
  have bb0 : Below w.heap.size w (w.alloc (.cells #[.bool d.1.1, .slice Ad d.1.2.length cd, .int .i64 d.2] 33)) := below_al (Below.refl _ _) _
  have kd := (box_new w #[.bool d.1.1, .slice Ad d.1.2.length cd, .int .i64 d.2] 33)
  go_enter Tryd.func26, Tryd.ntmps26
  have kd_c0 := kd.here.cell 0 _ rfl
  have kd_c1 := kd.here.cell 1 _ rfl
  have kd_c2 := kd.here.cell 2 _ rfl
  go_wp2_with fail
  clear kd_c0 kd_c1 kd_c2
  refine (specIntOk_any _ d.1 _ hl (OwnS.rd (OSd.out _ bb0))).mono ?_
  rintro e w1 ⟨rfl, b1⟩
  have bb1 := Below.next bb0 b1
  replace kd := kd.below b1
  by_cases ok1 : okS d.1 = true
  · rw [ok1]
    have HO1 := Lib.hid ok1
    clear ok1
    by_cases hs : d.1.2.length ≤ 6
    · have HV0 := Lib.hid (show okD d = decide (0 ≤ d.2 ∧ d.2 ≤ 30) by unfold okD; rw [HO1.out, decide_eq_true hs]; rfl)
      have hs6 : (d.1.2.length : Int) ≤ 6 := by omega
      have hs7 : ¬ (6 : Int) < (d.1.2.length : Int) := by omega
      clear hs
      have kd_c0 := kd.here.cell 0 _ rfl
      have kd_c1 := kd.here.cell 1 _ rfl
      have kd_c2 := kd.here.cell 2 _ rfl
      go_wp2_with fail
      clear kd_c0 kd_c1 kd_c2
      refine (specIn_any d.2 0 30 _ _ rfl).mono ?_
      rintro e w_ ⟨rfl, rfl⟩
      have HV := Lib.hid (show okD d = inB d.2 0 30 from HV0.out)
      generalize inB d.2 0 30 = b at *
      clear kd
      go_wp2
      go_ret
      exact ⟨ret_bool HV.out.symm, bb1⟩
    · have HV := Lib.hid (show okD d = false by unfold okD; rw [decide_eq_false hs, Bool.false_and, Bool.and_false])
      have hs6 : ¬ (d.1.2.length : Int) ≤ 6 := by omega
      have hs7 : (6 : Int) < (d.1.2.length : Int) := by omega
      clear hs
      have kd_c0 := kd.here.cell 0 _ rfl
      have kd_c1 := kd.here.cell 1 _ rfl
      have kd_c2 := kd.here.cell 2 _ rfl
      go_wp2
      go_ret
      exact ⟨ret_bool HV.out.symm, bb1⟩
  · have ok1' : okS d.1 = false := by simpa using ok1
    have HV := Lib.hid (show okD d = false by unfold okD; rw [ok1']; rfl)
    rw [ok1']
    clear ok1 ok1'
    go_wp2
    go_ret
    exact ⟨ret_bool HV.out.symm, bb1⟩
end Go.Proofs.YtbpfabicampdkaaDoor

namespace Go.Proofs.YtbpfabicampdkaaDoor
open Go.RowKit

theorem digB_true {d : Int} (h : digB d = true) : 0 ≤ d ∧ d ≤ 999999999 := of_decide_eq_true h
theorem digB_false {d : Int} (h : digB d = false) : ¬ (0 ≤ d ∧ d ≤ 999999999) := of_decide_eq_false h

set_option maxHeartbeats 400000 in
set_option maxRecDepth 100000 in
theorem implNatOk_same (v : Value) (xs : List Int) (lo hi : Nat) (w : World) (hl : xs.length ≤ 9223372036854775807) (hr : Row w lo hi v (intsV xs)) :
    Calls Tryd.prog 79 #[v] w fun e w' => e = .returned (.bool (natOkB xs)) ∧ w = w' := by
  obtain ⟨A, c, rfl, hA⟩ := hr
  have HA := Lib.hid hA
  rw [intsV_length]
  clear hA
  by_cases h50 : xs.length ≤ 50
  · go_enter Tryd.func79, Tryd.ntmps79
    go_wp2
    go_loop [10] (fun i => ∃ k : Nat, k ≤ xs.length ∧ i = .int .i64 k ∧ Hid ((xs.take k).all digB = true)) (fun i => xs.length - (intOf i).toNat)
    case atStart => exact ⟨0, Nat.zero_le _, rfl, Lib.hid rfl⟩
    case round =>
      obtain ⟨k, hk, rfl, HD⟩ := hrel
      by_cases hlt : k < xs.length
      · obtain ⟨a, rfl, _, _, hca⟩ := HA.out k _ (intsV_at xs k hlt)
        by_cases hd : digB xs[k] = true
        · have HS := Lib.hid (all_succ xs k hlt HD.out hd)
          have hd2 := digB_true hd
          have hd3 := hd2.1
          have hd4 := hd2.2
          clear hd2 hd
          go_wp2
          go_round
          case rel => exact ⟨k + 1, by omega, by go_num, HS⟩
          case measure => simp [intOf]; omega
        · have hd' : digB xs[k] = false := by simpa using hd
          have HN := Lib.hid (not_all xs k hlt hd')
          have hd2 := digB_false hd'
          by_cases hneg : xs[k] < 0
          · go_wp2
            go_ret
            exact ⟨ret_bool HN.out.symm, rfl⟩
          · have hbig : 1000000000 ≤ xs[k] := by omega
            go_wp2
            go_ret
            exact ⟨ret_bool HN.out.symm, rfl⟩
      · have HF := Lib.hid (all_upto xs k HD.out hlt)
        by_cases h0 : xs.length = 0
        · have hz : ((xs.length : Int) == 0) = true := by simp [h0]
          obtain rfl : xs = [] := List.eq_nil_of_length_eq_zero h0
          clear h0
          go_wp2
          go_ret
          exact ⟨rfl, rfl⟩
        · have hz : ((xs.length : Int) == 0) = false := by rw [beq_eq_false_iff_ne]; omega
          have hlt2 : xs.length - 1 < xs.length := by omega
          obtain ⟨a, rfl, _, _, hca⟩ := HA.out (xs.length - 1) _ (intsV_at xs (xs.length - 1) hlt2)
          have HL := Lib.hid (ok_last xs HF.out h50 hlt2)
          clear h0
          go_wp2
          go_ret
          exact ⟨ret_bool HL.out, rfl⟩
  · have HN := Lib.hid (ok_long xs h50)
    go_enter Tryd.func79, Tryd.ntmps79
    go_wp2
    go_ret
    exact ⟨ret_bool HN.out.symm, rfl⟩
theorem implNatOk_any (v : Value) (xs : List Int) (lo hi : Nat) (w : World) (hl : xs.length ≤ 1048576) (_ : hi ≤ w.heap.size) (hr : Row w lo hi v (intsV xs)) :
    Calls Tryd.prog 79 #[v] w fun e w' => e = .returned (.bool (natOkB xs)) ∧ Below w.heap.size w w' := by
  refine (implNatOk_same v xs lo hi w (by omega) hr).mono ?_
  rintro e w' ⟨rfl, rfl⟩
  exact ⟨rfl, Below.refl _ _⟩


/-- a callee that only computes, met inside a region that draws -/
theorem quiet_at {P : Program} {f : FuncId} {args : Array Value} {W : World} {X : Nat → World} {n : Nat} {v : Value} (hX : X n = W)
    (h : Calls P f args W fun e w' => e = .returned v ∧ W = w') : Calls P f args W fun e w'' => e = .returned v ∧ ∃ m, w'' = X m :=
  h.mono fun _ _ ⟨he, hm⟩ => ⟨he, n, hm.symm.trans hX.symm⟩

set_option maxHeartbeats 400000 in
set_option maxRecDepth 100000 in
theorem isNaN_any (x : Int) (w : World) : Calls Tryd.prog 96 #[.int .i64 x] w fun e w' => e = .returned (.bool false) ∧ w = w' := by
  go_enter Tryd.func96, Tryd.ntmps96
  go_wp2
  go_ret
  exact ⟨by simp, rfl⟩
set_option maxHeartbeats 400000 in
set_option maxRecDepth 100000 in
theorem compare_any (x y : Int) (w : World) : Calls Tryd.prog 88 #[.int .i64 x, .int .i64 y] w fun e w' => e = .returned (.int .i64 (cmpI x y)) ∧ w = w' := by
  go_enter Tryd.func88, Tryd.ntmps88
  go_wp2_with (go_at_call 96; refine (isNaN_any _ _).mono ?_; rintro e w' ⟨rfl, rfl⟩)
  all_goals (go_ret; refine ⟨?_, rfl⟩; unfold cmpI; (repeat' split) <;> first | rfl | (exfalso; omega))

set_option maxHeartbeats 1000000 in
set_option maxRecDepth 100000 in
theorem compareLimbs_any (va vb : Value) (a b : List Int) (la ha lb hb : Nat) (w : World) (hal : a.length ≤ 9223372036854775807) (_hbl : b.length ≤ 9223372036854775807) (oa : DigN a ∧ a.getLastD 1 ≠ 0) (ob : DigN b ∧ b.getLastD 1 ≠ 0)
    (hra : Row w la ha va (intsV a)) (hrb : Row w lb hb vb (intsV b)) :
    Calls Tryd.prog 80 #[va, vb] w fun e w' => e = .returned (.int .i64 (cmpI (nval a) (nval b))) ∧ ∃ q, w.drewN q = w' := by
  have OA := Lib.hid oa
  have OB := Lib.hid ob
  obtain ⟨A, c, rfl, hA⟩ := hra
  obtain ⟨B, d, rfl, hB⟩ := hrb
  rw [intsV_length]
  rw [intsV_length]
  have HA := Lib.hid hA
  have HB := Lib.hid hB
  clear hA hB oa ob
  by_cases hlen : a.length = b.length
  · have HL := Lib.hid hlen
    have hbe : ((a.length : Int) != (b.length : Int)) = false := by simp [hlen]
    clear hlen
    go_enter Tryd.func80, Tryd.ntmps80
    go_wp2
    go_loopw [5] (fun i wr => ∃ k q : Nat, k ≤ a.length ∧ i = .int .i64 ((k : Int) - 1) ∧ wr = w.drewN q ∧ Hid (a.drop k = b.drop k)) (fun i _ => (intOf i + 1).toNat)
    case atStart => exact ⟨a.length, 0, Nat.le_refl _, rfl, rfl, Lib.hid (by rw [List.drop_of_length_le (Nat.le_refl _), List.drop_of_length_le (by have := HL.out; omega)])⟩
    case round =>
      obtain ⟨k, q, hk, rfl, rfl, HT⟩ := hrel
      by_cases hz : 0 < k
      · obtain ⟨m, rfl⟩ : ∃ m, k = m + 1 := ⟨k - 1, by omega⟩
        have hlt : m < a.length := by omega
        have hlt2 : m < b.length := by have := HL.out; omega
        obtain ⟨p, rfl, _, _, hca⟩ := HA.out m _ (intsV_at a m hlt)
        obtain ⟨r, rfl, _, _, hcb⟩ := HB.out m _ (intsV_at b m hlt2)
        have hm1 : ((m + 1 : Nat) : Int) - 1 = (m : Int) := by omega
        rw [hm1]
        clear hm1 hz
        by_cases he : a[m] = b[m]
        · have hne : (a[m] != b[m]) = false := by simp [he]
          have HS := Lib.hid (drop_same a b m hlt hlt2 HT.out he)
          clear he
          go_wp2
          go_quiet (fail)
          go_wp2
          go_roundw
          case rel => exact ⟨m, _, by omega, rfl, rfl, HS⟩
          case measure => simp [intOf]
        · have hne : (a[m] != b[m]) = true := by rw [bne_iff_ne]; exact he
          have HV : Hid (cmpI a[m] b[m] = cmpI (nval a) (nval b)) := Lib.hid (by
            by_cases h1 : a[m] < b[m]
            · rw [cmp_lt h1, cmp_lt (nval_lt_down a b OA.out.1 OB.out.1 HL.out m (by rw [nval_drop a m hlt, nval_drop b m hlt2, HT.out]; omega))]
            · rw [cmp_gt (show b[m] < a[m] by omega), cmp_gt (nval_lt_down b a OB.out.1 OA.out.1 HL.out.symm m (by rw [nval_drop a m hlt, nval_drop b m hlt2, HT.out]; omega))])
          clear he
          go_wp2
          go_quiet (fail)
          go_wp2
          go_quiet ((go_at_call 88; exact quiet_at rfl (compare_any _ _ _)))
          go_wp2
          go_ret
          exact ⟨ret_int HV.out, drew_three _ _ _ _⟩
      · obtain rfl : k = 0 := by omega
        go_wp2
        go_ret
        exact ⟨ret_int (cmp_eq (by have := HT.out; rw [List.drop_zero, List.drop_zero] at this; rw [this])).symm, q, rfl⟩
  · have hbe : ((a.length : Int) != (b.length : Int)) = true := by simp; omega
    have HV : Hid (cmpI (a.length : Int) (b.length : Int) = cmpI (nval a) (nval b)) := Lib.hid (by
      by_cases hs : a.length < b.length
      · rw [cmp_lt (by omega), cmp_lt (nval_short a b OA.out.1 OB.out.1 hs OB.out.2)]
      · rw [cmp_gt (by omega), cmp_gt (nval_short b a OB.out.1 OA.out.1 (by omega) OA.out.2)])
    clear hlen
    go_enter Tryd.func80, Tryd.ntmps80
    go_wp2_with (go_at_call 88; refine (compare_any _ _ _).mono ?_; rintro e w' ⟨rfl, rfl⟩)
    go_ret
    exact ⟨ret_int HV.out, 0, rfl⟩


theorem max_limbs : limbs (9223372036854775807 : Int).toNat = [854775807, 223372036, 9] := by
  rw [show (9223372036854775807 : Int).toNat = 9223372036854775807 from rfl, limbs_pos _ (by decide), limbs_pos _ (by decide), limbs_pos _ (by decide), limbs, dif_pos (by decide)]
  rfl

end Go.Proofs.YtbpfabicampdkaaDoor

namespace Go.Proofs.YtbpfabicampdkaaDoor
open Go.RowKit

set_option maxHeartbeats 400000 in
set_option maxRecDepth 100000 in
theorem implIntOk_any (v : Value) (x : SI) (w : World) (hl : x.2.length ≤ 1048576) (h : RdS w v x) :
    Calls Tryd.prog 57 #[v] w fun e w' => e = .returned (.bool (okS x)) ∧ Below w.heap.size w w' := by
  obtain ⟨n, xs⟩ := x
  obtain ⟨u, rfl, hp⟩ := h
  obtain ⟨A, c, rfl⟩ := row_form hp
  rw [intsV_length] at hp ⊢
  simp only at hl hp ⊢
  have hbx : Below w.heap.size w (w.alloc (.cells #[.bool n, .slice A xs.length c] 31)) := below_al (Below.refl _ _) _
  have HV := Lib.hid (show okS (n, xs) = (natOkB xs && (!n || decide (0 < xs.length))) from rfl)
  by_cases ok : natOkB xs = true
  · rw [ok] at HV
    go_enter Tryd.func57, Tryd.ntmps57
    go_wp2_with fail
    refine (implNatOk_same _ xs 0 w.heap.size _ (by omega) (hp.below hbx (Nat.le_refl _))).mono ?_
    rintro e w1 ⟨rfl, rfl⟩
    rw [ok]
    by_cases hz : xs.length = 0
    · have hb : ((xs.length : Int) == 0) = true := by rw [hz]; rfl
      have hd : decide (0 < xs.length) = false := decide_eq_false (by omega)
      rw [hd] at HV
      clear hz hd
      cases n <;>
      · go_wp2
        go_ret
        exact ⟨ret_bool (by rw [HV.out]; rfl), hbx⟩
    · have hb : ((xs.length : Int) == 0) = false := by rw [beq_eq_false_iff_ne]; omega
      have hd : decide (0 < xs.length) = true := decide_eq_true (by omega)
      rw [hd] at HV
      clear hz hd
      cases n <;>
      · go_wp2
        go_ret
        exact ⟨ret_bool (by rw [HV.out]; rfl), hbx⟩
  · have ok' : natOkB xs = false := by simpa using ok
    rw [ok'] at HV
    clear ok
    go_enter Tryd.func57, Tryd.ntmps57
    go_wp2_with fail
    refine (implNatOk_same _ xs 0 w.heap.size _ (by omega) (hp.below hbx (Nat.le_refl _))).mono ?_
    rintro e w1 ⟨rfl, rfl⟩
    rw [ok']
    go_wp2
    go_ret
    exact ⟨ret_bool (by rw [HV.out]; rfl), hbx⟩

theorem Below.drew1 {B : Nat} {w w1 : World} (h : Below B w w1) : Below B w w1.drew := ⟨h.os, h.tape, h.output, h.size, h.block⟩
end Go.Proofs.YtbpfabicampdkaaDoor

namespace Go.Proofs.YtbpfabicampdkaaDoor
open Go.RowKit

set_option maxHeartbeats 1000000 in
set_option maxRecDepth 100000 in
theorem implDecOk_any (vd : Value) (d : DI) (w : World) (hl : d.1.2.length ≤ 1048576) (hd : OwnD vd d w) :
    Calls Tryd.prog 30 #[vd] w (Postb (okD d) w) := by
  have Hd := Lib.hid hd
  obtain ⟨Ad, cd, rfl⟩ := ownD_form hd
  have ODd := Lib.hid (show ∀ W, Below w.heap.size w W → OwnD (.agg #[.bool d.1.1, .slice Ad d.1.2.length cd, .int .i64 d.2]) d W from fun W hb => OwnD.below Hd.out hb)
  have OId := Lib.hid (show ∀ W, Below w.heap.size w W → OwnI (.slice Ad d.1.2.length cd) d.1.2 W from fun W hb => ownD_open (ODd.out W hb))
  have OSd := Lib.hid (show ∀ W, Below w.heap.size w W → OwnS (.agg #[.bool d.1.1, .slice Ad d.1.2.length cd]) d.1 W from fun W hb => OwnS.mk (OId.out W hb))
  clear hd
  have bb0 : Below w.heap.size w (w.alloc (.cells #[.bool d.1.1, .slice Ad d.1.2.length cd, .int .i64 d.2] 33)) := below_al (Below.refl _ _) _
  have kd := (box_new w #[.bool d.1.1, .slice Ad d.1.2.length cd, .int .i64 d.2] 33)
  go_enter Tryd.func30, Tryd.ntmps30
  have kd_c0 := kd.here.cell 0 _ rfl
  have kd_c1 := kd.here.cell 1 _ rfl
  have kd_c2 := kd.here.cell 2 _ rfl
  go_wp2_with fail
  clear kd_c0 kd_c1 kd_c2
  refine (implIntOk_any _ d.1 _ hl (OwnS.rd (OSd.out _ bb0))).mono ?_
  rintro e w1 ⟨rfl, b1⟩
  have bb1 := Below.next bb0 b1
  replace kd := kd.below b1
  by_cases ok1 : okS d.1 = true
  · rw [ok1]
    have HO1 := Lib.hid ok1
    clear ok1
    by_cases hs : d.1.2.length ≤ 6
    · have HV0 := Lib.hid (show okD d = decide (0 ≤ d.2 ∧ d.2 ≤ 30) by unfold okD; rw [HO1.out, decide_eq_true hs]; rfl)
      have hs6 : (d.1.2.length : Int) ≤ 6 := by omega
      have hs7 : ¬ (6 : Int) < (d.1.2.length : Int) := by omega
      clear hs
      have kd_c0 := kd.here.cell 0 _ rfl
      have kd_c1 := kd.here.cell 1 _ rfl
      have kd_c2 := kd.here.cell 2 _ rfl
      by_cases h0 : 0 ≤ d.2
      · have h0n : ¬ d.2 < 0 := by omega
        have HV := Lib.hid (show okD d = decide (d.2 ≤ 30) by rw [HV0.out, decide_eq_decide]; exact ⟨fun h => h.2, fun h => ⟨h0, h⟩⟩)
        go_wp2
        go_ret
        exact ⟨ret_bool HV.out.symm, bb1⟩
      · have h0n : d.2 < 0 := by omega
        have HV := Lib.hid (show okD d = false by rw [HV0.out]; exact decide_eq_false (fun h => h0 h.1))
        go_wp2
        go_ret
        exact ⟨ret_bool HV.out.symm, bb1⟩
    · have HV := Lib.hid (show okD d = false by unfold okD; rw [decide_eq_false hs, Bool.false_and, Bool.and_false])
      have hs6 : ¬ (d.1.2.length : Int) ≤ 6 := by omega
      have hs7 : (6 : Int) < (d.1.2.length : Int) := by omega
      clear hs
      have kd_c0 := kd.here.cell 0 _ rfl
      have kd_c1 := kd.here.cell 1 _ rfl
      have kd_c2 := kd.here.cell 2 _ rfl
      go_wp2
      go_ret
      exact ⟨ret_bool HV.out.symm, bb1⟩
  · have ok1' : okS d.1 = false := by simpa using ok1
    have HV := Lib.hid (show okD d = false by unfold okD; rw [ok1']; rfl)
    rw [ok1']
    clear ok1 ok1'
    go_wp2
    go_ret
    exact ⟨ret_bool HV.out.symm, bb1⟩
end Go.Proofs.YtbpfabicampdkaaDoor

namespace Go.Proofs.YtbpfabicampdkaaDoor
open Go.RowKit


set_option maxHeartbeats 2000000 in
set_option maxRecDepth 100000 in
theorem implIntCmp_any (vx vy : Value) (x y : SI) (w : World) (hlx : x.2.length ≤ 1048576) (hly : y.2.length ≤ 1048576) (hx : OwnS vx x w) (hy : OwnS vy y w) :
    Calls Tryd.prog 58 #[vx, vy] w fun e w' => e = .returned (.int .i64 (cmpS x y)) ∧ Below w.heap.size w w' := by
  obtain ⟨ux, rfl, hox⟩ := hx
  obtain ⟨uy, rfl, hoy⟩ := hy
  obtain ⟨Ax, cx, rfl⟩ := own_len hox
  obtain ⟨Ay, cy, rfl⟩ := own_len hoy
  have hbb : Below w.heap.size w ((w.alloc (.cells #[.bool x.1, .slice Ax x.2.length cx] 31)).alloc (.cells #[.bool y.1, .slice Ay y.2.length cy] 31)) := below_al (below_al (Below.refl _ _) _) _
  have kx := (box_new w #[.bool x.1, .slice Ax x.2.length cx] 31).below (below_al (Below.refl _ _) (.cells #[.bool y.1, .slice Ay y.2.length cy] 31))
  have ky := box_new (w.alloc (.cells #[.bool x.1, .slice Ax x.2.length cx] 31)) #[.bool y.1, .slice Ay y.2.length cy] 31
  rw [show (w.alloc (.cells #[.bool x.1, .slice Ax x.2.length cx] 31)).heap.size = w.heap.size + 1 by simp] at ky
  have ox := own_below hox hbb
  have oy := own_below hoy hbb
  have rdx := (OwnS.mk (x := x) (ownI_of ox)).rd
  clear hox hoy
  by_cases okx : okS x = true
  · go_enter Tryd.func58, Tryd.ntmps58
    go_wp2_with fail
    refine (implIntOk_any _ x _ hlx rdx).mono ?_
    rintro e w1 ⟨rfl, b1⟩
    rw [okx]
    have bb1 := Below.next hbb b1
    replace kx := kx.below b1
    replace ky := ky.below b1
    replace ox := own_below ox b1
    replace oy := own_below oy b1
    have cy0 := ky.here.cell 0 _ rfl
    have cy1 := ky.here.cell 1 _ rfl
    clear rdx
    go_wp2_with fail
    refine (implIntOk_any _ y w1 hly (OwnS.mk (x := y) (ownI_of oy)).rd).mono ?_
    rintro e w2 ⟨rfl, b2⟩
    have bb2 := Below.next bb1 b2
    replace kx := kx.below b2
    replace ky := ky.below b2
    replace ox := own_below ox b2
    replace oy := own_below oy b2
    clear cy0 cy1
    by_cases oky : okS y = true
    · rw [oky]
      have HV := Lib.hid (show cmpS x y = cmpI (valS x) (valS y) by unfold cmpS; rw [if_pos ⟨okx, oky⟩])
      have px := okS_parts okx
      have py := okS_parts oky
      have h0x := nval_ok px.1
      have h0y := nval_ok py.1
      have Dx := Lib.hid (natOk_parts px.1)
      have Dy := Lib.hid (natOk_parts py.1)
      have cx0 := kx.here.cell 0 _ rfl
      have cx1 := kx.here.cell 1 _ rfl
      have cy0 := ky.here.cell 0 _ rfl
      have cy1 := ky.here.cell 1 _ rfl
      have hpx : x.1 = true → 0 < nval x.2 := fun h => okS_pos okx (px.2 h)
      have hpy : y.1 = true → 0 < nval y.2 := fun h => okS_pos oky (py.2 h)
      have HPX := Lib.hid hpx
      have HPY := Lib.hid hpy
      have rx := (ownI_of ox).row
      have ry := (ownI_of oy).row
      clear px py hpx hpy okx oky kx ky
      cases hx1 : x.1 <;> cases hy1 : y.1
      · rw [hx1] at cx0
        rw [hy1] at cy0
        have HC := Lib.hid (show cmpI (valS x) (valS y) = cmpI (nval x.2) (nval y.2) by unfold valS; rw [hx1, hy1]; rfl)
        clear hx1 hy1
        go_wp2_with fail
        refine (compareLimbs_any _ _ x.2 y.2 0 _ 0 _ w2 (by omega) (by omega) ⟨Dx.out.1, Dx.out.2.2⟩ ⟨Dy.out.1, Dy.out.2.2⟩ rx ry).mono ?_
        rintro e w' ⟨rfl, q, rfl⟩
        go_wp2
        go_ret
        exact ⟨ret_int (by rw [HV.out, HC.out]), below_drewN bb2 q⟩
      · rw [hx1] at cx0
        rw [hy1] at cy0
        have HC := Lib.hid (show cmpI (valS x) (valS y) = 1 by have := HPY.out hy1; unfold valS; rw [hx1, hy1]; simp; unfold cmpI; rw [if_neg (by omega), if_pos (by omega)])
        clear hx1 hy1
        go_wp2
        go_ret
        exact ⟨ret_int (by rw [HV.out, HC.out]), bb2⟩
      · rw [hx1] at cx0
        rw [hy1] at cy0
        have HC := Lib.hid (show cmpI (valS x) (valS y) = -1 by have := HPX.out hx1; unfold valS; rw [hx1, hy1]; simp; unfold cmpI; rw [if_pos (by omega)])
        clear hx1 hy1
        go_wp2
        go_ret
        exact ⟨ret_int (by rw [HV.out, HC.out]), bb2⟩
      · rw [hx1] at cx0
        rw [hy1] at cy0
        have HC := Lib.hid (show cmpI (valS x) (valS y) = cmpI (nval y.2) (nval x.2) by unfold valS; rw [hx1, hy1]; simp; unfold cmpI; split <;> split <;> (try split) <;> (try split) <;> omega)
        clear hx1 hy1
        go_wp2_with fail
        refine (compareLimbs_any _ _ y.2 x.2 0 _ 0 _ w2 (by omega) (by omega) ⟨Dy.out.1, Dy.out.2.2⟩ ⟨Dx.out.1, Dx.out.2.2⟩ ry rx).mono ?_
        rintro e w' ⟨rfl, q, rfl⟩
        go_wp2
        go_ret
        exact ⟨ret_int (by rw [HV.out, HC.out]), below_drewN bb2 q⟩
    · have oky' : okS y = false := by simpa using oky
      have HV := Lib.hid (show cmpS x y = 0 by unfold cmpS; rw [if_neg (fun h => oky h.2)])
      rw [oky']
      clear oky kx ky
      go_wp2
      go_ret
      exact ⟨ret_int HV.out.symm, bb2⟩
  · have okx' : okS x = false := by simpa using okx
    have HV := Lib.hid (show cmpS x y = 0 by unfold cmpS; rw [if_neg (fun h => okx h.1)])
    clear okx
    go_enter Tryd.func58, Tryd.ntmps58
    go_wp2_with fail
    refine (implIntOk_any _ x _ hlx rdx).mono ?_
    rintro e w1 ⟨rfl, b1⟩
    rw [okx']
    have bb1 := Below.next hbb b1
    clear kx ky rdx
    go_wp2
    go_ret
    exact ⟨ret_int HV.out.symm, bb1⟩

set_option maxHeartbeats 400000 in
set_option maxRecDepth 100000 in
theorem implIntSign_any (v : Value) (x : SI) (w : World) (hl : x.2.length ≤ 1048576) (h : OwnS v x w) :
    Calls Tryd.prog 31 #[v] w fun e w' => e = .returned (.int .i64 (cmpS x zeroS)) ∧ Below w.heap.size w w' := by
  obtain ⟨u, rfl, ho⟩ := h
  obtain ⟨A, c, rfl⟩ := own_len ho
  have hbb : Below w.heap.size w (w.alloc (.cells #[.bool x.1, .slice A x.2.length c] 31)) := below_al (Below.refl _ _) _
  have hoB := OwnS.mk (x := x) (ownI_of (own_below ho hbb))
  have hz : OwnS (.agg #[.bool false, .slice none 0 0]) zeroS (w.alloc (.cells #[.bool x.1, .slice A x.2.length c] 31)) := ⟨_, rfl, World.ownsRow_nil _ _ _ _⟩
  go_enter Tryd.func31, Tryd.ntmps31
  go_wp2_with fail
  refine (implIntCmp_any _ _ x zeroS _ hl (by decide) hoB hz).mono ?_
  rintro e w1 ⟨rfl, b1⟩
  go_wp2
  go_ret
  exact ⟨rfl, Below.next hbb b1⟩

end Go.Proofs.YtbpfabicampdkaaDoor

namespace Go.Proofs.YtbpfabicampdkaaDoor
open Go.RowKit

set_option maxHeartbeats 2000000 in
set_option maxRecDepth 100000 in
theorem implRateOk_any (vr : Value) (r : EI) (w : World) (hl : r.2.2.1.2.length ≤ 1048576) (hr : OwnE vr r w) (ht : CurTab w) :
    Calls Tryd.prog 10 #[vr] w (Postb (okE r) w) := by
  have Hr := Lib.hid hr
  obtain ⟨Ar, cr, rfl⟩ := ownE_form hr
  have OEr := Lib.hid (show ∀ W, Below w.heap.size w W → OwnE (.agg #[.string r.1, .string r.2.1, .bool r.2.2.1.1, .slice Ar r.2.2.1.2.length cr, .int .i64 r.2.2.2]) r W from fun W hb => OwnE.below Hr.out hb)
  have OIr := Lib.hid (show ∀ W, Below w.heap.size w W → OwnI (.slice Ar r.2.2.1.2.length cr) r.2.2.1.2 W from fun W hb => ownE_open (OEr.out W hb))
  have ODr := Lib.hid (show ∀ W, Below w.heap.size w W → OwnD (.agg #[.bool r.2.2.1.1, .slice Ar r.2.2.1.2.length cr, .int .i64 r.2.2.2]) r.2.2 W from fun W hb => OwnD.mk (OIr.out W hb))
  have OSr := Lib.hid (show ∀ W, Below w.heap.size w W → OwnS (.agg #[.bool r.2.2.1.1, .slice Ar r.2.2.1.2.length cr]) r.2.2.1 W from fun W hb => OwnS.mk (OIr.out W hb))
  clear hr
  have HT := Lib.hid ht
  clear ht
  have bb0 : Below w.heap.size w (w.alloc (.cells #[.string r.1, .string r.2.1, .bool r.2.2.1.1, .slice Ar r.2.2.1.2.length cr, .int .i64 r.2.2.2] 35)) := below_al (Below.refl _ _) _
  have kr := (box_new w #[.string r.1, .string r.2.1, .bool r.2.2.1.1, .slice Ar r.2.2.1.2.length cr, .int .i64 r.2.2.2] 35)
  go_enter Tryd.func10, Tryd.ntmps10
  have kr_c0 := kr.here.cell 0 _ rfl
  have kr_c1 := kr.here.cell 1 _ rfl
  have kr_c2 := kr.here.cell 2 _ rfl
  have kr_c3 := kr.here.cell 3 _ rfl
  have kr_c4 := kr.here.cell 4 _ rfl
  go_wp2_with fail
  clear kr_c0 kr_c1 kr_c2 kr_c3 kr_c4
  refine (implCurKnown_any r.1 _ (HT.out.below bb0)).mono ?_
  rintro e w1 ⟨rfl, b1⟩
  have bb1 := Below.next bb0 b1
  replace kr := kr.below b1
  by_cases ok0 : knownC r.1 = true
  · rw [ok0]
    have HOok0 := Lib.hid ok0
    clear ok0
    have kr_c0 := kr.here.cell 0 _ rfl
    have kr_c1 := kr.here.cell 1 _ rfl
    have kr_c2 := kr.here.cell 2 _ rfl
    have kr_c3 := kr.here.cell 3 _ rfl
    have kr_c4 := kr.here.cell 4 _ rfl
    go_wp2_with fail
    clear kr_c0 kr_c1 kr_c2 kr_c3 kr_c4
    refine (implCurKnown_any r.2.1 _ (HT.out.below bb1)).mono ?_
    rintro e w2 ⟨rfl, b2⟩
    have bb2 := Below.next bb1 b2
    replace kr := kr.below b2
    by_cases ok1 : knownC r.2.1 = true
    · rw [ok1]
      have HOok1 := Lib.hid ok1
      clear ok1
      by_cases ne : r.1 = r.2.1
      · have HV := Lib.hid (show okE r = false by unfold okE; rw [HOok0.out, HOok1.out, decide_eq_false (fun h => h ne : ¬ ¬ r.1 = r.2.1)] <;> rfl)
        have kr_c0 := kr.here.cell 0 _ rfl
        have kr_c1 := kr.here.cell 1 _ rfl
        have kr_c2 := kr.here.cell 2 _ rfl
        have kr_c3 := kr.here.cell 3 _ rfl
        have kr_c4 := kr.here.cell 4 _ rfl
        rw [← ne] at kr_c1
        clear ne hl kr
        have hne1 : (r.1.toList == r.1.toList) = true := beq_self_eq_true _
        have hne2 : (r.1.toList != r.1.toList) = false := by rw [bne, hne1]; rfl
        go_wp2
        go_ret
        exact ⟨ret_bool HV.out.symm, bb2⟩
      · have hne1 := bytes_neC ne
        have hne2 : (r.1.toList != r.2.1.toList) = true := by rw [bne, hne1]; rfl
        have HNE := Lib.hid ne
        clear ne
        have kr_c0 := kr.here.cell 0 _ rfl
        have kr_c1 := kr.here.cell 1 _ rfl
        have kr_c2 := kr.here.cell 2 _ rfl
        have kr_c3 := kr.here.cell 3 _ rfl
        have kr_c4 := kr.here.cell 4 _ rfl
        go_wp2_with fail
        clear kr_c0 kr_c1 kr_c2 kr_c3 kr_c4
        refine (implDecOk_any _ r.2.2 _ hl (ODr.out _ bb2)).mono ?_
        rintro e w3 ⟨rfl, b3⟩
        have bb3 := Below.next bb2 b3
        replace kr := kr.below b3
        clear hne1 hne2
        by_cases ok2 : okD r.2.2 = true
        · rw [ok2]
          have HOok2 := Lib.hid ok2
          clear ok2
          have kr_c0 := kr.here.cell 0 _ rfl
          have kr_c1 := kr.here.cell 1 _ rfl
          have kr_c2 := kr.here.cell 2 _ rfl
          have kr_c3 := kr.here.cell 3 _ rfl
          have kr_c4 := kr.here.cell 4 _ rfl
          go_wp2_with fail
          clear kr_c0 kr_c1 kr_c2 kr_c3 kr_c4
          refine (implIntSign_any _ r.2.2.1 _ hl (OSr.out _ bb3)).mono ?_
          rintro e w4 ⟨rfl, b4⟩
          have bb4 := Below.next bb3 b4
          replace kr := kr.below b4
          have HZ : Hid (okE r = (decide (0 < cmpS r.2.2.1 zeroS) && decide (r.2.2.1.2.length ≤ 2))) := Lib.hid (by unfold okE; rw [HOok0.out, HOok1.out, HOok2.out, decide_eq_true HNE.out] <;> rfl)
          generalize cmpS r.2.2.1 zeroS = z at *
          by_cases ps : 0 < z
          · have HV := Lib.hid (show okE r = decide ((r.2.2.1.2.length : Int) ≤ 2) by rw [HZ.out, decide_eq_true ps, Bool.true_and, decide_eq_decide]; omega)
            have ps1 : decide (0 < z) = true := decide_eq_true ps
            have kr_c0 := kr.here.cell 0 _ rfl
            have kr_c1 := kr.here.cell 1 _ rfl
            have kr_c2 := kr.here.cell 2 _ rfl
            have kr_c3 := kr.here.cell 3 _ rfl
            have kr_c4 := kr.here.cell 4 _ rfl
            clear hl
            go_wp2
            go_ret
            exact ⟨ret_bool HV.out.symm, bb4⟩
          · have HV := Lib.hid (show okE r = false by rw [HZ.out, decide_eq_false ps, Bool.false_and])
            have ps1 : decide (0 < z) = false := decide_eq_false ps
            clear hl kr
            go_wp2
            go_ret
            exact ⟨ret_bool HV.out.symm, bb4⟩
        · have ok2' : okD r.2.2 = false := by simpa using ok2
          have HV := Lib.hid (show okE r = false by unfold okE; rw [HOok0.out, HOok1.out, decide_eq_true HNE.out, ok2'] <;> rfl)
          rw [ok2']
          clear ok2 ok2'
          go_wp2
          go_ret
          exact ⟨ret_bool HV.out.symm, bb3⟩
    · have ok1' : knownC r.2.1 = false := by simpa using ok1
      have HV := Lib.hid (show okE r = false by unfold okE; rw [HOok0.out, ok1'] <;> rfl)
      rw [ok1']
      clear ok1 ok1'
      go_wp2
      go_ret
      exact ⟨ret_bool HV.out.symm, bb2⟩
  · have ok0' : knownC r.1 = false := by simpa using ok0
    have HV := Lib.hid (show okE r = false by unfold okE; rw [ok0'] <;> rfl)
    rw [ok0']
    clear ok0 ok0'
    go_wp2
    go_ret
    exact ⟨ret_bool HV.out.symm, bb1⟩
set_option maxHeartbeats 1000000 in
set_option maxRecDepth 100000 in
theorem pairOf_any (vr : Value) (r : EI) (w : World) (hr : RdE w vr r) :
    Calls Tryd.prog 42 #[vr] w fun e w' => e = .returned (.agg #[.string r.1, .string r.2.1]) ∧ Below w.heap.size w w' := by
  obtain ⟨Ar, cr, rfl⟩ := rdE_form hr
  clear hr
  have bb0 : Below w.heap.size w ((w.alloc (.cells #[.string r.1, .string r.2.1, .bool r.2.2.1.1, .slice Ar r.2.2.1.2.length cr, .int .i64 r.2.2.2] 35)).alloc (.cells #[.string ⟨#[]⟩, .string ⟨#[]⟩] 72)) := below_al (below_al (Below.refl _ _) _) _
  have kr := (box_new w #[.string r.1, .string r.2.1, .bool r.2.2.1.1, .slice Ar r.2.2.1.2.length cr, .int .i64 r.2.2.2] 35).below (below_al (Below.refl _ _) (.cells #[.string ⟨#[]⟩, .string ⟨#[]⟩] 72))
  have ko := (box_new (w.alloc (.cells #[.string r.1, .string r.2.1, .bool r.2.2.1.1, .slice Ar r.2.2.1.2.length cr, .int .i64 r.2.2.2] 35)) #[.string ⟨#[]⟩, .string ⟨#[]⟩] 72)
  rw [show (w.alloc (.cells #[.string r.1, .string r.2.1, .bool r.2.2.1.1, .slice Ar r.2.2.1.2.length cr, .int .i64 r.2.2.2] 35)).heap.size = w.heap.size + 1 by simp] at ko
  go_enter Tryd.func42, Tryd.ntmps42
  have kr_c0 := kr.here.cell 0 _ rfl
  have kr_c1 := kr.here.cell 1 _ rfl
  have kr_c2 := kr.here.cell 2 _ rfl
  have kr_c3 := kr.here.cell 3 _ rfl
  have kr_c4 := kr.here.cell 4 _ rfl
  have cz0 := ko.here.cell 0 _ rfl
  have fz0 := Lib.frozen_of_heap ko.here 0
  have cz1 := ko.here.cell 1 _ rfl
  have fz1 := Lib.frozen_of_heap ko.here 1
  have HB := Lib.hid (show Below w.heap.size w ((w.alloc (.cells #[.string r.1, .string r.2.1, .bool r.2.2.1.1, .slice Ar r.2.2.1.2.length cr, .int .i64 r.2.2.2] 35)).alloc (.cells #[.string r.1, .string r.2.1] 72)) from below_al (below_al (Below.refl _ _) _) _)
  clear kr ko bb0
  go_wp2
  refine bodyPost_ret (v := .agg #[.string r.1, .string r.2.1]) (by simp [results, Tryd.results42, go_sem]) rfl ?_
  exact ⟨rfl, HB.out⟩
end Go.Proofs.YtbpfabicampdkaaDoor

namespace Go.Proofs.YtbpfabicampdkaaDoor
open Go.RowKit

set_option maxHeartbeats 2000000 in
set_option maxRecDepth 100000 in
theorem specRateOk_any (vr : Value) (r : EI) (w : World) (hl : r.2.2.1.2.length ≤ 1048576) (hr : OwnE vr r w) :
    Calls Tryd.prog 8 #[vr] w (Postb (okE r) w) := by
  have Hr := Lib.hid hr
  obtain ⟨Ar, cr, rfl⟩ := ownE_form hr
  have OEr := Lib.hid (show ∀ W, Below w.heap.size w W → OwnE (.agg #[.string r.1, .string r.2.1, .bool r.2.2.1.1, .slice Ar r.2.2.1.2.length cr, .int .i64 r.2.2.2]) r W from fun W hb => OwnE.below Hr.out hb)
  have OIr := Lib.hid (show ∀ W, Below w.heap.size w W → OwnI (.slice Ar r.2.2.1.2.length cr) r.2.2.1.2 W from fun W hb => ownE_open (OEr.out W hb))
  have ODr := Lib.hid (show ∀ W, Below w.heap.size w W → OwnD (.agg #[.bool r.2.2.1.1, .slice Ar r.2.2.1.2.length cr, .int .i64 r.2.2.2]) r.2.2 W from fun W hb => OwnD.mk (OIr.out W hb))
  have OSr := Lib.hid (show ∀ W, Below w.heap.size w W → OwnS (.agg #[.bool r.2.2.1.1, .slice Ar r.2.2.1.2.length cr]) r.2.2.1 W from fun W hb => OwnS.mk (OIr.out W hb))
  clear hr
  have bb0 : Below w.heap.size w (w.alloc (.cells #[.string r.1, .string r.2.1, .bool r.2.2.1.1, .slice Ar r.2.2.1.2.length cr, .int .i64 r.2.2.2] 35)) := below_al (Below.refl _ _) _
  have kr := (box_new w #[.string r.1, .string r.2.1, .bool r.2.2.1.1, .slice Ar r.2.2.1.2.length cr, .int .i64 r.2.2.2] 35)
  go_enter Tryd.func8, Tryd.ntmps8
  have kr_c0 := kr.here.cell 0 _ rfl
  have kr_c1 := kr.here.cell 1 _ rfl
  have kr_c2 := kr.here.cell 2 _ rfl
  have kr_c3 := kr.here.cell 3 _ rfl
  have kr_c4 := kr.here.cell 4 _ rfl
  go_wp2_with fail
  clear kr_c0 kr_c1 kr_c2 kr_c3 kr_c4
  refine (specCurKnown_any r.1 _).mono ?_
  rintro e w1 ⟨rfl, b1⟩
  have bb1 := Below.next bb0 b1
  replace kr := kr.below b1
  by_cases ok0 : knownC r.1 = true
  · rw [ok0]
    have HOok0 := Lib.hid ok0
    clear ok0
    have kr_c0 := kr.here.cell 0 _ rfl
    have kr_c1 := kr.here.cell 1 _ rfl
    have kr_c2 := kr.here.cell 2 _ rfl
    have kr_c3 := kr.here.cell 3 _ rfl
    have kr_c4 := kr.here.cell 4 _ rfl
    go_wp2_with fail
    clear kr_c0 kr_c1 kr_c2 kr_c3 kr_c4
    refine (specCurKnown_any r.2.1 _).mono ?_
    rintro e w2 ⟨rfl, b2⟩
    have bb2 := Below.next bb1 b2
    replace kr := kr.below b2
    by_cases ok1 : knownC r.2.1 = true
    · rw [ok1]
      have HOok1 := Lib.hid ok1
      clear ok1
      by_cases ne : r.1 = r.2.1
      · have HV := Lib.hid (show okE r = false by unfold okE; rw [HOok0.out, HOok1.out, decide_eq_false (fun h => h ne : ¬ ¬ r.1 = r.2.1)] <;> rfl)
        have kr_c0 := kr.here.cell 0 _ rfl
        have kr_c1 := kr.here.cell 1 _ rfl
        have kr_c2 := kr.here.cell 2 _ rfl
        have kr_c3 := kr.here.cell 3 _ rfl
        have kr_c4 := kr.here.cell 4 _ rfl
        rw [← ne] at kr_c1
        clear ne hl kr
        have hne1 : (r.1.toList == r.1.toList) = true := beq_self_eq_true _
        have hne2 : (r.1.toList != r.1.toList) = false := by rw [bne, hne1]; rfl
        go_wp2
        go_ret
        exact ⟨ret_bool HV.out.symm, bb2⟩
      · have hne1 := bytes_neC ne
        have hne2 : (r.1.toList != r.2.1.toList) = true := by rw [bne, hne1]; rfl
        have HNE := Lib.hid ne
        clear ne
        have kr_c0 := kr.here.cell 0 _ rfl
        have kr_c1 := kr.here.cell 1 _ rfl
        have kr_c2 := kr.here.cell 2 _ rfl
        have kr_c3 := kr.here.cell 3 _ rfl
        have kr_c4 := kr.here.cell 4 _ rfl
        go_wp2_with fail
        clear kr_c0 kr_c1 kr_c2 kr_c3 kr_c4
        refine (specDecOk_any _ r.2.2 _ hl (ODr.out _ bb2)).mono ?_
        rintro e w3 ⟨rfl, b3⟩
        have bb3 := Below.next bb2 b3
        replace kr := kr.below b3
        clear hne1 hne2
        by_cases ok2 : okD r.2.2 = true
        · rw [ok2]
          have HOok2 := Lib.hid ok2
          clear ok2
          have kr_c0 := kr.here.cell 0 _ rfl
          have kr_c1 := kr.here.cell 1 _ rfl
          have kr_c2 := kr.here.cell 2 _ rfl
          have kr_c3 := kr.here.cell 3 _ rfl
          have kr_c4 := kr.here.cell 4 _ rfl
          go_wp2_with fail
          clear kr_c0 kr_c1 kr_c2 kr_c3 kr_c4
          refine (specIntSign_any _ r.2.2.1 _ hl (OSr.out _ bb3)).mono ?_
          rintro e w4 ⟨rfl, b4⟩
          have bb4 := Below.next bb3 b4
          replace kr := kr.below b4
          have HZ : Hid (okE r = (decide (0 < cmpS r.2.2.1 zeroS) && decide (r.2.2.1.2.length ≤ 2))) := Lib.hid (by unfold okE; rw [HOok0.out, HOok1.out, HOok2.out, decide_eq_true HNE.out] <;> rfl)
          generalize cmpS r.2.2.1 zeroS = z at *
          by_cases ps : 0 < z
          · have HV := Lib.hid (show okE r = decide ((r.2.2.1.2.length : Int) ≤ 2) by rw [HZ.out, decide_eq_true ps, Bool.true_and, decide_eq_decide]; omega)
            have ps1 : decide (0 < z) = true := decide_eq_true ps
            have kr_c0 := kr.here.cell 0 _ rfl
            have kr_c1 := kr.here.cell 1 _ rfl
            have kr_c2 := kr.here.cell 2 _ rfl
            have kr_c3 := kr.here.cell 3 _ rfl
            have kr_c4 := kr.here.cell 4 _ rfl
            clear hl
            go_wp2
            go_ret
            exact ⟨ret_bool HV.out.symm, bb4⟩
          · have HV := Lib.hid (show okE r = false by rw [HZ.out, decide_eq_false ps, Bool.false_and])
            have ps1 : decide (0 < z) = false := decide_eq_false ps
            clear hl kr
            go_wp2
            go_ret
            exact ⟨ret_bool HV.out.symm, bb4⟩
        · have ok2' : okD r.2.2 = false := by simpa using ok2
          have HV := Lib.hid (show okE r = false by unfold okE; rw [HOok0.out, HOok1.out, decide_eq_true HNE.out, ok2'] <;> rfl)
          rw [ok2']
          clear ok2 ok2'
          go_wp2
          go_ret
          exact ⟨ret_bool HV.out.symm, bb3⟩
    · have ok1' : knownC r.2.1 = false := by simpa using ok1
      have HV := Lib.hid (show okE r = false by unfold okE; rw [HOok0.out, ok1'] <;> rfl)
      rw [ok1']
      clear ok1 ok1'
      go_wp2
      go_ret
      exact ⟨ret_bool HV.out.symm, bb2⟩
  · have ok0' : knownC r.1 = false := by simpa using ok0
    have HV := Lib.hid (show okE r = false by unfold okE; rw [ok0'] <;> rfl)
    rw [ok0']
    clear ok0 ok0'
    go_wp2
    go_ret
    exact ⟨ret_bool HV.out.symm, bb1⟩
end Go.Proofs.YtbpfabicampdkaaDoor

namespace Go.Proofs.YtbpfabicampdkaaDoor
open Go.ChangeShapes Go.WideShapes Go.ChangeAt Go.RowKit

section
variable {H : Type} {enc : TypeId × Value → H} {P : Program} {W : World} {base : Nat} {t e : TypeId} {v : Value} {d : DataW H} {p : List MemPlace}

theorem arg_strings (ht : P.underlying t = some (.slice e)) (he : P.underlying e = some .string) (hc : P.cellsOf e = 1) (hv : Value.okWide P W .any base t v) (h : DataW.Trod enc P W 0 (fun _ => true) true t v d p) :
    ∃ ss : List ByteArray, Row W 0 W.heap.size v (ss.map Value.string) ∧ ss.length ≤ maxLen ∧ ∀ s ∈ ss, s.size ≤ maxLen := by
  obtain ⟨a0, len0, cap0, rfl⟩ := okWide_slice ht hv
  obtain ⟨fuel, hf⟩ := h
  rcases open_strings ht he hc hf with ⟨hcs, _⟩ | ⟨a, len, cap, ss, hcs, _, hl, hm, hz, _, hcell, hsz⟩
  · have hcs' : Value.slice a0 len0 cap0 = .slice none 0 0 := by simpa [Value.cells] using hcs
    cases hcs'
    exact ⟨[], Row.nil_ _ _, by simp, by simp⟩
  · have hcs' : Value.slice a0 len0 cap0 = .slice (some a) len cap := by simpa [Value.cells] using hcs
    obtain ⟨rfl, rfl, rfl⟩ : a0 = some a ∧ len = len0 ∧ cap = cap0 := by cases hcs'; exact ⟨rfl, rfl, rfl⟩
    have hzl : ss.length = cap := by simpa using hz
    have hlen : (ss.take len).length = len := by rw [List.length_take]; omega
    refine ⟨ss.take len, ⟨some a, cap, by rw [List.length_map, hlen], fun j u hu => ?_⟩, by omega, fun s hs => hsz s (List.mem_of_mem_take hs)⟩
    rw [List.getElem?_map] at hu
    obtain ⟨s, hs, rfl⟩ := Option.map_eq_some_iff.1 hu
    have hj : j < len := by rw [← hlen]; exact (List.getElem?_eq_some_iff.1 hs).1
    have hs' : ss[j]? = some s := by rw [← hs, List.getElem?_take_of_lt hj]
    have hc1 := hcell j (by omega)
    rw [List.getD_eq_getElem?_getD, hs'] at hc1
    exact ⟨a, rfl, Nat.zero_le _, by have := cell_lt hc1; rwa [block_add] at this, hc1⟩

theorem arg_ints (ht : P.underlying t = some (.slice e)) (he : P.underlying e = some (.int .i64)) (hc : P.cellsOf e = 1) (hv : Value.okWide P W .any base t v) (h : DataW.Trod enc P W 0 (fun _ => true) true t v d p) :
    ∃ xs : List Int, Row W 0 W.heap.size v (xs.map (Value.int .i64)) ∧ xs.length ≤ maxLen ∧ ∀ x ∈ xs, -9223372036854775808 ≤ x ∧ x ≤ 9223372036854775807 := by
  obtain ⟨a0, len0, cap0, rfl⟩ := okWide_slice ht hv
  obtain ⟨fuel, hf⟩ := h
  rcases open_ints ht he hc hf with ⟨hcs, _⟩ | ⟨a, len, cap, ss, hcs, _, hl, hm, hz, _, hcell, hsz⟩
  · have hcs' : Value.slice a0 len0 cap0 = .slice none 0 0 := by simpa [Value.cells] using hcs
    cases hcs'
    exact ⟨[], Row.nil_ _ _, by simp, by simp⟩
  · have hcs' : Value.slice a0 len0 cap0 = .slice (some a) len cap := by simpa [Value.cells] using hcs
    obtain ⟨rfl, rfl, rfl⟩ : a0 = some a ∧ len = len0 ∧ cap = cap0 := by cases hcs'; exact ⟨rfl, rfl, rfl⟩
    have hzl : ss.length = cap := by simpa using hz
    have hlen : (ss.take len).length = len := by rw [List.length_take]; omega
    refine ⟨ss.take len, ⟨some a, cap, by rw [List.length_map, hlen], fun j u hu => ?_⟩, by omega, fun s hs => ?_⟩
    · rw [List.getElem?_map] at hu
      obtain ⟨s, hs, rfl⟩ := Option.map_eq_some_iff.1 hu
      have hj : j < len := by rw [← hlen]; exact (List.getElem?_eq_some_iff.1 hs).1
      have hs' : ss[j]? = some s := by rw [← hs, List.getElem?_take_of_lt hj]
      have hc1 := hcell j (by omega)
      rw [List.getD_eq_getElem?_getD, hs'] at hc1
      exact ⟨a, rfl, Nat.zero_le _, by have := cell_lt hc1; rwa [block_add] at this, hc1⟩
    · have := hsz s (List.mem_of_mem_take hs)
      simpa [Lit.wf, IntKind.min, IntKind.max, IntKind.signed, IntKind.bits] using this

theorem arg_bytes (ht : P.underlying t = some (.slice e)) (he : P.underlying e = some (.int .u8)) (hc : P.cellsOf e = 1) (hv : Value.okWide P W .any base t v) (h : DataW.Trod enc P W 0 (fun _ => true) true t v d p) :
    ∃ bs : List Nat, Row W 0 W.heap.size v (bs.map fun b : Nat => Value.int .u8 (b : Int)) ∧ bs.length ≤ maxLen ∧ ∀ b ∈ bs, b < 256 := by
  obtain ⟨a0, len0, cap0, rfl⟩ := okWide_slice ht hv
  obtain ⟨fuel, hf⟩ := h
  rcases open_ints ht he hc hf with ⟨hcs, _⟩ | ⟨a, len, cap, ss, hcs, _, hl, hm, hz, _, hcell, hsz⟩
  · have hcs' : Value.slice a0 len0 cap0 = .slice none 0 0 := by simpa [Value.cells] using hcs
    cases hcs'
    exact ⟨[], Row.nil_ _ _, by simp, by simp⟩
  · have hcs' : Value.slice a0 len0 cap0 = .slice (some a) len cap := by simpa [Value.cells] using hcs
    obtain ⟨rfl, rfl, rfl⟩ : a0 = some a ∧ len = len0 ∧ cap = cap0 := by cases hcs'; exact ⟨rfl, rfl, rfl⟩
    have hzl : ss.length = cap := by simpa using hz
    have hlen : (ss.take len).length = len := by rw [List.length_take]; omega
    have hr : ∀ x ∈ ss.take len, 0 ≤ x ∧ x ≤ 255 := fun x hx => by
      have := hsz x (List.mem_of_mem_take hx)
      simpa [Lit.wf, IntKind.min, IntKind.max, IntKind.signed, IntKind.bits] using this
    refine ⟨(ss.take len).map Int.toNat, ⟨some a, cap, by rw [List.length_map, List.length_map, hlen], fun j u hu => ?_⟩, by rw [List.length_map]; omega, fun s hs => ?_⟩
    · rw [List.getElem?_map, List.getElem?_map] at hu
      obtain ⟨y, hy, rfl⟩ := Option.map_eq_some_iff.1 hu
      obtain ⟨s, hs, rfl⟩ := Option.map_eq_some_iff.1 hy
      have hj : j < len := by rw [← hlen]; exact (List.getElem?_eq_some_iff.1 hs).1
      have hs' : ss[j]? = some s := by rw [← hs, List.getElem?_take_of_lt hj]
      have hc1 := hcell j (by omega)
      rw [List.getD_eq_getElem?_getD, hs'] at hc1
      have h0 := hr s (List.mem_of_getElem? hs)
      have e0 : ((s.toNat : Nat) : Int) = s := by omega
      rw [e0]
      exact ⟨a, rfl, Nat.zero_le _, by have := cell_lt hc1; rwa [block_add] at this, hc1⟩
    · obtain ⟨x, hx, rfl⟩ := List.mem_map.1 hs
      have := hr x hx
      omega
end
end Go.Proofs.YtbpfabicampdkaaDoor

namespace Go.Proofs.YtbpfabicampdkaaDoor
open Go.ChangeShapes Go.WideShapes Go.ChangeAt Go.RowKit Go.Joins

section
variable {H : Type} {enc : TypeId × Value → H} {P : Program} {W : World} {base : Nat} {t e : TypeId}

/-- the cell of a slice of ints, wherever it stands -/
theorem cell_ints {fuel : Nat} {a0 : Option Addr} {len0 cap0 : Nat} {x : DataW H × List MemPlace} (ht : P.underlying t = some (.slice e)) (he : P.underlying e = some (.int .i64)) (hc : P.cellsOf e = 1)
    (hf : DataW.trod enc P W 0 (fun _ => true) true fuel t [.slice a0 len0 cap0] = some x) :
    ∃ xs : List Int, Row W 0 W.heap.size (.slice a0 len0 cap0) (xs.map (Value.int .i64)) ∧ xs.length ≤ maxLen := by
  rcases open_ints ht he hc hf with ⟨hcs, _⟩ | ⟨a, len, cap, ss, hcs, _, hl, hm, hz, _, hcell, hsz⟩
  · have hcs' : Value.slice a0 len0 cap0 = .slice none 0 0 := by simpa using hcs
    cases hcs'
    exact ⟨[], Row.nil_ _ _, by simp⟩
  · have hcs' : Value.slice a0 len0 cap0 = .slice (some a) len cap := by simpa using hcs
    obtain ⟨rfl, rfl, rfl⟩ : a0 = some a ∧ len = len0 ∧ cap = cap0 := by cases hcs'; exact ⟨rfl, rfl, rfl⟩
    have hzl : ss.length = cap := by simpa using hz
    have hlen : (ss.take len).length = len := by rw [List.length_take]; omega
    refine ⟨ss.take len, ⟨some a, cap, by rw [List.length_map, hlen], fun j u hu => ?_⟩, by omega⟩
    rw [List.getElem?_map] at hu
    obtain ⟨s, hs, rfl⟩ := Option.map_eq_some_iff.1 hu
    have hj : j < len := by rw [← hlen]; exact (List.getElem?_eq_some_iff.1 hs).1
    have hs' : ss[j]? = some s := by rw [← hs, List.getElem?_take_of_lt hj]
    have hc1 := hcell j (by omega)
    rw [List.getD_eq_getElem?_getD, hs'] at hc1
    exact ⟨a, rfl, Nat.zero_le _, by have := cell_lt hc1; rwa [block_add] at this, hc1⟩
end

theorem Tryd.cellsSigned : Tryd.prog.cellsOf 24 = 2 := by kernel_rfl
theorem Tryd.cellsInt1 : Tryd.prog.cellsOf 3 = 1 := by kernel_rfl
set_option maxHeartbeats 400000 in
set_option maxRecDepth 100000 in
theorem arg_signed {H : Type} {enc : TypeId × Value → H} {W : World} {base : Nat} {v : Value} {d : DataW H} {p : List MemPlace}
    (hv : Value.okWide Tryd.prog W .any base 24 v) (h : DataW.Trod enc Tryd.prog W 0 (fun _ => true) true 24 v d p) : ∃ x : SI, RdS W v x ∧ x.2.length ≤ maxLen := by
  obtain ⟨c0, c1, y0, y1, m, rfl, rfl, rfl, hy0, hy1⟩ := open_agg2 Tryd.underlying24 (by kernel_rfl) Tryd.cellsSigned hv h
  obtain ⟨b, e0, rfl⟩ := DataW.trod_bool Tryd.underlying4 hy0
  obtain ⟨a, l, c, e1⟩ := slice_form Tryd.underlying22 hy1
  simp at e0 e1
  subst e0 e1
  obtain ⟨xs, hr, hl⟩ := cell_ints Tryd.underlying22 Tryd.underlying3 Tryd.cellsInt1 hy1
  exact ⟨(b, xs), ⟨_, rfl, hr⟩, hl⟩
end Go.Proofs.YtbpfabicampdkaaDoor

namespace Go.Proofs.YtbpfabicampdkaaDoor
open Go.RowKit

/-- the decimal digits of k ahead of acc, at most f of them -/
def digGo : Nat → Nat → List UInt8 → List UInt8
  | 0, _, acc => acc
  | f + 1, k, acc => if k = 0 then acc else digGo f (k / 10) ((48 + UInt8.ofNat (k % 10)) :: acc)
def markB (k : Int) : ByteArray := if k ≤ 0 then ⟨#[109, 48]⟩ else ⟨(109 :: digGo 19 k.toNat []).toArray⟩

theorem digGo_step {f m : Nat} {acc : List UInt8} {D : List UInt8} (h : digGo f m acc = D ∧ m < 10 ^ f) (hm : 0 < m) : ∃ g, f = g + 1 ∧ digGo g (m / 10) ((48 + UInt8.ofNat (m % 10)) :: acc) = D ∧ m / 10 < 10 ^ g := by
  cases f with
  | zero => have := h.2; simp at this; omega
  | succ g =>
    refine ⟨g, rfl, ?_, ?_⟩
    · rw [← h.1, digGo, if_neg (by omega)]
    · have := h.2; rw [Nat.pow_succ] at this; omega
theorem digGo_zero (f : Nat) (acc : List UInt8) : digGo f 0 acc = acc := by cases f <;> simp [digGo]
theorem push_one (c : UInt8) (acc : List UInt8) : (⟨#[c]⟩ : ByteArray) ++ ⟨acc.toArray⟩ = ⟨(c :: acc).toArray⟩ := by
  apply ByteArray.ext
  simp
theorem mark_done {n m f : Nat} {acc : List UInt8} (h0 : 0 < (n : Int)) (hz : ¬ 0 < m) (h : digGo f m acc = digGo 19 n [] ∧ m < 10 ^ f) : (⟨#[109]⟩ : ByteArray) ++ ⟨acc.toArray⟩ = markB n := by
  obtain rfl : m = 0 := by omega
  rw [markB, if_neg (by omega), push_one, Int.toNat_natCast, ← h.1, digGo_zero]

/-- string([]byte{c}) -/
theorem conv_byte (W : World) (c : Int) : (convert 109 9 (.slice (some ⟨W.heap.size, 0, none⟩) 1 1)).run Tryd.prog (W.alloc (.cells #[.int .u8 c] 5)) = .ok (.string ⟨#[UInt8.ofNat c.toNat]⟩) (W.alloc (.cells #[.int .u8 c] 5)) := by
  rw [run_convert_bytes_string _ 109 9 5 _ _ _ Tryd.underlying109 Tryd.underlying5 Tryd.underlying9]
  rw [run_bytesToString _ _ 1 1 [c] ?_]
  · rfl
  · simp [loadCells, go_sem]

set_option maxHeartbeats 400000 in
set_option maxRecDepth 100000 in
theorem markText_any (k : Int) (w : World) (hk : k ≤ 9223372036854775807) :
    Calls Tryd.prog 64 #[.int .i64 k] w fun e w' => e = .returned (.string (markB k)) ∧ Below w.heap.size w w' := by
  by_cases h0 : k ≤ 0
  · go_enter Tryd.func64, Tryd.ntmps64
    go_wp2
    go_ret
    exact ⟨ret_str (by rw [markB, if_pos h0]), Below.refl _ _⟩
  · obtain ⟨n, rfl⟩ := Int.eq_ofNat_of_zero_le (show 0 ≤ k by omega)
    have hcv := conv_byte
    go_enter Tryd.func64, Tryd.ntmps64
    go_wp2
    go_loopw [0, 3] (fun a o wr => ∃ (m f : Nat) (acc : List UInt8), m ≤ 9223372036854775807 ∧ acc.length + f ≤ 19 ∧ a = .int .i64 m ∧ o = .string ⟨acc.toArray⟩ ∧ Hid (digGo f m acc = digGo 19 n [] ∧ m < 10 ^ f) ∧ Below w.heap.size w wr) (fun a _ _ => (intOf a).toNat)
    case atStart => exact ⟨n, 19, [], by omega, by simp, rfl, rfl, Lib.hid ⟨rfl, by omega⟩, Below.refl _ _⟩
    case round =>
      obtain ⟨m, f, acc, hm, hf, rfl, rfl, HD, hb⟩ := hrel
      by_cases hz : 0 < m
      · obtain ⟨g, rfl, h1, h2⟩ := digGo_step HD.out hz
        have H1 := Lib.hid (And.intro h1 h2)
        clear h1 h2 HD
        go_wp2
        go_roundw
        case rel => exact ⟨m / 10, g, _, by omega, by simp; omega, by go_num, by rw [push_one], H1, hb.alloc hb.size _⟩
        case measure => simp [intOf]; omega
      · go_wp2
        go_ret
        exact ⟨ret_str (mark_done (by omega) hz HD.out), hb⟩
end Go.Proofs.YtbpfabicampdkaaDoor
