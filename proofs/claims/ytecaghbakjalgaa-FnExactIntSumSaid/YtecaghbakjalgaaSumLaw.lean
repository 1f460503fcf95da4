/-
  The law of IntSum, walked, and for arguments of any size.
-/
import Derived.Test.YtecaghbakjalgaaSignSum
import Derived.Test.YtecaghbakjalgaaSignAt
namespace Go.Proofs.Ytecaghbakjalgaa
open Go.RowKit

theorem szL_mem {l : List SI} {x : SI} (h : x ∈ l) : szS x ≤ szL l := by
  induction l with
  | nil => cases h
  | cons y l ih =>
    have h0 := szL_nonneg l
    have hy : 0 ≤ szS y := by unfold szS szI; omega
    show _ ≤ szS y + szL l
    rcases List.mem_cons.1 h with rfl | h
    · omega
    · have := ih h; omega
set_option maxHeartbeats 4000000 in
set_option maxRecDepth 100000 in
theorem lawIntSum_walk (va : Value) (l : List SI) (R0 : SI) (w : World)
    (hS : ∀ (u : Value) (lo hi : Nat) (W : World), OwnL u l lo hi W → Calls Try.prog 40 #[u] W (NewS R0 W))
    (hI : ∀ (u : Value) (lo hi : Nat) (W : World), OwnL u l lo hi W → Calls Try.prog 42 #[u] W (NewS R0 W))
    (hl : l.length + szL l ≤ 1048576) (hlR0 : szS R0 ≤ 1048576) (ra : RdL w va l) :
    Calls Try.prog 13 #[va] w fun e w' => e = .returned (.bool true) ∧ Below w.heap.size w w' := by
  have HS := Lib.hid hS
  have HI := Lib.hid hI
  clear hS hI
  have hsl := szL_nonneg l
  have hsR0 : 0 ≤ szS R0 := by unfold szS szI; omega
  have hlen0 : R0.2.length ≤ 1048576 := by unfold szS szI at hlR0; omega
  have hll : l.length ≤ 1048576 := by omega
  have hlx : ∀ x ∈ l, x.2.length ≤ 1048576 := fun x hx => by have := szL_mem hx; unfold szS szI at this; omega
  have hlx' : ∀ x ∈ l, x.2.length ≤ 9223372036854775807 := fun x hx => by have := hlx x hx; omega
  have HLX := Lib.hid hlx
  have HLX' := Lib.hid hlx'
  have RF : Hid (∀ W, Below w.heap.size w W → RdL W va l) := Lib.hid fun W hb => ra.below hb
  clear hlx hlx' ra
  go_enter Try.func13, Try.ntmps13
  go_wp2_with fail
  refine (szSignedS_any _ l 1048576 _ (by omega) HLX'.out (by omega) (by omega) (RF.out _ (Below.refl _ _))).mono ?_
  rintro e w1 ⟨rfl, bb1⟩
  rw [leftI_of (by omega)]
  have hn : decide (((1048576 : Int) - (l.length + szL l) : Int) < 0) = false := decide_eq_false (by omega)
  go_upto_region 5 with fail
  go_cut [4] (fun s wx => NewLoc R0 w1 s wx)
  case first =>
    go_wp2_with fail
    refine (toSignedS_any _ l _ hll HLX.out (RF.out _ bb1)).mono ?_
    rintro e wt ⟨ut, rfl, ot, bt⟩
    go_wp2_with fail
    refine (HS.out _ _ _ _ ot).mono ?_
    rintro e wf ⟨uf, rfl, of, bf⟩
    obtain ⟨Af, cf, rfl⟩ := own_len of
    have bwf := Below.next bt bf
    go_wp2_with fail
    go_meet
    exact newLoc_last of bt.size bwf
  rename World => w2
  obtain ⟨gw0, uw0, rfl, ow0, lw0, b2⟩ := hcut
  obtain ⟨Aw0, cw0, ew0⟩ := own_len ow0.here.2
  subst ew0
  have bb2 := Below.next bb1 b2
  go_wp2_with fail
  refine (toSignedS_any _ l _ hll HLX.out (RF.out _ bb2)).mono ?_
  rintro e w3 ⟨ux, rfl, ox, b3⟩
  have HX := Lib.hid ox
  have bb3 := Below.next bb2 b3
  replace ow0 := ow0.below b3
  go_upto_region 7 with fail
  go_cut [6] (fun s wx => NewLoc R0 w3 s wx)
  case first =>
    go_wp2_with fail
    refine (HI.out _ _ _ _ HX.out).mono ?_
    rintro e wf ⟨uf, rfl, of, bf⟩
    obtain ⟨Af, cf, rfl⟩ := own_len of
    go_wp2_with fail
    go_meet
    exact newLoc_last of (Nat.le_refl _) bf
  rename World => w4
  obtain ⟨gg0, ug0, rfl, og0, lg0, b4⟩ := hcut
  obtain ⟨Ag0, cg0, eg0⟩ := own_len og0.here.2
  subst eg0
  have bb4 := Below.next bb3 b4
  replace ow0 := ow0.below b4
  have og0_c0 := og0.here.1.cell 0 _ rfl
  have og0_c1 := og0.here.1.cell 1 _ rfl
  have ow0_c0 := ow0.here.1.cell 0 _ rfl
  have ow0_c1 := ow0.here.1.cell 1 _ rfl
  go_wp2_with fail
  clear og0_c0 og0_c1 ow0_c0 ow0_c1
  refine (eqSigned_at _ _ R0 R0 _ (by omega) (OwnS.rd ⟨_, rfl, og0.here.2⟩) (OwnS.rd ⟨_, rfl, ow0.here.2⟩)).mono ?_
  rintro e w5 ⟨rfl, b5⟩
  rw [decide_refl]
  have bb5 := Below.next bb4 b5
  replace ow0 := ow0.below b5
  replace og0 := og0.below b5
  have b35 := Below.next b4 b5
  go_wp2_with fail
  refine (toSignedS_any _ l _ hll HLX.out (RF.out _ bb5)).mono ?_
  rintro e wt ⟨ut, rfl, ot, bt⟩
  have b3t := Below.next b35 bt
  have HOT := Lib.hid ot
  clear ot
  go_wp2_with fail
  refine (eqSignedS_any _ _ l l _ (by omega) HLX'.out (HX.out.below b3t).rd HOT.out.rd).mono ?_
  rintro e w6 ⟨rfl, b6⟩
  rw [decide_refl]
  have b36 := Below.next b3t b6
  have b56 := Below.next bt b6
  have bb6 := Below.next bb5 b56
  replace ow0 := ow0.below b56
  replace og0 := og0.below b56
  have HX6 := Lib.hid (HX.out.below b36)
  have hz23 := b3.size
  have hz2 := bb2.size
  clear b35 b3t b36 b56 HOT bt b6 b5 b4 ox HX
  go_wp2_with fail
  refine (markSignedS_any _ l w2.heap.size w3.heap.size 1 _ (by omega) (by omega) HX6.out).mono ?_
  rintro e w7 ⟨rfl, c7⟩
  have bb7 := below_chg bb6 c7 bb6.size (fun i hi => by have := (rangeB_mem hi).1; omega)
  replace ow0 := ow0.chg c7 (fun i hi hm => by have h1 := (lw0 i hi).2; have h2 := (rangeB_mem hm).1; omega)
  replace og0 := og0.chg c7 (fun i hi hm => by have h1 := (lg0 i hi).1; have h2 := (rangeB_mem hm).2; omega)
  have hk : decide (((1 + l.length + szL l) : Int) < 0) = false := decide_eq_false (by omega)
  have og0_c0 := og0.here.1.cell 0 _ rfl
  have og0_c1 := og0.here.1.cell 1 _ rfl
  have ow0_c0 := ow0.here.1.cell 0 _ rfl
  have ow0_c1 := ow0.here.1.cell 1 _ rfl
  have HZ23 := Lib.hid hz23
  have HZ12 := Lib.hid (show w.heap.size ≤ w3.heap.size from bb3.size)
  clear HX6 c7 hz23 b3
  go_wp2_with fail
  clear og0_c0 og0_c1 ow0_c0 ow0_c1
  refine (eqSigned_at _ _ R0 R0 _ (by omega) (OwnS.rd ⟨_, rfl, og0.here.2⟩) (OwnS.rd ⟨_, rfl, ow0.here.2⟩)).mono ?_
  rintro e w8 ⟨rfl, b8⟩
  rw [decide_refl]
  have bb8 := Below.next bb7 b8
  replace ow0 := ow0.below b8
  replace og0 := og0.below b8
  clear hk
  have AP_w0_g0 := Lib.hid (Within.apart lw0 lg0 (.inl (by have := HZ23.out; omega)))
  have F_g0 := Lib.hid (Within.from (B := w.heap.size) lg0 HZ12.out)
  have kg0 := box_at og0.here.1
  have mg0 := own_at' og0.here.2
  have Ng0 := Lib.hid (Lib.ownBlock_ne og0.here.2 og0.here.1 (by decide))
  clear og0
  have kg0_c0 := kg0.here.cell 0 _ rfl
  have kg0_c1 := kg0.here.cell 1 _ rfl
  go_wp2_with fail
  clear kg0_c0 kg0_c1
  refine (markSigned_at _ R0 _ (1) _ (by omega) (by omega) (mg0.imp fun _ h => OwnS.mk (x := R0) h)).mono ?_
  rintro e w9 ⟨rfl, mmg0, c9⟩
  clear mg0
  have bb9 := below_chg bb8 c9 bb8.size (fun i hi => F_g0.out i (by unfold locB; exact List.mem_cons_of_mem _ hi))
  replace ow0 := ow0.chg c9 (fun i hi hm => AP_w0_g0.out i hi (by unfold locB; exact List.mem_cons_of_mem _ hm))
  replace kg0 := kg0.chg c9 (fun i hi hm => by simp at hi; subst hi; exact Ng0.out (by simpa using hm))
  have mkg0 := mmg0
  clear mmg0
  have kg0_c0 := kg0.here.cell 0 _ rfl
  have kg0_c1 := kg0.here.cell 1 _ rfl
  go_wp2_with fail
  clear kg0_c0 kg0_c1
  refine (heldSigned_at _ R0 (1) _ (by omega) (by omega) mkg0.here).mono ?_
  rintro e w10 ⟨rfl, b10⟩
  have bb10 := Below.next bb9 b10
  replace ow0 := ow0.below b10
  replace kg0 := kg0.below b10
  replace mkg0 := mkg0.below b10
  have hq10 : decide ((1 : Int) + szS R0 < 0) = false := decide_eq_false (by omega)
  go_upto_region 24 with fail
  go_cut [10] (fun s wx => NewLoc R0 w10 s wx)
  case first =>
    go_wp2_with fail
    refine (toSignedS_any _ l _ hll HLX.out (RF.out _ bb10)).mono ?_
    rintro e wt ⟨ut, rfl, ot, bt⟩
    go_wp2_with fail
    refine (HI.out _ _ _ _ ot).mono ?_
    rintro e wf ⟨uf, rfl, of, bf⟩
    obtain ⟨Af, cf, rfl⟩ := own_len of
    have bwf := Below.next bt bf
    go_wp2_with fail
    go_meet
    exact newLoc_last of bt.size bwf
  rename World => w11
  obtain ⟨gh0, uh0, rfl, oh0, lh0, b11⟩ := hcut
  obtain ⟨Ah0, ch0, eh0⟩ := own_len oh0.here.2
  subst eh0
  have bb11 := Below.next bb10 b11
  replace ow0 := ow0.below b11
  replace kg0 := kg0.below b11
  replace mkg0 := mkg0.below b11
  have oh0_c0 := oh0.here.1.cell 0 _ rfl
  have oh0_c1 := oh0.here.1.cell 1 _ rfl
  have ow0_c0 := ow0.here.1.cell 0 _ rfl
  have ow0_c1 := ow0.here.1.cell 1 _ rfl
  go_wp2_with fail
  clear oh0_c0 oh0_c1 ow0_c0 ow0_c1
  refine (eqSigned_at _ _ R0 R0 _ (by omega) (OwnS.rd ⟨_, rfl, oh0.here.2⟩) (OwnS.rd ⟨_, rfl, ow0.here.2⟩)).mono ?_
  rintro e w12 ⟨rfl, b12⟩
  rw [decide_refl]
  have bb12 := Below.next bb11 b12
  replace kg0 := kg0.below b12
  replace mkg0 := mkg0.below b12
  have kg0_c0 := kg0.here.cell 0 _ rfl
  have kg0_c1 := kg0.here.cell 1 _ rfl
  go_wp2_with fail
  clear kg0_c0 kg0_c1
  refine (heldSigned_at _ R0 (1) _ (by omega) (by omega) mkg0.here).mono ?_
  rintro e w13 ⟨rfl, b13⟩
  have bb13 := Below.next bb12 b13
  have hq13 : decide ((1 : Int) + szS R0 < 0) = false := decide_eq_false (by omega)
  go_wp2
  go_ret
  exact ⟨rfl, bb13⟩

theorem sumS_sz (l : List SI) : szS (sumS l) ≤ 1048576 := by
  by_cases h : l.all okS = true
  · rw [sumS_ok h]; exact len_szS (foldS_len l) (by decide)
  · rw [show sumS l = zeroS by unfold sumS; rw [if_neg h]]; exact len_szS zeroS_len (by decide)
theorem lawIntSum (va : Value) (l : List SI) (w : World) (hm : l.length ≤ 9223372036854775807) (hx : ∀ x ∈ l, x.2.length ≤ 9223372036854775807) (ra : RdL w va l) :
    Calls Try.prog 13 #[va] w fun e w' => e = .returned (.bool true) ∧ Below w.heap.size w w' := by
  have hsl := szL_nonneg l
  by_cases hl : l.length + szL l ≤ 1048576
  · have hlx : ∀ x ∈ l, x.2.length ≤ 1048576 := fun x hx => by have := szL_mem hx; unfold szS szI at this; omega
    exact lawIntSum_walk va l (sumS l) w (fun u lo hi W h => specIntSum_any u l W (by omega) hlx h.ownR) (fun u lo hi W h => implIntSum_any u l W (by omega) hlx h.ownR) hl (sumS_sz l) ra
  · go_enter Try.func13, Try.ntmps13
    go_wp2_with fail
    refine (szSignedS_any _ l 1048576 _ hm hx (by omega) (by omega) ra).mono ?_
    rintro e w1 ⟨rfl, bb1⟩
    rw [show leftI 1048576 (l.length + szL l) = -1 by unfold leftI; rw [if_pos (by omega)]]
    go_wp2
    go_ret
    exact ⟨rfl, bb1⟩
end Go.Proofs.Ytecaghbakjalgaa
