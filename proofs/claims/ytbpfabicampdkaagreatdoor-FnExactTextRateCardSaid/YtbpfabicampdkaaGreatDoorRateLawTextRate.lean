/-
  The law FnExactTextRate of chapter 11, walked: it returns true wherever both packages answer alike.
-/
import Derived.Deep.RegionHeld3
import Derived.Deep.DeepCutAuto
import Derived.Test.YtbpfabicampdkaaGreatDoorJB9
namespace Go.Proofs.YtbpfabicampdkaaGreatDoor
open Go.RowKit

set_option maxHeartbeats 4000000 in
set_option maxRecDepth 100000 in
theorem lawTextRate_walk (s : ByteArray) (R0 : EI) (R1 : Bool) (w : World)
    (hS : ∀ (W : World), Calls Tryz.prog 39 #[.string s] W (PostEb R0 R1 W))
    (hI : ∀ (W : World), CurTab W → Tab W → Calls Tryz.prog 23 #[.string s] W (PostEb R0 R1 W))
    (ht0 : CurTab w) (ht1 : Tab w) (hls : s.size ≤ 1048576) (hlR0 : szE R0 ≤ 1048576)  :
    Calls Tryz.prog 8 #[.string s] w fun e w' => e = .returned (.bool true) ∧ Below w.heap.size w w' := by
  have HS := Lib.hid hS
  have HI := Lib.hid hI
  clear hS hI
  have HT0 := Lib.hid ht0
  clear ht0
  have HT1 := Lib.hid ht1
  clear ht1
  have hsR0 := szE_nonneg R0
  have hmR0 := mkE_range R0
  have bb0 : Below w.heap.size w w := Below.refl _ _
  go_enter Tryz.func8, Tryz.ntmps8
  go_upto_region 3 with fail
  go_cut [3, 4] (fun s t1 wx => NewLocV 41 (fun v => OwnE v R0) w s wx ∧ t1 = .bool R1)
  case first =>
    go_wp2_with fail
    refine (HS.out  _ ).mono ?_
    rintro e wf ⟨uf, Sf, rfl, of, lf, bf⟩
    obtain ⟨Af, cf, rfl⟩ := ownE_form of.here
    have bwf := bf
    go_wp2_with fail
    go_meet
    exact ⟨newLocV_last of lf (Nat.le_refl _) bwf, rfl⟩
  rename World => w1
  obtain ⟨⟨gw0, csw0, Sw0, rfl, kw0, ow0, nw0, lw0, b1⟩, rfl⟩ := hcut
  obtain ⟨Aw0, cw0, ew0⟩ := ownE_form ow0.here
  injection ew0 with ew0
  subst ew0
  have bb1 := Below.next bb0 b1
  go_upto_region 4 with fail
  go_cut [5, 6] (fun s t1 wx => NewLocV 41 (fun v => OwnE v R0) w1 s wx ∧ t1 = .bool R1)
  case first =>
    go_wp2_with fail
    refine (HI.out  _  (HT0.out.below bb1) (HT1.out.below bb1)).mono ?_
    rintro e wf ⟨uf, Sf, rfl, of, lf, bf⟩
    obtain ⟨Af, cf, rfl⟩ := ownE_form of.here
    go_wp2_with fail
    go_meet
    exact ⟨newLocV_last of lf (Nat.le_refl _) bf, rfl⟩
  rename World => w2
  obtain ⟨⟨gg0, csg0, Sg0, rfl, kg0, og0, ng0, lg0, b2⟩, rfl⟩ := hcut
  obtain ⟨Ag0, cg0, eg0⟩ := ownE_form og0.here
  injection eg0 with eg0
  subst eg0
  have bb2 := Below.next bb1 b2
  replace kw0 := kw0.below b2
  replace ow0 := ow0.below b2
  have kg0_c0 := kg0.here.cell 0 _ rfl
  have kg0_c1 := kg0.here.cell 1 _ rfl
  have kg0_c2 := kg0.here.cell 2 _ rfl
  have kg0_c3 := kg0.here.cell 3 _ rfl
  have kg0_c4 := kg0.here.cell 4 _ rfl
  have kw0_c0 := kw0.here.cell 0 _ rfl
  have kw0_c1 := kw0.here.cell 1 _ rfl
  have kw0_c2 := kw0.here.cell 2 _ rfl
  have kw0_c3 := kw0.here.cell 3 _ rfl
  have kw0_c4 := kw0.here.cell 4 _ rfl
  go_wp2_with fail
  clear kg0_c0 kg0_c1 kg0_c2 kg0_c3 kg0_c4 kw0_c0 kw0_c1 kw0_c2 kw0_c3 kw0_c4
  refine (eqE_cal _ _ R0 R0 _ (capE_of (by omega)) (OwnE.rd og0.here) (OwnE.rd ow0.here)).mono ?_
  rintro e w3 ⟨rfl, b3⟩
  rw [decide_refl]
  have bb3 := Below.next bb2 b3
  replace kw0 := kw0.below b3
  replace ow0 := ow0.below b3
  replace kg0 := kg0.below b3
  replace og0 := og0.below b3
  have z1 := b1.size
  have z2 := b2.size
  have z3 := b3.size
  have AP_w0_g0 := Lib.hid (Within.apart lw0 lg0 (.inl (by omega)))
  have F_g0 := Lib.hid (Within.from (B := w.heap.size) lg0 (by have := bb0.size; omega))
  have N_g0 := Lib.hid ng0
  clear z1 z2 z3
  have kg0_c0 := kg0.here.cell 0 _ rfl
  have kg0_c1 := kg0.here.cell 1 _ rfl
  have kg0_c2 := kg0.here.cell 2 _ rfl
  have kg0_c3 := kg0.here.cell 3 _ rfl
  have kg0_c4 := kg0.here.cell 4 _ rfl
  go_wp2_with fail
  clear kg0_c0 kg0_c1 kg0_c2 kg0_c3 kg0_c4
  refine (markE_cal _ R0 _ (1) _ (by omega) (by omega) og0).mono ?_
  rintro e w4 ⟨rfl, mkg0, c4⟩
  clear og0
  have bb4 := below_chg bb3 c4 bb3.size (fun i hi => F_g0.out i (List.mem_cons_of_mem _ hi))
  replace kw0 := kw0.chg c4 (fun i hi hm => AP_w0_g0.out i (by simp at hi; subst hi; exact List.mem_cons_self ..) (List.mem_cons_of_mem _ hm))
  replace ow0 := ow0.chg c4 (fun i hi hm => AP_w0_g0.out i (List.mem_cons_of_mem _ hi) (List.mem_cons_of_mem _ hm))
  replace kg0 := kg0.chg c4 (fun i hi hm => by simp at hi; subst hi; exact N_g0.out hm)
  have kg0_c0 := kg0.here.cell 0 _ rfl
  have kg0_c1 := kg0.here.cell 1 _ rfl
  have kg0_c2 := kg0.here.cell 2 _ rfl
  have kg0_c3 := kg0.here.cell 3 _ rfl
  have kg0_c4 := kg0.here.cell 4 _ rfl
  go_wp2_with fail
  clear kg0_c0 kg0_c1 kg0_c2 kg0_c3 kg0_c4
  refine (heldE_cal _ R0 (1) _ (by omega) (by omega) mkg0.here).mono ?_
  rintro e w5 ⟨rfl, b5⟩
  have bb5 := Below.next bb4 b5
  replace kw0 := kw0.below b5
  replace ow0 := ow0.below b5
  replace kg0 := kg0.below b5
  replace mkg0 := mkg0.below b5
  have hq5 : decide ((1 : Int) + mkE R0 < 0) = false := decide_eq_false (by omega)
  go_upto_region 15 with fail
  go_cut [9, 10] (fun s t1 wx => NewLocV 41 (fun v => OwnE v R0) w5 s wx ∧ t1 = .bool R1)
  case first =>
    go_wp2_with fail
    refine (HI.out  _  (HT0.out.below bb5) (HT1.out.below bb5)).mono ?_
    rintro e wf ⟨uf, Sf, rfl, of, lf, bf⟩
    obtain ⟨Af, cf, rfl⟩ := ownE_form of.here
    have bwf := bf
    go_wp2_with fail
    go_meet
    exact ⟨newLocV_last of lf (Nat.le_refl _) bwf, rfl⟩
  rename World => w6
  obtain ⟨⟨gh0, csh0, Sh0, rfl, kh0, oh0, nh0, lh0, b6⟩, rfl⟩ := hcut
  obtain ⟨Ah0, ch0, eh0⟩ := ownE_form oh0.here
  injection eh0 with eh0
  subst eh0
  have bb6 := Below.next bb5 b6
  replace kw0 := kw0.below b6
  replace ow0 := ow0.below b6
  replace kg0 := kg0.below b6
  replace mkg0 := mkg0.below b6
  have kh0_c0 := kh0.here.cell 0 _ rfl
  have kh0_c1 := kh0.here.cell 1 _ rfl
  have kh0_c2 := kh0.here.cell 2 _ rfl
  have kh0_c3 := kh0.here.cell 3 _ rfl
  have kh0_c4 := kh0.here.cell 4 _ rfl
  have kw0_c0 := kw0.here.cell 0 _ rfl
  have kw0_c1 := kw0.here.cell 1 _ rfl
  have kw0_c2 := kw0.here.cell 2 _ rfl
  have kw0_c3 := kw0.here.cell 3 _ rfl
  have kw0_c4 := kw0.here.cell 4 _ rfl
  go_wp2_with fail
  clear kh0_c0 kh0_c1 kh0_c2 kh0_c3 kh0_c4 kw0_c0 kw0_c1 kw0_c2 kw0_c3 kw0_c4
  refine (eqE_cal _ _ R0 R0 _ (capE_of (by omega)) (OwnE.rd oh0.here) (OwnE.rd ow0.here)).mono ?_
  rintro e w7 ⟨rfl, b7⟩
  rw [decide_refl]
  have bb7 := Below.next bb6 b7
  replace kw0 := kw0.below b7
  replace ow0 := ow0.below b7
  replace kg0 := kg0.below b7
  replace mkg0 := mkg0.below b7
  replace kh0 := kh0.below b7
  replace oh0 := oh0.below b7
  have kg0_c0 := kg0.here.cell 0 _ rfl
  have kg0_c1 := kg0.here.cell 1 _ rfl
  have kg0_c2 := kg0.here.cell 2 _ rfl
  have kg0_c3 := kg0.here.cell 3 _ rfl
  have kg0_c4 := kg0.here.cell 4 _ rfl
  go_wp2_with fail
  clear kg0_c0 kg0_c1 kg0_c2 kg0_c3 kg0_c4
  refine (heldE_cal _ R0 (1) _ (by omega) (by omega) mkg0.here).mono ?_
  rintro e w8 ⟨rfl, b8⟩
  have bb8 := Below.next bb7 b8
  replace kw0 := kw0.below b8
  replace ow0 := ow0.below b8
  replace kg0 := kg0.below b8
  replace mkg0 := mkg0.below b8
  replace kh0 := kh0.below b8
  replace oh0 := oh0.below b8
  have hq8 : decide ((1 : Int) + mkE R0 < 0) = false := decide_eq_false (by omega)
  go_wp2
  go_ret
  exact ⟨rfl, bb8⟩
end Go.Proofs.YtbpfabicampdkaaGreatDoor
