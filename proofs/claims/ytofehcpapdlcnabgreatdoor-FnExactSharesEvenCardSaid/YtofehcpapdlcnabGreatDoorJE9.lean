/-
  JA9, ShareMath, ShareW, FairWords, ShareSizeS, StableSwap, StableCmp
-/
import Derived.Deep.RegionLaw
import Derived.Deep.AppendLies
import Derived.Deep.RegionHeld3
import Derived.Deep.DeepCutAuto
import Derived.Test.YtofehcpapdlcnabGreatDoorRows
import Derived.WalkKit
import Derived.ProofKit
import Derived.OpenShut
import Derived.JoinedCond
import Derived.BigRegion
import Derived.Deep.LoopGhost
import Derived.Shelf.Abstract
import Derived.Test.YtofehcpapdlcnabGreatDoorJE8
namespace Go.Proofs.YtofehcpapdlcnabGreatDoor
open Go.RowKit

/-- what was own ahead of an append to an empty literal is own behind it, apart from what the append gave -/
theorem after_append {wb w3 : World} {base L gg n k : Nat} {v : Value} {xs : List Value} (m cap : Nat) (o : wb.ownsRow base 3 1 v n xs) (hg : wb.grownBy w3 (Value.slice (some ⟨L, 0, none⟩) 0 k).ownBlock)
    (hat : (Value.slice (some ⟨L, 0, none⟩) 0 k).ownBlock = some gg ∨ gg = wb.heap.size) (hL : L < base ∨ ∀ g, v.ownBlock = some g → g < L) : w3.ownsRow base 3 1 v n xs ∧ ∀ g, v.ownBlock = some g → (Value.slice (some ⟨gg, 0, none⟩) (0 + m) cap).ownBlock ≠ some g := by
  refine ⟨own_apart o hg fun g q h1 h2 => ?_, fun g h1 h2 => ?_⟩
  · have h3 := Option.some.inj (show some L = some q from h2)
    have h4 := own_lt o h1
    rcases hL with h5 | h5
    · omega
    · have := h5 g h1
      omega
  · have h3 := Option.some.inj (show some gg = some g from h2)
    have h4 := own_lt o h1
    rcases hat with h6 | h6
    · have h7 := Option.some.inj (show some L = some gg from h6)
      rcases hL with h5 | h5
      · omega
      · have := h5 g h1
        omega
    · omega
set_option maxHeartbeats 2000000 in
set_option maxRecDepth 100000 in
theorem specRatNeg_any (vr : Value) (r : QI) (w : World) (hzr : szQ r ≤ 1048576) (hr : OwnQ vr r w) :
    Calls Tryz.prog 79 #[vr] w (PostQb (negQ r).1 (negQ r).2 w) := by
  obtain ⟨i0, hi0, hz0, hz1, hz2⟩ := info_parts intInfo
  have Hr := Lib.hid hr
  obtain ⟨Ar, cr, Br, dr, rfl⟩ := ownQ_form hr
  have OQr := Lib.hid (show ∀ W, Below w.heap.size w W → OwnQ (.agg #[.bool r.1.1, .slice Ar r.1.2.length cr, .slice Br r.2.length dr]) r W from fun W hb => OwnQ.below Hr.out hb)
  have OUr := Lib.hid (show ∀ W, Below w.heap.size w W → OwnI (.slice Ar r.1.2.length cr) r.1.2 W from fun W hb => (ownQ_open (OQr.out W hb)).2.1)
  have ODr := Lib.hid (show ∀ W, Below w.heap.size w W → OwnI (.slice Br r.2.length dr) r.2 W from fun W hb => (ownQ_open (OQr.out W hb)).2.2.1)
  have OSr := Lib.hid (show ∀ W, Below w.heap.size w W → OwnS (.agg #[.bool r.1.1, .slice Ar r.1.2.length cr]) r.1 W from fun W hb => OwnS.mk (OUr.out W hb))
  clear hr
  have hlr := szQ_len hzr
  have hl1r := hlr.1
  have hl2r := hlr.2
  clear hlr
  have bb0 : Below w.heap.size w ((w.alloc (.cells #[.bool r.1.1, .slice Ar r.1.2.length cr, .slice Br r.2.length dr] 63)).alloc (.cells #[.bool false, .slice none 0 0, .slice none 0 0] 63)) := below_al (below_al (Below.refl _ _) _) _
  have kr := (box_new w #[.bool r.1.1, .slice Ar r.1.2.length cr, .slice Br r.2.length dr] 63).below (below_al (Below.refl _ _) (.cells #[.bool false, .slice none 0 0, .slice none 0 0] 63))
  have ko := (box_new (w.alloc (.cells #[.bool r.1.1, .slice Ar r.1.2.length cr, .slice Br r.2.length dr] 63)) #[.bool false, .slice none 0 0, .slice none 0 0] 63)
  rw [show (w.alloc (.cells #[.bool r.1.1, .slice Ar r.1.2.length cr, .slice Br r.2.length dr] 63)).heap.size = w.heap.size + 1 by simp] at ko
  go_enter Tryz.func79, Tryz.ntmps79
  have kr_c0 := kr.here.cell 0 _ rfl
  have kr_c1 := kr.here.cell 1 _ rfl
  have kr_c2 := kr.here.cell 2 _ rfl
  go_wp2_with fail
  clear kr_c0 kr_c1 kr_c2
  refine (specRatOk_any _ r _ hzr (OQr.out _ bb0)).mono ?_
  rintro e w1 ⟨rfl, b1⟩
  have bb1 := Below.next bb0 b1
  replace kr := kr.below b1
  replace ko := ko.below b1
  by_cases okr : okQ r = true
  · rw [okr]
    have HOr := Lib.hid okr
    clear okr
    have HP := Lib.hid (parts_of HOr.out)
    have hp : 0 < r.2.length := (okQ_parts HOr.out).2.2.1
    have hd18 := HP.out.d50
    have HB1 := Lib.hid bb1
    have HONE := Lib.hid oneCells
    have HV := Lib.hid (show negQ r = ((negS r.1, r.2), true) by unfold negQ; rw [if_pos HOr.out])
    have kr_c0 := kr.here.cell 0 _ rfl
    have kr_c1 := kr.here.cell 1 _ rfl
    have kr_c2 := kr.here.cell 2 _ rfl
    have ko_c0 := ko.here.cell 0 _ rfl
    have ko_c1 := ko.here.cell 1 _ rfl
    have ko_c2 := ko.here.cell 2 _ rfl
    have ko_f0 := Lib.frozen_of_heap ko.here 0
    have ko_f1 := Lib.frozen_of_heap ko.here 1
    have ko_f2 := Lib.frozen_of_heap ko.here 2
    have hsz1 := bb1.size
    have hko := ko.lt (w.heap.size + 1) (by simp)
    go_wp2_with fail
    obtain ⟨gB, cB, eB, hgB0, hgB1, _⟩ := own_form (ODr.out _ bb1) hp
    injection eB with eB _ ecB
    subst eB ecB
    have HB0 := Lib.hid (show Below w1.heap.size w1 w1.drew from (Below.refl _ _).drew)
    have BBF := Lib.hid (show ∀ W, Below w1.heap.size w1 W → Below w.heap.size w W from fun W hb => Below.next bb1 hb)
    have KR := Lib.hid (show ∀ W, Below w1.heap.size w1 W → W.cell? ⟨w.heap.size, 0, none⟩ = some (.bool r.1.1) ∧ W.cell? ⟨w.heap.size, 1, none⟩ = some (.slice Ar r.1.2.length cr) ∧ W.cell? ⟨w.heap.size, 2, none⟩ = some (.slice (some ⟨gB, 0, none⟩) r.2.length dr) from
      fun W hb => ⟨(kr.below hb).here.cell 0 _ rfl, (kr.below hb).here.cell 1 _ rfl, (kr.below hb).here.cell 2 _ rfl⟩)
    have KO := Lib.hid (show ∀ W, Below w1.heap.size w1 W → At [w.heap.size + 1] (BoxAt (w.heap.size + 1) #[.bool false, .slice none 0 0, .slice none 0 0] 63) W from fun W hb => ko.below hb)
    have ODc := Lib.hid (show ∀ W, Below w1.heap.size w1 W → ∀ j u, (intsV r.2)[j]? = some u → W.cell? (Addr.add ⟨gB, 0, none⟩ j) = some u from fun W hb j u hj => by
      obtain ⟨A', c', e1, hA⟩ := (ODr.out W (BBF.out W hb)).row
      injection e1 with e1 _ _
      subst e1
      obtain ⟨a, ea, _, _, hc⟩ := hA j u hj
      cases ea
      exact hc)
    have HB1L := Lib.hid (show Below w1.heap.size w1 (w1.alloc (.cells #[] 3)).drew from (below_al (Below.refl _ _) _).drew)
    have LITLT := Lib.hid (show w1.heap.size < (w1.alloc (.cells #[] 3)).drew.heap.size by show w1.heap.size < (w1.alloc (.cells #[] 3)).heap.size; simp)
    have LIT := Lib.hid (fun W : World => World.ownsRow_made (base := w1.heap.size) (e := 3) (size := 1) W #[] 0)
    have hk0 : w.heap.size < w1.heap.size := by omega
    go_region_law (first
      | (refine step_append_lies _ (by rfl) _ _ _ (by rfl) w1.heap.size 3 i0 _ 1 8 Tryz.underlying22 hi0 hz0 hz1 hz2 rfl (by omega) _ 0 [] (by rfl) (by first | exact LIT.out wc HBC.out.size (Nat.zero_le _) rfl | exact own_below (LIT.out w1 (Nat.le_refl _) (Nat.zero_le _) rfl).drew bc) _ r.2.length dr (intsV r.2) (by rfl) (by simp [intsV]) (ODc.out _ (by first | exact HBC.out | exact below_al HBC.out _)) (HONE.out _) hp (by unfold maxLen; omega) (by omega) (by first | exact HBC.out.size | exact (below_al HBC.out _).size) _ (by rfl) ?_; intro gg cap w3 hown3 hg3 hat3 hlt3; have HBE := Lib.hid (show Below w1.heap.size w1 w3 from by first | exact HBC.out.grown hg3 HBC.out.size (fun k hk => by cases hk; exact Nat.le_refl _) | exact (below_al HBC.out _).grown hg3 (below_al HBC.out _).size (fun k hk => by cases hk; exact HBC.out.size)); have HOE := Lib.hid hown3; (first | (have hzz := after_append r.2.length cap (own_alloc HOC.out (.cells #[] 3)) hg3 hat3 (.inr fun g hg => (own_lt HOC.out hg).2)) | (have hzz := after_append r.2.length cap HOC.out hg3 hat3 (.inl LITLT.out))); obtain ⟨hoc3, hap3⟩ := hzz; have HOC3 := Lib.hid hoc3; have HAP := Lib.hid hap3; clear hoc3 hap3; (have e_r0 := (KR.out _ HBE.out).1); (have e_r1 := (KR.out _ HBE.out).2.1); (have e_r2 := (KR.out _ HBE.out).2.2); (have e_o0 := (KO.out _ HBE.out).here.cell 0 _ rfl); (have e_o1 := (KO.out _ HBE.out).here.cell 1 _ rfl); (have e_o2 := (KO.out _ HBE.out).here.cell 2 _ rfl); (have e_f0 := Lib.frozen_of_heap (KO.out _ HBE.out).here 0); (have e_f1 := Lib.frozen_of_heap (KO.out _ HBE.out).here 1); (have e_f2 := Lib.frozen_of_heap (KO.out _ HBE.out).here 2); clear hown3 hg3 hat3 hlt3)
      | (go_simp; go_at_call 84; (first | (have hBB := HB0.out; with_reducible refine (specIntNeg_any _ r.1 _ hl1r (OSr.out _ (BBF.out _ hBB))).mono ?_) | (have hBB := HB1L.out; with_reducible refine (specIntNeg_any _ r.1 _ hl1r (OSr.out _ (BBF.out _ hBB))).mono ?_)); rintro e wc ⟨uc, rfl, oc, bc⟩; obtain ⟨Ac, cc, rfl⟩ := own_len oc; have HOC := Lib.hid oc; have HBC := Lib.hid (Below.next hBB bc); (have c_l0 : w.heap.size < wc.heap.size := by have := HBC.out.size; omega); (have c_l1 : w.heap.size + 1 < wc.heap.size := by have := HBC.out.size; omega); (have c_r0 := (KR.out _ HBC.out).1); (have c_r1 := (KR.out _ HBC.out).2.1); (have c_r2 := (KR.out _ HBC.out).2.2); (have c_o0 := (KO.out _ HBC.out).here.cell 0 _ rfl); (have c_o1 := (KO.out _ HBC.out).here.cell 1 _ rfl); (have c_o2 := (KO.out _ HBC.out).here.cell 2 _ rfl); (have c_f0 := Lib.frozen_of_heap (KO.out _ HBC.out).here 0); (have c_f1 := Lib.frozen_of_heap (KO.out _ HBC.out).here 1); (have c_f2 := Lib.frozen_of_heap (KO.out _ HBC.out).here 2); clear oc hBB))
    all_goals
      have HR := Lib.hid (newQb_ret (x := (negS r.1, r.2)) (b := true) (KO.out _ HBE.out).here HOC3.out (by have h := HOE.out; simp only [Nat.zero_add, List.nil_append] at h; exact h) (by have h := HAP.out; simp only [Nat.zero_add] at h; exact h) (Nat.le_trans bb1.size (by first | exact HB0.out.size | exact HB1L.out.size)) bb1.size (Nat.le_add_right _ 1) (BBF.out _ HBE.out))
      clear HOE HOC3 HAP HBE HBC HOC HB0 HB1L LIT ODc KO KR BBF OQr OUr ODr OSr
      go_wp2
      refine bodyPost_ret (v := .tuple #[.agg #[.bool _, .slice Ac _ cc, .slice _ _ cap], .bool true]) (by simp [results, Tryz.results79, go_sem, e_o0, e_o1, e_o2]; exact ⟨rfl, rfl, rfl, rfl⟩) rfl ?_
      rw [HV.out]
      exact HR.out
  · have okr' : okQ r = false := by simpa using okr
    have HV := Lib.hid (show negQ r = (zeroQ, false) by unfold negQ; rw [if_neg okr])
    rw [okr']
    clear okr okr'
    have cz0 := ko.here.cell 0 _ rfl
    have fz0 := Lib.frozen_of_heap ko.here 0
    have cz1 := ko.here.cell 1 _ rfl
    have fz1 := Lib.frozen_of_heap ko.here 1
    have cz2 := ko.here.cell 2 _ rfl
    have fz2 := Lib.frozen_of_heap ko.here 2
    go_wp2
    refine bodyPost_ret (v := .tuple #[.agg #[.bool false, .slice none 0 0, .slice none 0 0], .bool false]) (by simp [results, Tryz.results79, go_sem, cz0, cz1, cz2]) rfl ?_
    rw [HV.out]
    first | exact newQb_zero _ bb1 | exact newQb_zero _ (below_set3 bb1 (by omega))
end Go.Proofs.YtofehcpapdlcnabGreatDoor

namespace Go.Proofs.YtofehcpapdlcnabGreatDoor
open Go.RowKit

set_option maxHeartbeats 1000000 in
set_option maxRecDepth 100000 in
theorem l06Away_0 (vq vr vd : Value) (neg : Bool) (Q R D : Nat) (w : World) (_ : (limbs Q).length ≤ 50) (hr : (limbs R).length ≤ 18) (hd : (limbs D).length ≤ 18) (oq : OwnI vq (limbs Q) w) (or_ : OwnI vr (limbs R) w) (od : OwnI vd (limbs D) w) :
    Calls Tryz.prog 111 #[.bool neg, vq, vr, vd, .int .i64 0] w (Postb (awayB neg Q R D 0) w) := by
  obtain ⟨Aq, cq, rfl⟩ := own_len oq
  obtain ⟨Ar, cr, rfl⟩ := own_len or_
  obtain ⟨Ad, cd, rfl⟩ := own_len od
  have HOQ := Lib.hid oq
  have HOR := Lib.hid or_
  have HOD := Lib.hid od
  have HTW := Lib.hid (twice_len hr)
  obtain ⟨c, hc⟩ : ∃ c, cmpI ((R : Int) + R + 0) D = c := ⟨_, rfl⟩
  have HC := Lib.hid hc
  have HA := Lib.hid (away_cmp neg Q R D hc)
  have h3 : c = -1 ∨ c = 0 ∨ c = 1 := by rw [← hc]; exact cmp_three _ _
  clear hc oq or_ od
  go_enter Tryz.func111, Tryz.ntmps111
  go_wp2_with fail
  refine (specAdd_any _ _ (limbs R) (limbs R) 0 _ 0 _ _ (by omega) (by omega) (Nat.le_refl _) (Nat.le_refl _) (limbs_digN R) (limbs_digN R) HOR.out.row HOR.out.row).mono ?_
  rintro e w1 ⟨v1, rfl, o1, b1⟩
  obtain ⟨A1, c1, rfl⟩ := own_len o1
  have HO1 := Lib.hid o1
  clear o1
  go_wp2_with fail
  refine (specCmp_any _ _ (addL (limbs R) (limbs R) 0) (limbs D) _ _ _ _ _ (by have := HTW.out.1; omega) (by omega) ⟨HTW.out.2.1, HTW.out.2.2.1⟩ ⟨limbs_digN D, limbs_lastN D⟩ (Row.of_own HO1.out) (HOD.out.belowI b1).row).mono ?_
  rintro e w2 ⟨rfl, q, rfl⟩
  rw [HTW.out.2.2.2, limbs_val, HC.out]
  have bb := below_drewN b1 q
  clear h3
  go_wp2
  go_ret
  exact ⟨ret_bool (rfl), bb⟩
set_option maxHeartbeats 1000000 in
set_option maxRecDepth 100000 in
theorem l06Away_1 (vq vr vd : Value) (neg : Bool) (Q R D : Nat) (w : World) (_ : (limbs Q).length ≤ 50) (hr : (limbs R).length ≤ 18) (hd : (limbs D).length ≤ 18) (oq : OwnI vq (limbs Q) w) (or_ : OwnI vr (limbs R) w) (od : OwnI vd (limbs D) w) :
    Calls Tryz.prog 111 #[.bool neg, vq, vr, vd, .int .i64 1] w (Postb (awayB neg Q R D 1) w) := by
  obtain ⟨Aq, cq, rfl⟩ := own_len oq
  obtain ⟨Ar, cr, rfl⟩ := own_len or_
  obtain ⟨Ad, cd, rfl⟩ := own_len od
  have HOQ := Lib.hid oq
  have HOR := Lib.hid or_
  have HOD := Lib.hid od
  have HTW := Lib.hid (twice_len hr)
  obtain ⟨c, hc⟩ : ∃ c, cmpI ((R : Int) + R + 0) D = c := ⟨_, rfl⟩
  have HC := Lib.hid hc
  have HA := Lib.hid (away_cmp neg Q R D hc)
  have h3 : c = -1 ∨ c = 0 ∨ c = 1 := by rw [← hc]; exact cmp_three _ _
  clear hc oq or_ od
  go_enter Tryz.func111, Tryz.ntmps111
  go_wp2_with fail
  refine (specAdd_any _ _ (limbs R) (limbs R) 0 _ 0 _ _ (by omega) (by omega) (Nat.le_refl _) (Nat.le_refl _) (limbs_digN R) (limbs_digN R) HOR.out.row HOR.out.row).mono ?_
  rintro e w1 ⟨v1, rfl, o1, b1⟩
  obtain ⟨A1, c1, rfl⟩ := own_len o1
  have HO1 := Lib.hid o1
  clear o1
  go_wp2_with fail
  refine (specCmp_any _ _ (addL (limbs R) (limbs R) 0) (limbs D) _ _ _ _ _ (by have := HTW.out.1; omega) (by omega) ⟨HTW.out.2.1, HTW.out.2.2.1⟩ ⟨limbs_digN D, limbs_lastN D⟩ (Row.of_own HO1.out) (HOD.out.belowI b1).row).mono ?_
  rintro e w2 ⟨rfl, q, rfl⟩
  rw [HTW.out.2.2.2, limbs_val, HC.out]
  have bb := below_drewN b1 q
  clear h3
  go_wp2
  go_ret
  exact ⟨ret_bool (rfl), bb⟩
set_option maxHeartbeats 1000000 in
set_option maxRecDepth 100000 in
theorem l06Away_2 (vq vr vd : Value) (neg : Bool) (Q R D : Nat) (w : World) (_ : (limbs Q).length ≤ 50) (hr : (limbs R).length ≤ 18) (hd : (limbs D).length ≤ 18) (oq : OwnI vq (limbs Q) w) (or_ : OwnI vr (limbs R) w) (od : OwnI vd (limbs D) w) :
    Calls Tryz.prog 111 #[.bool neg, vq, vr, vd, .int .i64 2] w (Postb (awayB neg Q R D 2) w) := by
  obtain ⟨Aq, cq, rfl⟩ := own_len oq
  obtain ⟨Ar, cr, rfl⟩ := own_len or_
  obtain ⟨Ad, cd, rfl⟩ := own_len od
  have HOQ := Lib.hid oq
  have HOR := Lib.hid or_
  have HOD := Lib.hid od
  have HTW := Lib.hid (twice_len hr)
  obtain ⟨c, hc⟩ : ∃ c, cmpI ((R : Int) + R + 0) D = c := ⟨_, rfl⟩
  have HC := Lib.hid hc
  have HA := Lib.hid (away_cmp neg Q R D hc)
  have h3 : c = -1 ∨ c = 0 ∨ c = 1 := by rw [← hc]; exact cmp_three _ _
  clear hc oq or_ od
  go_enter Tryz.func111, Tryz.ntmps111
  go_wp2_with fail
  refine (specAdd_any _ _ (limbs R) (limbs R) 0 _ 0 _ _ (by omega) (by omega) (Nat.le_refl _) (Nat.le_refl _) (limbs_digN R) (limbs_digN R) HOR.out.row HOR.out.row).mono ?_
  rintro e w1 ⟨v1, rfl, o1, b1⟩
  obtain ⟨A1, c1, rfl⟩ := own_len o1
  have HO1 := Lib.hid o1
  clear o1
  go_wp2_with fail
  refine (specCmp_any _ _ (addL (limbs R) (limbs R) 0) (limbs D) _ _ _ _ _ (by have := HTW.out.1; omega) (by omega) ⟨HTW.out.2.1, HTW.out.2.2.1⟩ ⟨limbs_digN D, limbs_lastN D⟩ (Row.of_own HO1.out) (HOD.out.belowI b1).row).mono ?_
  rintro e w2 ⟨rfl, q, rfl⟩
  rw [HTW.out.2.2.2, limbs_val, HC.out]
  have bb := below_drewN b1 q
  clear h3
  go_wp2
  go_ret
  exact ⟨ret_bool (rfl), bb⟩
set_option maxHeartbeats 1000000 in
set_option maxRecDepth 100000 in
theorem l06Away_3 (vq vr vd : Value) (neg : Bool) (Q R D : Nat) (w : World) (_ : (limbs Q).length ≤ 50) (hr : (limbs R).length ≤ 18) (hd : (limbs D).length ≤ 18) (oq : OwnI vq (limbs Q) w) (or_ : OwnI vr (limbs R) w) (od : OwnI vd (limbs D) w) :
    Calls Tryz.prog 111 #[.bool neg, vq, vr, vd, .int .i64 3] w (Postb (awayB neg Q R D 3) w) := by
  obtain ⟨Aq, cq, rfl⟩ := own_len oq
  obtain ⟨Ar, cr, rfl⟩ := own_len or_
  obtain ⟨Ad, cd, rfl⟩ := own_len od
  have HOQ := Lib.hid oq
  have HOR := Lib.hid or_
  have HOD := Lib.hid od
  have HTW := Lib.hid (twice_len hr)
  obtain ⟨c, hc⟩ : ∃ c, cmpI ((R : Int) + R + 0) D = c := ⟨_, rfl⟩
  have HC := Lib.hid hc
  have HA := Lib.hid (away_cmp neg Q R D hc)
  have h3 : c = -1 ∨ c = 0 ∨ c = 1 := by rw [← hc]; exact cmp_three _ _
  clear hc oq or_ od
  go_enter Tryz.func111, Tryz.ntmps111
  go_wp2_with fail
  refine (specAdd_any _ _ (limbs R) (limbs R) 0 _ 0 _ _ (by omega) (by omega) (Nat.le_refl _) (Nat.le_refl _) (limbs_digN R) (limbs_digN R) HOR.out.row HOR.out.row).mono ?_
  rintro e w1 ⟨v1, rfl, o1, b1⟩
  obtain ⟨A1, c1, rfl⟩ := own_len o1
  have HO1 := Lib.hid o1
  clear o1
  go_wp2_with fail
  refine (specCmp_any _ _ (addL (limbs R) (limbs R) 0) (limbs D) _ _ _ _ _ (by have := HTW.out.1; omega) (by omega) ⟨HTW.out.2.1, HTW.out.2.2.1⟩ ⟨limbs_digN D, limbs_lastN D⟩ (Row.of_own HO1.out) (HOD.out.belowI b1).row).mono ?_
  rintro e w2 ⟨rfl, q, rfl⟩
  rw [HTW.out.2.2.2, limbs_val, HC.out]
  have bb := below_drewN b1 q
  clear h3
  go_wp2
  go_ret
  exact ⟨ret_bool (rfl), bb⟩
set_option maxHeartbeats 1000000 in
set_option maxRecDepth 100000 in
theorem l06Away_4 (vq vr vd : Value) (neg : Bool) (Q R D : Nat) (w : World) (_ : (limbs Q).length ≤ 50) (hr : (limbs R).length ≤ 18) (hd : (limbs D).length ≤ 18) (oq : OwnI vq (limbs Q) w) (or_ : OwnI vr (limbs R) w) (od : OwnI vd (limbs D) w) :
    Calls Tryz.prog 111 #[.bool neg, vq, vr, vd, .int .i64 4] w (Postb (awayB neg Q R D 4) w) := by
  obtain ⟨Aq, cq, rfl⟩ := own_len oq
  obtain ⟨Ar, cr, rfl⟩ := own_len or_
  obtain ⟨Ad, cd, rfl⟩ := own_len od
  have HOQ := Lib.hid oq
  have HOR := Lib.hid or_
  have HOD := Lib.hid od
  have HTW := Lib.hid (twice_len hr)
  obtain ⟨c, hc⟩ : ∃ c, cmpI ((R : Int) + R + 0) D = c := ⟨_, rfl⟩
  have HC := Lib.hid hc
  have HA := Lib.hid (away_cmp neg Q R D hc)
  have h3 : c = -1 ∨ c = 0 ∨ c = 1 := by rw [← hc]; exact cmp_three _ _
  clear hc oq or_ od
  go_enter Tryz.func111, Tryz.ntmps111
  go_wp2_with fail
  refine (specAdd_any _ _ (limbs R) (limbs R) 0 _ 0 _ _ (by omega) (by omega) (Nat.le_refl _) (Nat.le_refl _) (limbs_digN R) (limbs_digN R) HOR.out.row HOR.out.row).mono ?_
  rintro e w1 ⟨v1, rfl, o1, b1⟩
  obtain ⟨A1, c1, rfl⟩ := own_len o1
  have HO1 := Lib.hid o1
  clear o1
  go_wp2_with fail
  refine (specCmp_any _ _ (addL (limbs R) (limbs R) 0) (limbs D) _ _ _ _ _ (by have := HTW.out.1; omega) (by omega) ⟨HTW.out.2.1, HTW.out.2.2.1⟩ ⟨limbs_digN D, limbs_lastN D⟩ (Row.of_own HO1.out) (HOD.out.belowI b1).row).mono ?_
  rintro e w2 ⟨rfl, q, rfl⟩
  rw [HTW.out.2.2.2, limbs_val, HC.out]
  have bb := below_drewN b1 q
  clear h3
  go_wp2
  go_ret
  exact ⟨ret_bool HA.out.1.symm, bb⟩
set_option maxHeartbeats 1000000 in
set_option maxRecDepth 100000 in
theorem l06Away_5 (vq vr vd : Value) (neg : Bool) (Q R D : Nat) (w : World) (_ : (limbs Q).length ≤ 50) (hr : (limbs R).length ≤ 18) (hd : (limbs D).length ≤ 18) (oq : OwnI vq (limbs Q) w) (or_ : OwnI vr (limbs R) w) (od : OwnI vd (limbs D) w) :
    Calls Tryz.prog 111 #[.bool neg, vq, vr, vd, .int .i64 5] w (Postb (awayB neg Q R D 5) w) := by
  obtain ⟨Aq, cq, rfl⟩ := own_len oq
  obtain ⟨Ar, cr, rfl⟩ := own_len or_
  obtain ⟨Ad, cd, rfl⟩ := own_len od
  have HOQ := Lib.hid oq
  have HOR := Lib.hid or_
  have HOD := Lib.hid od
  have HTW := Lib.hid (twice_len hr)
  obtain ⟨c, hc⟩ : ∃ c, cmpI ((R : Int) + R + 0) D = c := ⟨_, rfl⟩
  have HC := Lib.hid hc
  have HA := Lib.hid (away_cmp neg Q R D hc)
  have h3 : c = -1 ∨ c = 0 ∨ c = 1 := by rw [← hc]; exact cmp_three _ _
  clear hc oq or_ od
  go_enter Tryz.func111, Tryz.ntmps111
  go_wp2_with fail
  refine (specAdd_any _ _ (limbs R) (limbs R) 0 _ 0 _ _ (by omega) (by omega) (Nat.le_refl _) (Nat.le_refl _) (limbs_digN R) (limbs_digN R) HOR.out.row HOR.out.row).mono ?_
  rintro e w1 ⟨v1, rfl, o1, b1⟩
  obtain ⟨A1, c1, rfl⟩ := own_len o1
  have HO1 := Lib.hid o1
  clear o1
  go_wp2_with fail
  refine (specCmp_any _ _ (addL (limbs R) (limbs R) 0) (limbs D) _ _ _ _ _ (by have := HTW.out.1; omega) (by omega) ⟨HTW.out.2.1, HTW.out.2.2.1⟩ ⟨limbs_digN D, limbs_lastN D⟩ (Row.of_own HO1.out) (HOD.out.belowI b1).row).mono ?_
  rintro e w2 ⟨rfl, q, rfl⟩
  rw [HTW.out.2.2.2, limbs_val, HC.out]
  have bb := below_drewN b1 q
  clear h3
  go_wp2
  go_ret
  exact ⟨ret_bool HA.out.2.1.symm, bb⟩
set_option maxHeartbeats 1000000 in
set_option maxRecDepth 100000 in
theorem l06Away_6 (vq vr vd : Value) (neg : Bool) (Q R D : Nat) (w : World) (hq : (limbs Q).length ≤ 50) (hr : (limbs R).length ≤ 18) (hd : (limbs D).length ≤ 18) (oq : OwnI vq (limbs Q) w) (or_ : OwnI vr (limbs R) w) (od : OwnI vd (limbs D) w) :
    Calls Tryz.prog 111 #[.bool neg, vq, vr, vd, .int .i64 6] w (Postb (awayB neg Q R D 6) w) := by
  obtain ⟨Aq, cq, rfl⟩ := own_len oq
  obtain ⟨Ar, cr, rfl⟩ := own_len or_
  obtain ⟨Ad, cd, rfl⟩ := own_len od
  have HOQ := Lib.hid oq
  have HOR := Lib.hid or_
  have HOD := Lib.hid od
  have HTW := Lib.hid (twice_len hr)
  obtain ⟨c, hc⟩ : ∃ c, cmpI ((R : Int) + R + 0) D = c := ⟨_, rfl⟩
  have HC := Lib.hid hc
  have HA := Lib.hid (away_cmp neg Q R D hc)
  have h3 : c = -1 ∨ c = 0 ∨ c = 1 := by rw [← hc]; exact cmp_three _ _
  clear hc oq or_ od
  go_enter Tryz.func111, Tryz.ntmps111
  go_wp2_with fail
  refine (specAdd_any _ _ (limbs R) (limbs R) 0 _ 0 _ _ (by omega) (by omega) (Nat.le_refl _) (Nat.le_refl _) (limbs_digN R) (limbs_digN R) HOR.out.row HOR.out.row).mono ?_
  rintro e w1 ⟨v1, rfl, o1, b1⟩
  obtain ⟨A1, c1, rfl⟩ := own_len o1
  have HO1 := Lib.hid o1
  clear o1
  go_wp2_with fail
  refine (specCmp_any _ _ (addL (limbs R) (limbs R) 0) (limbs D) _ _ _ _ _ (by have := HTW.out.1; omega) (by omega) ⟨HTW.out.2.1, HTW.out.2.2.1⟩ ⟨limbs_digN D, limbs_lastN D⟩ (Row.of_own HO1.out) (HOD.out.belowI b1).row).mono ?_
  rintro e w2 ⟨rfl, q, rfl⟩
  rw [HTW.out.2.2.2, limbs_val, HC.out]
  have bb := below_drewN b1 q
  rcases h3 with rfl | rfl | rfl
  · go_wp2
    go_ret
    exact ⟨ret_bool (HA.out.2.2.trans (by simp)).symm, bb⟩
  · have he : decide (Q % 2 = 1) = !decide (Q % 2 = 0) := by rcases Nat.mod_two_eq_zero_or_one Q with h | h <;> rw [h] <;> rfl
    have HV := Lib.hid (show awayB neg Q R D 6 = !decide (Q % 2 = 0) by rw [HA.out.2.2, he]; rfl)
    clear he HA
    go_wp2_with fail
    refine (specNatEven_any _ (limbs Q) 0 _ _ (by omega) (HOQ.out.belowI (below_drewN b1 q)).row).mono ?_
    rintro e w3 ⟨rfl, rfl⟩
    rw [even_limbs hq]
    generalize decide (Q % 2 = 0) = b at *
    cases b
    · go_wp2
      go_ret
      exact ⟨ret_bool HV.out.symm, bb⟩
    · go_wp2
      go_ret
      exact ⟨ret_bool HV.out.symm, bb⟩
  · go_wp2
    go_ret
    exact ⟨ret_bool (HA.out.2.2.trans (by simp)).symm, bb⟩
theorem l06Away_any (vq vr vd : Value) (neg : Bool) (Q R D : Nat) (w : World) (hq : (limbs Q).length ≤ 50) (hr : (limbs R).length ≤ 18) (hd : (limbs D).length ≤ 18) (oq : OwnI vq (limbs Q) w) (or_ : OwnI vr (limbs R) w) (od : OwnI vd (limbs D) w) (m : Int) (hm : modeB m = true) :
    Calls Tryz.prog 111 #[.bool neg, vq, vr, vd, .int .i64 m] w (Postb (awayB neg Q R D m) w) := by
  rcases modeB_cases hm with rfl | rfl | rfl | rfl | rfl | rfl | rfl
  · exact l06Away_0 vq vr vd neg Q R D w hq hr hd oq or_ od
  · exact l06Away_1 vq vr vd neg Q R D w hq hr hd oq or_ od
  · exact l06Away_2 vq vr vd neg Q R D w hq hr hd oq or_ od
  · exact l06Away_3 vq vr vd neg Q R D w hq hr hd oq or_ od
  · exact l06Away_4 vq vr vd neg Q R D w hq hr hd oq or_ od
  · exact l06Away_5 vq vr vd neg Q R D w hq hr hd oq or_ od
  · exact l06Away_6 vq vr vd neg Q R D w hq hr hd oq or_ od
set_option maxHeartbeats 2000000 in
set_option maxRecDepth 100000 in
theorem l06Round_any (vr : Value) (r : QI) (m : Int) (w : World) (ok : okQ r = true) (hm : modeB m = true) (hr : OwnQ vr r w) :
    Calls Tryz.prog 77 #[vr, .int .i64 m] w (NewV (fun u => OwnS u (roundS r m)) w) := by
  have Hr := Lib.hid hr
  obtain ⟨Ar, cr, Br, dr, rfl⟩ := ownQ_form hr
  have OQr := Lib.hid (show ∀ W, Below w.heap.size w W → OwnQ (.agg #[.bool r.1.1, .slice Ar r.1.2.length cr, .slice Br r.2.length dr]) r W from fun W hb => OwnQ.below Hr.out hb)
  have OUr := Lib.hid (show ∀ W, Below w.heap.size w W → OwnI (.slice Ar r.1.2.length cr) r.1.2 W from fun W hb => (ownQ_open (OQr.out W hb)).2.1)
  have ODr := Lib.hid (show ∀ W, Below w.heap.size w W → OwnI (.slice Br r.2.length dr) r.2 W from fun W hb => (ownQ_open (OQr.out W hb)).2.2.1)
  have OSr := Lib.hid (show ∀ W, Below w.heap.size w W → OwnS (.agg #[.bool r.1.1, .slice Ar r.1.2.length cr]) r.1 W from fun W hb => OwnS.mk (OUr.out W hb))
  clear hr
  have HP := Lib.hid (parts_of ok)
  have HOK := Lib.hid ok
  have HM := Lib.hid hm
  clear ok hm
  have bb0 : Below w.heap.size w ((w.alloc (.cells #[.bool r.1.1, .slice Ar r.1.2.length cr, .slice Br r.2.length dr] 63)).alloc (.cells #[.bool false, .slice none 0 0] 29)) := below_al (below_al (Below.refl _ _) _) _
  have kr := (box_new w #[.bool r.1.1, .slice Ar r.1.2.length cr, .slice Br r.2.length dr] 63).below (below_al (Below.refl _ _) (.cells #[.bool false, .slice none 0 0] 29))
  have ko := (box_new (w.alloc (.cells #[.bool r.1.1, .slice Ar r.1.2.length cr, .slice Br r.2.length dr] 63)) #[.bool false, .slice none 0 0] 29)
  rw [show (w.alloc (.cells #[.bool r.1.1, .slice Ar r.1.2.length cr, .slice Br r.2.length dr] 63)).heap.size = w.heap.size + 1 by simp] at ko
  have HKO := Lib.hid (ko.lt (w.heap.size + 1) (by simp))
  obtain ⟨Q, hQ⟩ : ∃ Q, topN r / denQ r = Q := ⟨_, rfl⟩
  obtain ⟨R, hR⟩ : ∃ R, topN r % denQ r = R := ⟨_, rfl⟩
  have EQ := Lib.hid hQ
  have ER := Lib.hid hR
  have hql : (limbs Q).length ≤ 18 := by rw [← hQ]; exact quot_len HOK.out
  have hrl : (limbs R).length ≤ 18 := by rw [← hR]; exact rest_len HOK.out
  have hnl := HP.out.n50
  have hdl := HP.out.d50
  have hdv : ∀ W, Below w.heap.size w W → Calls Tryz.prog 109 #[.slice Ar r.1.2.length cr, .slice Br r.2.length dr] W (TwoRows (limbs Q) (limbs R) W) := fun W hb => by
    have h := specDiv_any _ _ r.1.2 r.2 0 _ 0 _ W (by omega) (by omega) (okQ_parts HOK.out).2.2.1 (Nat.le_refl _) (Nat.le_refl _) (natOk_parts (okS_parts HP.out.okn).1).1 ⟨(natOk_parts HP.out.okd).1, (natOk_parts HP.out.okd).2.2⟩ (OUr.out _ hb).row (ODr.out _ hb).row
    rw [quot_of HOK.out, rest_of HOK.out, hQ, hR] at h
    exact h
  have HDV := Lib.hid hdv
  clear hdv hQ hR
  go_enter Tryz.func77, Tryz.ntmps77
  have kr_c0 := kr.here.cell 0 _ rfl
  have kr_c1 := kr.here.cell 1 _ rfl
  have kr_c2 := kr.here.cell 2 _ rfl
  go_wp2_with fail
  clear kr_c0 kr_c1 kr_c2
  refine (HDV.out _ bb0).mono ?_
  rintro e w1 ⟨vq, vr_, rfl, oq0, or0, hqr, b1⟩
  obtain ⟨Aq, cq, rfl⟩ := own_len oq0
  obtain ⟨As, cs, rfl⟩ := own_len or0
  have oq := own_at' oq0
  have os := own_at' or0
  clear oq0 or0 hqr
  have bb1 := Below.next bb0 b1
  replace kr := kr.below b1
  replace ko := ko.below b1
  by_cases h0 : R = 0
  · have HV := Lib.hid (show mkS r.1.1 (trimL (limbs Q)) = roundS r m by rw [trimL_limbs, ← EQ.out]; exact round_plain (.inl (ER.out.trans h0)))
    subst h0
    rw [show (limbs 0).length = 0 by rw [limbs_zero]; rfl] at *
    clear os
    have kr_c0 := kr.here.cell 0 _ rfl
    have kr_c1 := kr.here.cell 1 _ rfl
    have kr_c2 := kr.here.cell 2 _ rfl
    go_wp2_with fail
    clear kr_c0 kr_c1 kr_c2
    refine ((l04Make_any _ _ (limbs Q) _ _ (by omega) (At.here oq)).mono fun _ _ h => roundVS_eq HV.out (NewS.newV h)).mono ?_
    rintro e w2 ⟨uf, Sf, rfl, of, lf, b2⟩
    obtain ⟨Af, cf, rfl⟩ := ownS_form of.here
    have bb2 := Below.next bb1 b2
    replace kr := kr.below b2
    replace ko := ko.below b2
    replace oq := oq.below b2
    have HW := Lib.hid (newS_at (r := w.heap.size + 1) of lf (by have := HKO.out; have := b1.size; omega) (by omega) bb2)
    have cz0 := ko.here.cell 0 _ rfl
    have fz0 := Lib.frozen_of_heap ko.here 0
    have cz1 := ko.here.cell 1 _ rfl
    have fz1 := Lib.frozen_of_heap ko.here 1
    clear of ko
    go_wp2
    refine bodyPost_ret (v := .agg #[.bool _, .slice Af _ cf]) (by simp [results, Tryz.results77, go_sem, cz0, cz1]; exact ⟨rfl, rfl⟩) rfl ?_
    exact HW.out
  · have hlen : ((limbs R).length : Int) > 0 := by have := mt (limbs_zero_iff R).1 h0; omega
    have H0 := Lib.hid h0
    clear h0
    have kr_c0 := kr.here.cell 0 _ rfl
    have kr_c1 := kr.here.cell 1 _ rfl
    have kr_c2 := kr.here.cell 2 _ rfl
    go_wp2_with fail
    clear kr_c0 kr_c1 kr_c2
    refine (l06Away_any _ _ _ r.1.1 Q R (denQ r) _ (by omega) hrl (by have := HP.out.d50; have e := HP.out.d; rw [← e]; exact (okQ_parts HOK.out).2.2.2.1) oq.here os.here (ownI_eq (ODr.out _ bb1) HP.out.d) m HM.out).mono ?_
    rintro e w2 ⟨rfl, b2⟩
    have bb2 := Below.next bb1 b2
    replace kr := kr.below b2
    replace ko := ko.below b2
    replace oq := oq.below b2
    replace os := os.below b2
    by_cases ha : awayB r.1.1 Q R (denQ r) m = true
    · have HV := Lib.hid (show mkS r.1.1 (trimL (addL (limbs Q) [1] 0)) = roundS r m by rw [one_more, ← EQ.out]; exact round_more (by rw [ER.out]; exact H0.out) (by rw [EQ.out, ER.out]; exact ha))
      rw [ha]
      clear ha
      have o1 := World.ownsRow_lit (base := w2.heap.size) (e := 3) (size := 1) w2 #[.int .i64 1] 1 (Nat.le_refl _) (by unfold maxLen; omega) rfl
      have HO1 := Lib.hid o1
      clear o1
      have kt := box_new (w2) #[.int .i64 1] 3
      have alt := below_al (Below.refl (w2).heap.size (w2)) (.cells #[.int .i64 1] 3)
      have bbt := Below.next bb2 alt
      replace kr := kr.below alt
      replace ko := ko.below alt
      replace oq := oq.below alt
      replace os := os.below alt
      go_wp2_with fail
      refine (specAdd_any _ _ (limbs Q) [1] 0 _ _ _ _ (by omega) (by decide) (Nat.le_refl _) (Nat.le_refl _) (limbs_digN Q) (by rw [← one_limbs]; exact limbs_digN 1) oq.here.row (Row.of_own HO1.out)).mono ?_
      rintro e w3 ⟨vs, rfl, osum0, b3⟩
      obtain ⟨Az, cz, rfl⟩ := own_len osum0
      have osum := own_at' osum0
      clear osum0
      have bb3 := Below.next bbt b3
      replace kr := kr.below b3
      replace ko := ko.below b3
      replace oq := oq.below b3
      replace os := os.below b3
      replace kt := kt.below b3
      have hsl : (addL (limbs Q) [1] 0).length ≤ 1048576 := by have := (addL_val (limbs Q) [1] 0 (limbs_digN Q) (by rw [← one_limbs]; exact limbs_digN 1) (by omega) (by omega)).2.2; simp only [List.length_cons, List.length_nil] at this; omega
      clear oq os kt
      have kr_c0 := kr.here.cell 0 _ rfl
      have kr_c1 := kr.here.cell 1 _ rfl
      have kr_c2 := kr.here.cell 2 _ rfl
      go_wp2_with fail
      clear kr_c0 kr_c1 kr_c2
      refine ((l04Make_any _ _ (addL (limbs Q) [1] 0) _ _ (hsl) (At.here osum)).mono fun _ _ h => roundVS_eq HV.out (NewS.newV h)).mono ?_
      rintro e w4 ⟨uf, Sf, rfl, of, lf, b4⟩
      obtain ⟨Af, cf, rfl⟩ := ownS_form of.here
      have bb4 := Below.next bb3 b4
      replace kr := kr.below b4
      replace ko := ko.below b4
      replace osum := osum.below b4
      have HW := Lib.hid (newS_at (r := w.heap.size + 1) of lf (by have := HKO.out; have := b1.size; have := b2.size; have := b3.size; have := alt.size; omega) (by omega) bb4)
      have cz0 := ko.here.cell 0 _ rfl
      have fz0 := Lib.frozen_of_heap ko.here 0
      have cz1 := ko.here.cell 1 _ rfl
      have fz1 := Lib.frozen_of_heap ko.here 1
      clear of ko
      go_wp2
      refine bodyPost_ret (v := .agg #[.bool _, .slice Af _ cf]) (by simp [results, Tryz.results77, go_sem, cz0, cz1]; exact ⟨rfl, rfl⟩) rfl ?_
      exact HW.out
    · have ha' : awayB r.1.1 Q R (denQ r) m = false := by simpa using ha
      have HV := Lib.hid (show mkS r.1.1 (trimL (limbs Q)) = roundS r m by rw [trimL_limbs, ← EQ.out]; exact round_plain (.inr (by rw [EQ.out, ER.out]; exact ha')))
      rw [ha']
      clear ha ha' os
      have kr_c0 := kr.here.cell 0 _ rfl
      have kr_c1 := kr.here.cell 1 _ rfl
      have kr_c2 := kr.here.cell 2 _ rfl
      go_wp2_with fail
      clear kr_c0 kr_c1 kr_c2
      refine ((l04Make_any _ _ (limbs Q) _ _ (by omega) (At.here oq)).mono fun _ _ h => roundVS_eq HV.out (NewS.newV h)).mono ?_
      rintro e w3 ⟨uf, Sf, rfl, of, lf, b3⟩
      obtain ⟨Af, cf, rfl⟩ := ownS_form of.here
      have bb3 := Below.next bb2 b3
      replace kr := kr.below b3
      replace ko := ko.below b3
      replace oq := oq.below b3
      have HW := Lib.hid (newS_at (r := w.heap.size + 1) of lf (by have := HKO.out; have := b1.size; have := b2.size; omega) (by omega) bb3)
      have cz0 := ko.here.cell 0 _ rfl
      have fz0 := Lib.frozen_of_heap ko.here 0
      have cz1 := ko.here.cell 1 _ rfl
      have fz1 := Lib.frozen_of_heap ko.here 1
      clear of ko
      go_wp2
      refine bodyPost_ret (v := .agg #[.bool _, .slice Af _ cf]) (by simp [results, Tryz.results77, go_sem, cz0, cz1]; exact ⟨rfl, rfl⟩) rfl ?_
      exact HW.out
set_option maxHeartbeats 2000000 in
set_option maxRecDepth 100000 in
theorem specRatRound_any (vr : Value) (r : QI) (m : Int) (w : World) (hz : szQ r ≤ 1048576) (hr : OwnQ vr r w) :
    Calls Tryz.prog 40 #[vr, .int .i64 m] w (PostSb (roundR r m).1 (roundR r m).2 w) := by
  have Hr := Lib.hid hr
  obtain ⟨Ar, cr, Br, dr, rfl⟩ := ownQ_form hr
  have OQr := Lib.hid (show ∀ W, Below w.heap.size w W → OwnQ (.agg #[.bool r.1.1, .slice Ar r.1.2.length cr, .slice Br r.2.length dr]) r W from fun W hb => OwnQ.below Hr.out hb)
  have OUr := Lib.hid (show ∀ W, Below w.heap.size w W → OwnI (.slice Ar r.1.2.length cr) r.1.2 W from fun W hb => (ownQ_open (OQr.out W hb)).2.1)
  have ODr := Lib.hid (show ∀ W, Below w.heap.size w W → OwnI (.slice Br r.2.length dr) r.2 W from fun W hb => (ownQ_open (OQr.out W hb)).2.2.1)
  have OSr := Lib.hid (show ∀ W, Below w.heap.size w W → OwnS (.agg #[.bool r.1.1, .slice Ar r.1.2.length cr]) r.1 W from fun W hb => OwnS.mk (OUr.out W hb))
  clear hr
  have bb0 : Below w.heap.size w ((w.alloc (.cells #[.bool r.1.1, .slice Ar r.1.2.length cr, .slice Br r.2.length dr] 63)).alloc (.cells #[.bool false, .slice none 0 0] 29)) := below_al (below_al (Below.refl _ _) _) _
  have kr := (box_new w #[.bool r.1.1, .slice Ar r.1.2.length cr, .slice Br r.2.length dr] 63).below (below_al (Below.refl _ _) (.cells #[.bool false, .slice none 0 0] 29))
  have ko := (box_new (w.alloc (.cells #[.bool r.1.1, .slice Ar r.1.2.length cr, .slice Br r.2.length dr] 63)) #[.bool false, .slice none 0 0] 29)
  rw [show (w.alloc (.cells #[.bool r.1.1, .slice Ar r.1.2.length cr, .slice Br r.2.length dr] 63)).heap.size = w.heap.size + 1 by simp] at ko
  have HKO := Lib.hid (ko.lt (w.heap.size + 1) (by simp))
  go_enter Tryz.func40, Tryz.ntmps40
  have kr_c0 := kr.here.cell 0 _ rfl
  have kr_c1 := kr.here.cell 1 _ rfl
  have kr_c2 := kr.here.cell 2 _ rfl
  go_wp2_with fail
  clear kr_c0 kr_c1 kr_c2
  refine (specRatOk_any _ r _ hz (OQr.out _ bb0)).mono ?_
  rintro e w1 ⟨rfl, b1⟩
  have bb1 := Below.next bb0 b1
  replace kr := kr.below b1
  replace ko := ko.below b1
  by_cases ok : okQ r = true
  · rw [ok]
    have HO := Lib.hid ok
    clear ok
    go_wp2_with fail
    refine (l06Mode_any m _).mono ?_
    rintro e w2 ⟨rfl, b2⟩
    have bb2 := Below.next bb1 b2
    replace kr := kr.below b2
    replace ko := ko.below b2
    by_cases hm : modeB m = true
    · rw [hm]
      have HM := Lib.hid hm
      have HV := Lib.hid (show roundR r m = (roundS r m, true) by unfold roundR; rw [if_pos ⟨HO.out, hm⟩])
      clear hm
      have kr_c0 := kr.here.cell 0 _ rfl
      have kr_c1 := kr.here.cell 1 _ rfl
      have kr_c2 := kr.here.cell 2 _ rfl
      go_wp2_with fail
      clear kr_c0 kr_c1 kr_c2
      refine (l06Round_any _ r m _ HO.out HM.out (OQr.out _ bb2)).mono ?_
      rintro e w3 ⟨uf, Sf, rfl, of, lf, b3⟩
      obtain ⟨Af, cf, rfl⟩ := ownS_form of.here
      have bb3 := Below.next bb2 b3
      replace kr := kr.below b3
      replace ko := ko.below b3
      have HW := Lib.hid (newSb_at (b := true) (r := w.heap.size + 1) of lf (by have := HKO.out; have := b1.size; have := b2.size; omega) (by omega) bb3)
      have cz0 := ko.here.cell 0 _ rfl
      have fz0 := Lib.frozen_of_heap ko.here 0
      have cz1 := ko.here.cell 1 _ rfl
      have fz1 := Lib.frozen_of_heap ko.here 1
      clear of ko
      go_wp2
      refine bodyPost_ret (v := .tuple #[.agg #[.bool _, .slice Af _ cf], .bool _]) (by simp [results, Tryz.results40, go_sem, cz0, cz1]; exact ⟨⟨rfl, rfl⟩, rfl⟩) rfl ?_
      rw [HV.out]
      exact HW.out
    · have hm' : modeB m = false := by simpa using hm
      have HV := Lib.hid (show roundR r m = (zeroS, false) by unfold roundR; rw [if_neg (fun h => hm h.2)])
      rw [hm']
      clear hm hm'
      have cz0 := ko.here.cell 0 _ rfl
      have fz0 := Lib.frozen_of_heap ko.here 0
      have cz1 := ko.here.cell 1 _ rfl
      have fz1 := Lib.frozen_of_heap ko.here 1
      go_wp2
      refine bodyPost_ret (v := .tuple #[.agg #[.bool false, .slice none 0 0], .bool false]) (by simp [results, Tryz.results40, go_sem, cz0, cz1]) rfl ?_
      rw [HV.out]
      first | exact newSb_zero _ bb2 | exact newSb_zero _ (below_set2 bb2 (by omega))
  · have ok' : okQ r = false := by simpa using ok
    have HV := Lib.hid (show roundR r m = (zeroS, false) by unfold roundR; rw [if_neg (fun h => ok h.1)])
    rw [ok']
    clear ok ok'
    have cz0 := ko.here.cell 0 _ rfl
    have fz0 := Lib.frozen_of_heap ko.here 0
    have cz1 := ko.here.cell 1 _ rfl
    have fz1 := Lib.frozen_of_heap ko.here 1
    go_wp2
    refine bodyPost_ret (v := .tuple #[.agg #[.bool false, .slice none 0 0], .bool false]) (by simp [results, Tryz.results40, go_sem, cz0, cz1]) rfl ?_
    rw [HV.out]
    first | exact newSb_zero _ bb1 | exact newSb_zero _ (below_set2 bb1 (by omega))
end Go.Proofs.YtofehcpapdlcnabGreatDoor

namespace Go.Proofs.YtofehcpapdlcnabGreatDoor
open Go.RowKit

theorem subN_sz {x N : QI} {b : Bool} (e : negQ x = (N, b)) : szQ N ≤ 1048576 := by
  have e1 : N = (negQ x).1 := by rw [e]
  rw [e1]
  unfold negQ
  split
  · rename_i h
    have h1 := (parts_of h).d50
    have h2 : (negS x.1).2.length ≤ 50 := by unfold negS; split; exact ofZ_len _; exact Nat.zero_le _
    unfold szQ szS szI
    simp only
    omega
  · decide
set_option maxHeartbeats 2000000 in
set_option maxRecDepth 100000 in
theorem specRatSub_any (vr : Value) (vs : Value) (r s : QI) (w : World) (hzr : szQ r ≤ 1048576) (hzs : szQ s ≤ 1048576) (hr : OwnQ vr r w) (hs : OwnQ vs s w) :
    Calls Tryz.prog 114 #[vr, vs] w (PostQb (subQ r s).1 (subQ r s).2 w) := by
  have Hr := Lib.hid hr
  obtain ⟨Ar, cr, Br, dr, rfl⟩ := ownQ_form hr
  have OQr := Lib.hid (show ∀ W, Below w.heap.size w W → OwnQ (.agg #[.bool r.1.1, .slice Ar r.1.2.length cr, .slice Br r.2.length dr]) r W from fun W hb => OwnQ.below Hr.out hb)
  have OUr := Lib.hid (show ∀ W, Below w.heap.size w W → OwnI (.slice Ar r.1.2.length cr) r.1.2 W from fun W hb => (ownQ_open (OQr.out W hb)).2.1)
  have ODr := Lib.hid (show ∀ W, Below w.heap.size w W → OwnI (.slice Br r.2.length dr) r.2 W from fun W hb => (ownQ_open (OQr.out W hb)).2.2.1)
  have OSr := Lib.hid (show ∀ W, Below w.heap.size w W → OwnS (.agg #[.bool r.1.1, .slice Ar r.1.2.length cr]) r.1 W from fun W hb => OwnS.mk (OUr.out W hb))
  clear hr
  have Hs := Lib.hid hs
  obtain ⟨As, cs, Bs, ds, rfl⟩ := ownQ_form hs
  have OQs := Lib.hid (show ∀ W, Below w.heap.size w W → OwnQ (.agg #[.bool s.1.1, .slice As s.1.2.length cs, .slice Bs s.2.length ds]) s W from fun W hb => OwnQ.below Hs.out hb)
  have OUs := Lib.hid (show ∀ W, Below w.heap.size w W → OwnI (.slice As s.1.2.length cs) s.1.2 W from fun W hb => (ownQ_open (OQs.out W hb)).2.1)
  have ODs := Lib.hid (show ∀ W, Below w.heap.size w W → OwnI (.slice Bs s.2.length ds) s.2 W from fun W hb => (ownQ_open (OQs.out W hb)).2.2.1)
  have OSs := Lib.hid (show ∀ W, Below w.heap.size w W → OwnS (.agg #[.bool s.1.1, .slice As s.1.2.length cs]) s.1 W from fun W hb => OwnS.mk (OUs.out W hb))
  clear hs
  have bb0 : Below w.heap.size w (((w.alloc (.cells #[.bool r.1.1, .slice Ar r.1.2.length cr, .slice Br r.2.length dr] 63)).alloc (.cells #[.bool s.1.1, .slice As s.1.2.length cs, .slice Bs s.2.length ds] 63)).alloc (.cells #[.bool false, .slice none 0 0, .slice none 0 0] 63)) := below_al (below_al (below_al (Below.refl _ _) _) _) _
  have kr := (box_new w #[.bool r.1.1, .slice Ar r.1.2.length cr, .slice Br r.2.length dr] 63).below (below_al (below_al (Below.refl _ _) (.cells #[.bool s.1.1, .slice As s.1.2.length cs, .slice Bs s.2.length ds] 63)) (.cells #[.bool false, .slice none 0 0, .slice none 0 0] 63))
  have ks := (box_new (w.alloc (.cells #[.bool r.1.1, .slice Ar r.1.2.length cr, .slice Br r.2.length dr] 63)) #[.bool s.1.1, .slice As s.1.2.length cs, .slice Bs s.2.length ds] 63).below (below_al (Below.refl _ _) (.cells #[.bool false, .slice none 0 0, .slice none 0 0] 63))
  rw [show (w.alloc (.cells #[.bool r.1.1, .slice Ar r.1.2.length cr, .slice Br r.2.length dr] 63)).heap.size = w.heap.size + 1 by simp] at ks
  have ko := (box_new ((w.alloc (.cells #[.bool r.1.1, .slice Ar r.1.2.length cr, .slice Br r.2.length dr] 63)).alloc (.cells #[.bool s.1.1, .slice As s.1.2.length cs, .slice Bs s.2.length ds] 63)) #[.bool false, .slice none 0 0, .slice none 0 0] 63)
  rw [show ((w.alloc (.cells #[.bool r.1.1, .slice Ar r.1.2.length cr, .slice Br r.2.length dr] 63)).alloc (.cells #[.bool s.1.1, .slice As s.1.2.length cs, .slice Bs s.2.length ds] 63)).heap.size = w.heap.size + 1 + 1 by simp] at ko
  obtain ⟨⟨N, bo⟩, hQ⟩ : ∃ q, negQ s = q := ⟨_, rfl⟩
  have EQ := Lib.hid hQ
  have hzN := subN_sz hQ
  have HD := Lib.hid (show subQ r s = if bo = true then addQ r N else (zeroQ, false) by unfold subQ; rw [hQ])
  obtain ⟨Q, hA⟩ : ∃ Q, addQ r N = Q := ⟨_, rfl⟩
  have EA := Lib.hid hA
  rw [hA] at HD
  clear hQ hA
  have HKO := Lib.hid (ko.lt (w.heap.size + 1 + 1) (by simp))
  go_enter Tryz.func114, Tryz.ntmps114
  have ks_c0 := ks.here.cell 0 _ rfl
  have ks_c1 := ks.here.cell 1 _ rfl
  have ks_c2 := ks.here.cell 2 _ rfl
  go_wp2_with fail
  clear ks_c0 ks_c1 ks_c2
  refine (show Calls _ _ _ _ (PostQb N bo _) from (specRatNeg_any _ s _ hzs (OQs.out _ bb0)).mono fun _ _ h => postQb_eq EQ.out h).mono ?_
  rintro e w1 ⟨un, Sn, rfl, on, ln, b1⟩
  obtain ⟨An, cn, Bn, dn, rfl⟩ := ownQ_form on.here
  have bb1 := Below.next bb0 b1
  replace kr := kr.below b1
  replace ks := ks.below b1
  replace ko := ko.below b1
  cases bo with
  | true =>
    have HV := Lib.hid (show subQ r s = Q by rw [HD.out]; rfl)
    clear HD
    have kt := box_new (w1) #[.bool N.1.1, .slice An N.1.2.length cn, .slice Bn N.2.length dn] 63
    have alt := below_al (Below.refl (w1).heap.size (w1)) (.cells #[.bool N.1.1, .slice An N.1.2.length cn, .slice Bn N.2.length dn] 63)
    have bbt := Below.next bb1 alt
    replace kr := kr.below alt
    replace ks := ks.below alt
    replace ko := ko.below alt
    replace on := on.below alt
    have kt_c0 := kt.here.cell 0 _ rfl
    have kt_c1 := kt.here.cell 1 _ rfl
    have kt_c2 := kt.here.cell 2 _ rfl
    have kr_c0 := kr.here.cell 0 _ rfl
    have kr_c1 := kr.here.cell 1 _ rfl
    have kr_c2 := kr.here.cell 2 _ rfl
    go_wp2_with fail
    clear kt_c0 kt_c1 kt_c2 kr_c0 kr_c1 kr_c2
    refine ((specRatAdd_any _ _ r N _ hzr hzN (OQr.out _ bbt) on.here).mono fun _ _ h => postQb_eq EA.out h).mono ?_
    rintro e w2 ⟨uf, Sf, rfl, of, lf, b2⟩
    obtain ⟨Af, cf, Bf, df, rfl⟩ := ownQ_form of.here
    have bb2 := Below.next bbt b2
    replace kr := kr.below b2
    replace ks := ks.below b2
    replace ko := ko.below b2
    replace on := on.below b2
    replace kt := kt.below b2
    clear on kt kr ks
    have HW := Lib.hid (newQb_at (r := w.heap.size + 1 + 1) (b := Q.2) of lf (by have h1 := HKO.out; have h2 := b1.size; have h3 := alt.size; omega) (by omega) bb2)
    have cz0 := ko.here.cell 0 _ rfl
    have fz0 := Lib.frozen_of_heap ko.here 0
    have cz1 := ko.here.cell 1 _ rfl
    have fz1 := Lib.frozen_of_heap ko.here 1
    have cz2 := ko.here.cell 2 _ rfl
    have fz2 := Lib.frozen_of_heap ko.here 2
    clear of ko
    go_wp2
    refine bodyPost_ret (v := .tuple #[.agg #[.bool _, .slice Af _ cf, .slice Bf _ df], .bool _]) (by simp [results, Tryz.results114, go_sem, cz0, cz1, cz2]; exact ⟨⟨rfl, rfl, rfl⟩, rfl⟩) rfl ?_
    rw [HV.out]
    exact HW.out
  | false =>
    have HV := Lib.hid (show subQ r s = (zeroQ, false) by rw [HD.out]; rfl)
    clear HD on
    have kt := box_new (w1) #[.bool N.1.1, .slice An N.1.2.length cn, .slice Bn N.2.length dn] 63
    have alt := below_al (Below.refl (w1).heap.size (w1)) (.cells #[.bool N.1.1, .slice An N.1.2.length cn, .slice Bn N.2.length dn] 63)
    have bbt := Below.next bb1 alt
    replace kr := kr.below alt
    replace ks := ks.below alt
    replace ko := ko.below alt
    have ko_c0 := ko.here.cell 0 _ rfl
    have ko_c1 := ko.here.cell 1 _ rfl
    have ko_c2 := ko.here.cell 2 _ rfl
    have cz0 := ko.here.cell 0 _ rfl
    have fz0 := Lib.frozen_of_heap ko.here 0
    have cz1 := ko.here.cell 1 _ rfl
    have fz1 := Lib.frozen_of_heap ko.here 1
    have cz2 := ko.here.cell 2 _ rfl
    have fz2 := Lib.frozen_of_heap ko.here 2
    go_wp2
    refine bodyPost_ret (v := .tuple #[.agg #[.bool false, .slice none 0 0, .slice none 0 0], .bool false]) (by simp [results, Tryz.results114, go_sem, cz0, cz1, cz2]) rfl ?_
    rw [HV.out]
    first | exact newQb_zero _ bbt | exact newQb_zero _ (below_set3 bbt (by omega))
end Go.Proofs.YtofehcpapdlcnabGreatDoor

namespace Go.Proofs.YtofehcpapdlcnabGreatDoor
open Go.RowKit

set_option maxHeartbeats 4000000 in
set_option maxRecDepth 100000 in
theorem specRatRest_any (vr : Value) (r : QI) (m : Int) (w : World) (hz : szQ r ≤ 1048576) (hr : OwnQ vr r w) :
    Calls Tryz.prog 78 #[vr, .int .i64 m] w (PostSQb (restS r m) (restQ r m) (restB r m) w) := by
  have Hr := Lib.hid hr
  obtain ⟨Ar, cr, Br, dr, rfl⟩ := ownQ_form hr
  have OQr := Lib.hid (show ∀ W, Below w.heap.size w W → OwnQ (.agg #[.bool r.1.1, .slice Ar r.1.2.length cr, .slice Br r.2.length dr]) r W from fun W hb => OwnQ.below Hr.out hb)
  have OUr := Lib.hid (show ∀ W, Below w.heap.size w W → OwnI (.slice Ar r.1.2.length cr) r.1.2 W from fun W hb => (ownQ_open (OQr.out W hb)).2.1)
  have ODr := Lib.hid (show ∀ W, Below w.heap.size w W → OwnI (.slice Br r.2.length dr) r.2 W from fun W hb => (ownQ_open (OQr.out W hb)).2.2.1)
  have OSr := Lib.hid (show ∀ W, Below w.heap.size w W → OwnS (.agg #[.bool r.1.1, .slice Ar r.1.2.length cr]) r.1 W from fun W hb => OwnS.mk (OUr.out W hb))
  clear hr
  have bb0 : Below w.heap.size w (((w.alloc (.cells #[.bool r.1.1, .slice Ar r.1.2.length cr, .slice Br r.2.length dr] 63)).alloc (.cells #[.bool false, .slice none 0 0] 29)).alloc (.cells #[.bool false, .slice none 0 0, .slice none 0 0] 63)) := below_al (below_al (below_al (Below.refl _ _) _) _) _
  have kr := (box_new w #[.bool r.1.1, .slice Ar r.1.2.length cr, .slice Br r.2.length dr] 63).below (below_al (below_al (Below.refl _ _) (.cells #[.bool false, .slice none 0 0] 29)) (.cells #[.bool false, .slice none 0 0, .slice none 0 0] 63))
  have ko := (box_new (w.alloc (.cells #[.bool r.1.1, .slice Ar r.1.2.length cr, .slice Br r.2.length dr] 63)) #[.bool false, .slice none 0 0] 29).below (below_al (Below.refl _ _) (.cells #[.bool false, .slice none 0 0, .slice none 0 0] 63))
  rw [show (w.alloc (.cells #[.bool r.1.1, .slice Ar r.1.2.length cr, .slice Br r.2.length dr] 63)).heap.size = w.heap.size + 1 by simp] at ko
  have kp := (box_new ((w.alloc (.cells #[.bool r.1.1, .slice Ar r.1.2.length cr, .slice Br r.2.length dr] 63)).alloc (.cells #[.bool false, .slice none 0 0] 29)) #[.bool false, .slice none 0 0, .slice none 0 0] 63)
  rw [show ((w.alloc (.cells #[.bool r.1.1, .slice Ar r.1.2.length cr, .slice Br r.2.length dr] 63)).alloc (.cells #[.bool false, .slice none 0 0] 29)).heap.size = w.heap.size + 1 + 1 by simp] at kp
  have HKO := Lib.hid (ko.lt (w.heap.size + 1) (by simp))
  have HKP := Lib.hid (kp.lt (w.heap.size + 1 + 1) (by simp))
  obtain ⟨X, hX⟩ : ∃ X, (roundR r m).1 = X := ⟨_, rfl⟩
  obtain ⟨Y, hY⟩ : ∃ Y, (makeQ X (ofZ 1)).1 = Y := ⟨_, rfl⟩
  obtain ⟨Z, hZ⟩ : ∃ Z, (subQ r Y).1 = Z := ⟨_, rfl⟩
  have zX : szS X ≤ 1048576 := by rw [← hX]; exact roundR_sz r m
  have zY : szQ Y ≤ 1048576 := by rw [← hY]; exact makeQ_szQ _ _
  by_cases hb : okQ r = true ∧ modeB m = true
  · obtain ⟨r1, r2, r3, r4⟩ := rest_all hb.1 hb.2
    have ER := Lib.hid (show roundR r m = (X, true) by rw [r1, ← hX, r1])
    have rp := rest_parts hb.1 m
    have e0 : roundS r m = X := by rw [← hX, r1]
    rw [e0] at rp r3 r4
    rw [hY] at rp r4
    rw [hZ] at r4
    have EM := Lib.hid (show makeQ X (ofZ 1) = (Y, true) by rw [← hY, ← rp.1])
    have ES := Lib.hid (show subQ r Y = (Z, true) by rw [← hZ, ← rp.2])
    have HV := Lib.hid (show restS r m = X ∧ restQ r m = Z ∧ restB r m = true from ⟨r3, r4, r2⟩)
    clear rp e0
    clear hX hY hZ r1 r2 r3 r4 hb
    go_enter Tryz.func78, Tryz.ntmps78
    have kr_c0 := kr.here.cell 0 _ rfl
    have kr_c1 := kr.here.cell 1 _ rfl
    have kr_c2 := kr.here.cell 2 _ rfl
    go_wp2_with fail
    clear kr_c0 kr_c1 kr_c2
    refine ((specRatRound_any _ r m _ hz (OQr.out _ bb0)).mono fun _ _ h => postSb_is ER.out h).mono ?_
    rintro e w1 ⟨ux, Sx, rfl, ox, lx, b1⟩
    obtain ⟨Ax, cx, rfl⟩ := ownS_form ox.here
    have bb1 := Below.next bb0 b1
    replace kr := kr.below b1
    replace ko := ko.below b1
    replace kp := kp.below b1
    have kx := box_new (w1) #[.bool X.1, .slice Ax X.2.length cx] 29
    have alx := below_al (Below.refl (w1).heap.size (w1)) (.cells #[.bool X.1, .slice Ax X.2.length cx] 29)
    have bbx := Below.next bb1 alx
    replace kr := kr.below alx
    replace ko := ko.below alx
    replace kp := kp.below alx
    replace ox := ox.below alx
    have kx_c0 := kx.here.cell 0 _ rfl
    have kx_c1 := kx.here.cell 1 _ rfl
    go_wp2_with fail
    clear kx_c0 kx_c1
    refine ((specRatInt_any _ X _ zX ox.here).mono fun _ _ h => postQb_is EM.out h).mono ?_
    rintro e w2 ⟨uy, Sy, rfl, oy, ly, b2⟩
    obtain ⟨Ay, cy, By, dy, rfl⟩ := ownQ_form oy.here
    have bb2 := Below.next bbx b2
    replace kr := kr.below b2
    replace ko := ko.below b2
    replace kp := kp.below b2
    replace ox := ox.below b2
    replace kx := kx.below b2
    have ky := box_new (w2) #[.bool Y.1.1, .slice Ay Y.1.2.length cy, .slice By Y.2.length dy] 63
    have aly := below_al (Below.refl (w2).heap.size (w2)) (.cells #[.bool Y.1.1, .slice Ay Y.1.2.length cy, .slice By Y.2.length dy] 63)
    have bby := Below.next bb2 aly
    replace kr := kr.below aly
    replace ko := ko.below aly
    replace kp := kp.below aly
    replace ox := ox.below aly
    replace kx := kx.below aly
    replace oy := oy.below aly
    have kr_c0 := kr.here.cell 0 _ rfl
    have kr_c1 := kr.here.cell 1 _ rfl
    have kr_c2 := kr.here.cell 2 _ rfl
    have ky_c0 := ky.here.cell 0 _ rfl
    have ky_c1 := ky.here.cell 1 _ rfl
    have ky_c2 := ky.here.cell 2 _ rfl
    go_wp2_with fail
    clear kr_c0 kr_c1 kr_c2 ky_c0 ky_c1 ky_c2
    refine ((specRatSub_any _ _ r Y _ hz zY (OQr.out _ bby) oy.here).mono fun _ _ h => postQb_is ES.out h).mono ?_
    rintro e w3 ⟨uz, Sz, rfl, oz, lz, b3⟩
    obtain ⟨Az, cz, Bz, dz, rfl⟩ := ownQ_form oz.here
    have bb3 := Below.next bby b3
    replace kr := kr.below b3
    replace ko := ko.below b3
    replace kp := kp.below b3
    replace ox := ox.below b3
    replace kx := kx.below b3
    replace oy := oy.below b3
    replace ky := ky.below b3
    have kz := box_new (w3) #[.bool Z.1.1, .slice Az Z.1.2.length cz, .slice Bz Z.2.length dz] 63
    have alz := below_al (Below.refl (w3).heap.size (w3)) (.cells #[.bool Z.1.1, .slice Az Z.1.2.length cz, .slice Bz Z.2.length dz] 63)
    have bbz := Below.next bb3 alz
    replace kr := kr.below alz
    replace ko := ko.below alz
    replace kp := kp.below alz
    replace ox := ox.below alz
    replace kx := kx.below alz
    replace oy := oy.below alz
    replace ky := ky.below alz
    replace oz := oz.below alz
    have z1 := b1.size
    have z2 := b2.size
    have z3 := b3.size
    have zx := alx.size
    have zy := aly.size
    have zz := alz.size
    have HKX := Lib.hid (kx.lt _ (List.mem_singleton.2 rfl))
    have HW := Lib.hid (newSQb_at (b := true) (r := w.heap.size + 1) (p := w.heap.size + 1 + 1) ox oz (within_up lx (Nat.le_refl _) (Nat.le_trans zx (Nat.le_trans z2 (Nat.le_trans zy (Nat.le_trans z3 zz))))) (within_up lz (Nat.le_refl _) zz) (Within.apart lx lz (.inl (Nat.le_trans zx (Nat.le_trans z2 zy)))) HKP.out (Nat.lt_of_lt_of_le HKP.out (Nat.le_trans z1 (Nat.le_trans zx (Nat.le_trans z2 zy)))) (by omega) (by omega) (by omega) bbz)
    have hs1 := HKP.out
    have hs2 := Nat.lt_of_lt_of_le HKP.out z1
    have hs3 := Nat.lt_of_lt_of_le hs2 (Nat.le_trans zx (Nat.le_trans z2 (Nat.le_trans zy z3)))
    have hn_w1_1 : ¬ w1.heap.size = w.heap.size + 1 := by omega
    have hn_w1_1' : ¬ w.heap.size + 1 = w1.heap.size := by omega
    have hn_w1_2 : ¬ w1.heap.size = w.heap.size + 1 + 1 := by omega
    have hn_w1_2' : ¬ w.heap.size + 1 + 1 = w1.heap.size := by omega
    have hn_w3_1 : ¬ w3.heap.size = w.heap.size + 1 := by omega
    have hn_w3_1' : ¬ w.heap.size + 1 = w3.heap.size := by omega
    have hn_w3_2 : ¬ w3.heap.size = w.heap.size + 1 + 1 := by omega
    have hn_w3_2' : ¬ w.heap.size + 1 + 1 = w3.heap.size := by omega
    clear hs1 hs2 hs3
    have cko0 := ko.here.cell 0 _ rfl
    have cko1 := ko.here.cell 1 _ rfl
    have fko0 := Lib.frozen_of_heap ko.here 0
    have fko1 := Lib.frozen_of_heap ko.here 1
    have ckp0 := kp.here.cell 0 _ rfl
    have ckp1 := kp.here.cell 1 _ rfl
    have ckp2 := kp.here.cell 2 _ rfl
    have fkp0 := Lib.frozen_of_heap kp.here 0
    have fkp1 := Lib.frozen_of_heap kp.here 1
    have fkp2 := Lib.frozen_of_heap kp.here 2
    have ckx0 := kx.here.cell 0 _ rfl
    have ckx1 := kx.here.cell 1 _ rfl
    have ckz0 := kz.here.cell 0 _ rfl
    have ckz1 := kz.here.cell 1 _ rfl
    have ckz2 := kz.here.cell 2 _ rfl
    clear ox oy oz ko kp kr kx ky kz z1 z2 z3 zx zy zz lx ly lz
    go_wp2_with fail
    go_region
    all_goals (go_wp2; refine bodyPost_ret (v := .tuple #[.agg #[.bool X.1, .slice Ax X.2.length cx], .agg #[.bool Z.1.1, .slice Az Z.1.2.length cz, .slice Bz Z.2.length dz], .bool true]) (by simp [results, Tryz.results78, go_sem, cko0, cko1, ckp0, ckp1, ckp2]) rfl ?_)
    all_goals (rw [HV.out.1, HV.out.2.1, HV.out.2.2]; refine HW.out _ ?_; repeat (first | exact Chg.refl _ _ | refine Chg.setCell ?_ (by simp) _ | refine Chg.drew1 ?_))
  · obtain ⟨r1, r2, r3, r4⟩ := rest_none hb
    have ER := Lib.hid (show roundR r m = (X, false) by rw [r1, ← hX, r1])
    have HV := Lib.hid (show restS r m = zeroS ∧ restQ r m = zeroQ ∧ restB r m = false from ⟨r3, r4, r2⟩)
    obtain ⟨by_, hby⟩ : ∃ b, (makeQ X (ofZ 1)).2 = b := ⟨_, rfl⟩
    obtain ⟨bz_, hbz⟩ : ∃ b, (subQ r Y).2 = b := ⟨_, rfl⟩
    have EM := Lib.hid (show makeQ X (ofZ 1) = (Y, by_) by rw [← hY, ← hby])
    have ES := Lib.hid (show subQ r Y = (Z, bz_) by rw [← hZ, ← hbz])
    clear hby hbz
    clear hX hY hZ r1 r2 r3 r4 hb
    go_enter Tryz.func78, Tryz.ntmps78
    have kr_c0 := kr.here.cell 0 _ rfl
    have kr_c1 := kr.here.cell 1 _ rfl
    have kr_c2 := kr.here.cell 2 _ rfl
    go_wp2_with fail
    clear kr_c0 kr_c1 kr_c2
    refine ((specRatRound_any _ r m _ hz (OQr.out _ bb0)).mono fun _ _ h => postSb_is ER.out h).mono ?_
    rintro e w1 ⟨ux, Sx, rfl, ox, lx, b1⟩
    obtain ⟨Ax, cx, rfl⟩ := ownS_form ox.here
    have bb1 := Below.next bb0 b1
    replace kr := kr.below b1
    replace ko := ko.below b1
    replace kp := kp.below b1
    have kx := box_new (w1) #[.bool X.1, .slice Ax X.2.length cx] 29
    have alx := below_al (Below.refl (w1).heap.size (w1)) (.cells #[.bool X.1, .slice Ax X.2.length cx] 29)
    have bbx := Below.next bb1 alx
    replace kr := kr.below alx
    replace ko := ko.below alx
    replace kp := kp.below alx
    replace ox := ox.below alx
    have kx_c0 := kx.here.cell 0 _ rfl
    have kx_c1 := kx.here.cell 1 _ rfl
    go_wp2_with fail
    clear kx_c0 kx_c1
    refine ((specRatInt_any _ X _ zX ox.here).mono fun _ _ h => postQb_is EM.out h).mono ?_
    rintro e w2 ⟨uy, Sy, rfl, oy, ly, b2⟩
    obtain ⟨Ay, cy, By, dy, rfl⟩ := ownQ_form oy.here
    have bb2 := Below.next bbx b2
    replace kr := kr.below b2
    replace ko := ko.below b2
    replace kp := kp.below b2
    replace ox := ox.below b2
    replace kx := kx.below b2
    have ky := box_new (w2) #[.bool Y.1.1, .slice Ay Y.1.2.length cy, .slice By Y.2.length dy] 63
    have aly := below_al (Below.refl (w2).heap.size (w2)) (.cells #[.bool Y.1.1, .slice Ay Y.1.2.length cy, .slice By Y.2.length dy] 63)
    have bby := Below.next bb2 aly
    replace kr := kr.below aly
    replace ko := ko.below aly
    replace kp := kp.below aly
    replace ox := ox.below aly
    replace kx := kx.below aly
    replace oy := oy.below aly
    have kr_c0 := kr.here.cell 0 _ rfl
    have kr_c1 := kr.here.cell 1 _ rfl
    have kr_c2 := kr.here.cell 2 _ rfl
    have ky_c0 := ky.here.cell 0 _ rfl
    have ky_c1 := ky.here.cell 1 _ rfl
    have ky_c2 := ky.here.cell 2 _ rfl
    go_wp2_with fail
    clear kr_c0 kr_c1 kr_c2 ky_c0 ky_c1 ky_c2
    refine ((specRatSub_any _ _ r Y _ hz zY (OQr.out _ bby) oy.here).mono fun _ _ h => postQb_is ES.out h).mono ?_
    rintro e w3 ⟨uz, Sz, rfl, oz, lz, b3⟩
    obtain ⟨Az, cz, Bz, dz, rfl⟩ := ownQ_form oz.here
    have bb3 := Below.next bby b3
    replace kr := kr.below b3
    replace ko := ko.below b3
    replace kp := kp.below b3
    replace ox := ox.below b3
    replace kx := kx.below b3
    replace oy := oy.below b3
    replace ky := ky.below b3
    have kz := box_new (w3) #[.bool Z.1.1, .slice Az Z.1.2.length cz, .slice Bz Z.2.length dz] 63
    have alz := below_al (Below.refl (w3).heap.size (w3)) (.cells #[.bool Z.1.1, .slice Az Z.1.2.length cz, .slice Bz Z.2.length dz] 63)
    have bbz := Below.next bb3 alz
    replace kr := kr.below alz
    replace ko := ko.below alz
    replace kp := kp.below alz
    replace ox := ox.below alz
    replace kx := kx.below alz
    replace oy := oy.below alz
    replace ky := ky.below alz
    replace oz := oz.below alz
    have cko0 := ko.here.cell 0 _ rfl
    have fko0 := Lib.frozen_of_heap ko.here 0
    have cko1 := ko.here.cell 1 _ rfl
    have fko1 := Lib.frozen_of_heap ko.here 1
    have ckp0 := kp.here.cell 0 _ rfl
    have fkp0 := Lib.frozen_of_heap kp.here 0
    have ckp1 := kp.here.cell 1 _ rfl
    have fkp1 := Lib.frozen_of_heap kp.here 1
    have ckp2 := kp.here.cell 2 _ rfl
    have fkp2 := Lib.frozen_of_heap kp.here 2
    go_wp2
    refine bodyPost_ret (v := .tuple #[.agg #[.bool false, .slice none 0 0], .agg #[.bool false, .slice none 0 0, .slice none 0 0], .bool false]) (by simp [results, Tryz.results78, go_sem, cko0, cko1, ckp0, ckp1, ckp2]) rfl ?_
    rw [HV.out.1, HV.out.2.1, HV.out.2.2]
    first | exact newSQb_zero bbz | exact newSQb_zero (below_set3 (below_set2 bbz (by omega)) (by omega))
end Go.Proofs.YtofehcpapdlcnabGreatDoor

namespace Go.Proofs.YtofehcpapdlcnabGreatDoor
open Go.RowKit

/-- a slice that reads as these numbers: an element two cells, its sign and the slice of its limbs -/
def RdL (w : World) (v : Value) (l : List SI) : Prop :=
  ∃ A c, v = .slice A l.length c ∧ ∀ (j : Nat) x, l[j]? = some x → ∃ a u, A = some a ∧ a.block < w.heap.size ∧ w.cell? (a.add (j * 2)) = some (.bool x.1) ∧ w.cell? ⟨(a.add (j * 2)).block, (a.add (j * 2)).off + 1, none⟩ = some u ∧ Row w 0 w.heap.size u (intsV x.2)
theorem RdL.below {w w' : World} {v : Value} {l : List SI} (h : RdL w v l) (hb : Below w.heap.size w w') : RdL w' v l := by
  obtain ⟨A, c, rfl, h⟩ := h
  refine ⟨A, c, rfl, fun j x hj => ?_⟩
  obtain ⟨a, u, rfl, h1, h2, h3, h4⟩ := h j x hj
  exact ⟨a, u, rfl, Nat.lt_of_lt_of_le h1 hb.size, (hb.cell (by rw [block_add]; exact h1)).trans h2, (hb.cell (by show (a.add (j * 2)).block < _; rw [block_add]; exact h1)).trans h3, (h4.below hb (Nat.le_refl _)).wide (Nat.le_refl _) hb.size⟩
theorem add_own (g m : Nat) : (⟨g, 0, none⟩ : Addr).add m = ⟨g, m, none⟩ := by
  unfold Addr.add
  split
  · rename_i h; rw [h]
  · simp
/-- the cells of such a slice -/
def flatC : List (Bool × Value) → List Value
  | [] => []
  | p :: r => .bool p.1 :: p.2 :: flatC r
theorem flatC_append (e f : List (Bool × Value)) : flatC (e ++ f) = flatC e ++ flatC f := by
  induction e with
  | nil => rfl
  | cons p r ih => show _ :: _ :: flatC (r ++ f) = _; rw [ih]; rfl
theorem flatC_get {e : List (Bool × Value)} {j : Nat} {p : Bool × Value} (h : e[j]? = some p) : (flatC e)[j * 2]? = some (.bool p.1) ∧ (flatC e)[j * 2 + 1]? = some p.2 := by
  induction e generalizing j with
  | nil => simp at h
  | cons q r ih =>
    cases j with
    | zero =>
      have : q = p := by simpa using h
      subst this
      exact ⟨rfl, rfl⟩
    | succ j =>
      have := ih (j := j) (by simpa using h)
      rw [show (j + 1) * 2 = j * 2 + 1 + 1 by omega]
      exact this
/-- the limbs of these numbers, each on blocks of its own, between lo and hi -/
def OwnEs (w : World) : Nat → List SI → List (Bool × Value) → Nat → Prop
  | lo, [], [], hi => lo ≤ hi
  | lo, x :: l, p :: e, hi => ∃ mid, lo ≤ mid ∧ p.1 = x.1 ∧ w.ownsRow lo 3 1 p.2 x.2.length (intsV x.2) ∧ (∀ b, p.2.ownBlock = some b → b < mid) ∧ OwnEs w mid l e hi
  | _, _, _, _ => False
theorem OwnEs.le {w : World} {lo hi : Nat} {l : List SI} {e : List (Bool × Value)} (h : OwnEs w lo l e hi) : lo ≤ hi := by
  induction l generalizing lo e with
  | nil => cases e with | nil => exact h | cons _ _ => exact h.elim
  | cons x l ih => cases e with | nil => exact h.elim | cons p e => obtain ⟨mid, h1, _, _, _, h2⟩ := h; exact Nat.le_trans h1 (ih h2)
theorem OwnEs.length {w : World} {lo hi : Nat} {l : List SI} {e : List (Bool × Value)} (h : OwnEs w lo l e hi) : e.length = l.length := by
  induction l generalizing lo e with
  | nil => cases e with | nil => rfl | cons _ _ => exact h.elim
  | cons x l ih => cases e with | nil => exact h.elim | cons p e => obtain ⟨mid, _, _, _, _, h2⟩ := h; simp [ih h2]
theorem OwnEs.stays {w w' : World} {lo hi : Nat} {l : List SI} {e : List (Bool × Value)} (h : OwnEs w lo l e hi) (hk : ∀ i, lo ≤ i → i < hi → w'.heap[i]? = w.heap[i]?) : OwnEs w' lo l e hi := by
  induction l generalizing lo e with
  | nil => cases e with | nil => exact h | cons _ _ => exact h.elim
  | cons x l ih =>
    cases e with
    | nil => exact h.elim
    | cons p e =>
      obtain ⟨mid, h1, h2, h3, h4, h5⟩ := h
      have hle := h5.le
      exact ⟨mid, h1, h2, own_stays h3 fun i hi => hk i (own_lt h3 hi).1 (Nat.lt_of_lt_of_le (h4 i hi) hle), h4, ih h5 fun i hi hi2 => hk i (by omega) hi2⟩
theorem OwnEs.wide {w : World} {lo hi hi' : Nat} {l : List SI} {e : List (Bool × Value)} (h : OwnEs w lo l e hi) (hh : hi ≤ hi') : OwnEs w lo l e hi' := by
  induction l generalizing lo e with
  | nil => cases e with | nil => exact Nat.le_trans h hh | cons _ _ => exact h.elim
  | cons x l ih => cases e with | nil => exact h.elim | cons p e => obtain ⟨mid, h1, h2, h3, h4, h5⟩ := h; exact ⟨mid, h1, h2, h3, h4, ih h5⟩
theorem OwnEs.at_ {w : World} {lo hi : Nat} {l : List SI} {e : List (Bool × Value)} (h : OwnEs w lo l e hi) {j : Nat} {x : SI} (hx : l[j]? = some x) : ∃ u, e[j]? = some (x.1, u) ∧ OwnI u x.2 w := by
  induction l generalizing lo e j with
  | nil => simp at hx
  | cons y l ih =>
    cases e with
    | nil => exact h.elim
    | cons p e =>
      obtain ⟨m, h1, h2, h3, h4, h5⟩ := h
      cases j with
      | zero =>
        have : y = x := by simpa using hx
        subst this
        exact ⟨p.2, by rw [← h2]; rfl, own_zero h3⟩
      | succ j => exact ih h5 (by simpa using hx)
/-- such a slice, of the call's own: its cells and limbs lie between lo and hi -/
def OwnL (v : Value) (l : List SI) (lo hi : Nat) (w : World) : Prop :=
  ∃ g e, v = .slice (some ⟨g, 0, none⟩) l.length l.length ∧ lo ≤ g ∧ g < hi ∧ hi ≤ w.heap.size ∧ w.ownsRow lo 29 2 v l.length (flatC e) ∧ OwnEs w (g + 1) l e hi
theorem OwnL.stays {v : Value} {l : List SI} {lo hi : Nat} {w w' : World} (h : OwnL v l lo hi w) (hk : ∀ i, lo ≤ i → i < hi → w'.heap[i]? = w.heap[i]?) (hz : w.heap.size ≤ w'.heap.size) : OwnL v l lo hi w' := by
  obtain ⟨g, e, rfl, h1, h2, h3, h4, h5⟩ := h
  exact ⟨g, e, rfl, h1, h2, Nat.le_trans h3 hz, own_stays h4 fun i hi => by cases hi; exact hk g h1 h2, h5.stays fun i hi hi2 => hk i (by omega) hi2⟩
theorem OwnL.below {v : Value} {l : List SI} {lo hi : Nat} {w w' : World} (h : OwnL v l lo hi w) (hb : Below w.heap.size w w') : OwnL v l lo hi w' := by
  have hh := h
  obtain ⟨_, _, _, _, _, h3, _, _⟩ := hh
  exact h.stays (fun i _ hi => hb.block i (by omega)) hb.size
theorem OwnL.rd {v : Value} {l : List SI} {lo hi : Nat} {w : World} (h : OwnL v l lo hi w) : RdL w v l := by
  obtain ⟨g, e, rfl, h1, h2, h3, h4, h5⟩ := h
  refine ⟨_, _, rfl, fun j x hj => ?_⟩
  have hjl := (List.getElem?_eq_some_iff.1 hj).1
  obtain ⟨u, he, ho⟩ := h5.at_ hj
  have hf := flatC_get he
  refine ⟨⟨g, 0, none⟩, u, rfl, by show g < _; omega, ?_, ?_, ho.row⟩
  · have := h4.cellAt (j * 2) (by omega)
    rw [hf.1] at this
    rw [add_own]
    exact this
  · have := h4.cellAt (j * 2 + 1) (by omega)
    rw [hf.2] at this
    rw [add_own]
    exact this

set_option maxHeartbeats 1000000 in
set_option maxRecDepth 100000 in
theorem eqSignedS_any (va vb : Value) (ss ts : List SI) (w : World) (hl : ss.length ≤ 140737488355328) (hx : ∀ x ∈ ss, x.2.length ≤ 9223372036854775807) (hra : RdL w va ss) (hrb : RdL w vb ts) :
    Calls Tryz.prog 16 #[va, vb] w fun e w' => e = .returned (.bool (decide (ss = ts))) ∧ Below w.heap.size w w' := by
  obtain ⟨A, c, rfl, hA⟩ := hra
  obtain ⟨B, d, rfl, hB⟩ := hrb
  have HA := Lib.hid hA
  have HB := Lib.hid hB
  clear hA hB
  by_cases hlen : ss.length = ts.length
  · have HL := Lib.hid hlen
    have hbe : ((ss.length : Int) != (ts.length : Int)) = false := by simp [hlen]
    clear hlen
    go_enter Tryz.func16, Tryz.ntmps16
    go_wp2
    go_loopw [5] (fun i wr => ∃ k : Nat, k ≤ ss.length ∧ i = .int .i64 k ∧ Below w.heap.size w wr ∧ Hid (ss.take k = ts.take k)) (fun i _ => ss.length - (intOf i).toNat)
    case atStart => exact ⟨0, Nat.zero_le _, rfl, Below.refl _ _, Lib.hid rfl⟩
    case round =>
      obtain ⟨k, hk, rfl, hb, HT⟩ := hrel
      by_cases hlt : k < ss.length
      · have hlt2 : k < ts.length := by have := HL.out; omega
        obtain ⟨a, u, rfl, ha, hc0, hc1, hr⟩ := HA.out k ss[k] (List.getElem?_eq_getElem hlt)
        obtain ⟨b, v, rfl, ha', hd0, hd1, hr'⟩ := HB.out k ts[k] (List.getElem?_eq_getElem hlt2)
        have hxl := hx ss[k] (List.getElem_mem hlt)
        obtain ⟨A1, c1, rfl⟩ := row_form hr
        obtain ⟨B1, d1, rfl⟩ := row_form hr'
        rw [intsV_length] at hc1 hr hd1 hr'
        have HR := Lib.hid hr
        have HR' := Lib.hid hr'
        have HCC := Lib.hid (show a.block < w.heap.size ∧ b.block < w.heap.size ∧ w.cell? (a.add (k * 2)) = some (.bool ss[k].1) ∧ w.cell? ⟨(a.add (k * 2)).block, (a.add (k * 2)).off + 1, none⟩ = some (.slice A1 ss[k].2.length c1) ∧ w.cell? (b.add (k * 2)) = some (.bool ts[k].1) ∧ w.cell? ⟨(b.add (k * 2)).block, (b.add (k * 2)).off + 1, none⟩ = some (.slice B1 ts[k].2.length d1) from ⟨ha, ha', hc0, hc1, hd0, hd1⟩)
        have HTS := Lib.hid (show (ss[k] = ts[k] → ss.take (k + 1) = ts.take (k + 1)) ∧ (¬ ss[k] = ts[k] → ¬ ss = ts) from ⟨take_same_succ HT.out hlt hlt2, ne_of_at hlt hlt2⟩)
        generalize ss[k] = x at *
        generalize ts[k] = y at *
        have KL := Lib.hid (show ∀ W, Below w.heap.size w W → W.cell? (a.add (k * 2)) = some (.bool x.1) ∧ W.cell? ⟨(a.add (k * 2)).block, (a.add (k * 2)).off + 1, none⟩ = some (.slice A1 x.2.length c1) ∧ W.cell? (b.add (k * 2)) = some (.bool y.1) ∧ W.cell? ⟨(b.add (k * 2)).block, (b.add (k * 2)).off + 1, none⟩ = some (.slice B1 y.2.length d1) ∧ Hid (Below w.heap.size w W) from
          fun W hb => by
            obtain ⟨h1, h2, h3, h4, h5, h6⟩ := HCC.out
            exact ⟨(hb.cell (by rw [block_add]; exact h1)).trans h3, (hb.cell (by show (a.add (k * 2)).block < _; rw [block_add]; exact h1)).trans h4, (hb.cell (by rw [block_add]; exact h2)).trans h5, (hb.cell (by show (b.add (k * 2)).block < _; rw [block_add]; exact h2)).trans h6, Lib.hid hb⟩)
        have HB0 := Lib.hid hb
        have HXL := Lib.hid hxl
        clear hb hc0 hc1 hd0 hd1 hr hr' ha ha' hxl HCC
        go_wp2
        go_region_held3 (fun W => W.cell? (a.add (k * 2)) = some (.bool x.1) ∧ W.cell? ⟨(a.add (k * 2)).block, (a.add (k * 2)).off + 1, none⟩ = some (.slice A1 x.2.length c1) ∧ W.cell? (b.add (k * 2)) = some (.bool y.1) ∧ W.cell? ⟨(b.add (k * 2)).block, (b.add (k * 2)).off + 1, none⟩ = some (.slice B1 y.2.length d1) ∧ Hid (Below w.heap.size w W))
          ((refine KL.out _ ?_; (first | exact HB1.out | exact HB0.out.drew | fail)))
          (first
            | (go_at_call 14; (have hBB := (‹_ ∧ _ ∧ _ ∧ _ ∧ Hid (Below w.heap.size w _)›).2.2.2.2); (with_reducible refine (eqSigned_at _ _ x y _ HXL.out (rdS_below HR.out hBB.out) (rdS_below HR'.out hBB.out)).mono ?_); rintro e w1 ⟨rfl, b1⟩; have HB1 := Lib.hid (Below.next hBB.out b1); clear hBB b1))
        by_cases he : x = y
        · have hdt : decide (x = y) = true := decide_eq_true he
          rw [hdt]
          have HE := Lib.hid (HTS.out.1 he)
          clear hdt he
          go_wp2
          go_roundw
          case rel => exact ⟨k + 1, by omega, by go_num, HB1.out, HE⟩
          case measure => simp [intOf]; omega
        · have hdt : decide (x = y) = false := decide_eq_false he
          rw [hdt]
          have HE := Lib.hid (HTS.out.2 he)
          clear hdt he
          go_wp2
          go_ret
          exact ⟨ret_bool (decide_eq_false HE.out).symm, HB1.out⟩
      · go_wp2
        go_ret
        exact ⟨ret_bool (decide_eq_true (same_of_takes HT.out HL.out hlt)).symm, hb⟩
  · have hbe : ((ss.length : Int) != (ts.length : Int)) = true := by simp; omega
    go_enter Tryz.func16, Tryz.ntmps16
    go_wp2
    go_ret
    exact ⟨ret_bool (decide_eq_false (fun e => hlen (by rw [e]))).symm, Below.refl _ _⟩

theorem Chg.grown {S : List Nat} {w w1 w2 : World} {v : Value} (h : Chg S w w1) (hg : w1.grownBy w2 v.ownBlock) (hS : ∀ b, v.ownBlock = some b → b ∈ S) : Chg S w w2 :=
  h.trans ((Chg.of_grown hg).more fun g hg => hS g (by simpa using hg))
end Go.Proofs.YtofehcpapdlcnabGreatDoor

namespace Go.Proofs.YtofehcpapdlcnabGreatDoor
open Go.RowKit

/-- a slice that reads as these numbers, their limbs of the call's own -/
def OwnR (w : World) (v : Value) (l : List SI) : Prop :=
  ∃ A c, v = .slice A l.length c ∧ ∀ (j : Nat) x, l[j]? = some x → ∃ a u, A = some a ∧ a.block < w.heap.size ∧ w.cell? (a.add (j * 2)) = some (.bool x.1) ∧ w.cell? ⟨(a.add (j * 2)).block, (a.add (j * 2)).off + 1, none⟩ = some u ∧ OwnI u x.2 w
theorem OwnL.ownR {v : Value} {l : List SI} {lo hi : Nat} {w : World} (h : OwnL v l lo hi w) : OwnR w v l := by
  obtain ⟨g, e, rfl, h1, h2, h3, h4, h5⟩ := h
  refine ⟨_, _, rfl, fun j x hj => ?_⟩
  have hjl := (List.getElem?_eq_some_iff.1 hj).1
  obtain ⟨u, he, ho⟩ := h5.at_ hj
  have hf := flatC_get he
  refine ⟨⟨g, 0, none⟩, u, rfl, by show g < _; omega, ?_, ?_, ho⟩
  · have := h4.cellAt (j * 2) (by omega)
    rw [hf.1] at this
    rw [add_own]
    exact this
  · have := h4.cellAt (j * 2 + 1) (by omega)
    rw [hf.2] at this
    rw [add_own]
    exact this
theorem OwnR.rd {v : Value} {l : List SI} {w : World} (h : OwnR w v l) : RdL w v l := by
  obtain ⟨A, c, rfl, h⟩ := h
  refine ⟨A, c, rfl, fun j x hj => ?_⟩
  obtain ⟨a, u, rfl, h1, h2, h3, h4⟩ := h j x hj
  exact ⟨a, u, rfl, h1, h2, h3, h4.row⟩
def foldS (l : List SI) : SI := l.foldl addS zeroS
theorem foldS_snoc (l : List SI) (x : SI) : foldS (l ++ [x]) = addS (foldS l) x := by unfold foldS; rw [List.foldl_append]; rfl
theorem addS_len (x y : SI) : (addS x y).2.length ≤ 50 := by unfold addS; split; exact ofZ_len _; exact Nat.zero_le _
theorem foldS_len (l : List SI) : (foldS l).2.length ≤ 50 := by
  rcases List.eq_nil_or_concat l with rfl | ⟨r, x, rfl⟩
  · exact Nat.zero_le _
  · rw [List.concat_eq_append, foldS_snoc]; exact addS_len _ _
theorem sumS_ok {l : List SI} (h : l.all okS = true) : sumS l = foldS l := by unfold sumS; rw [if_pos h]; rfl
theorem sumS_bad {l : List SI} {j : Nat} {x : SI} (hx : l[j]? = some x) (h : ¬ okS x = true) : sumS l = zeroS := by
  unfold sumS
  rw [if_neg]
  intro ha
  rw [List.all_eq_true] at ha
  exact h (ha x (List.mem_of_getElem? hx))
theorem take_snoc {l : List SI} {k : Nat} {x : SI} (h : l[k]? = some x) : l.take (k + 1) = l.take k ++ [x] := by
  have hj := (List.getElem?_eq_some_iff.1 h).1
  rw [List.take_succ_eq_append_getElem hj, (List.getElem?_eq_some_iff.1 h).2]
theorem all_snoc {l : List SI} {k : Nat} {x : SI} (h : l[k]? = some x) (ha : (l.take k).all okS = true) (hx : okS x = true) : (l.take (k + 1)).all okS = true := by
  rw [take_snoc h, List.all_append, ha]
  simp [hx]
theorem set_box {g : Nat} {a b : Value} {c0 c1 : Value} {W : World} (h : BoxAt g #[c0, c1] 29 W) : BoxAt g #[a, b] 29 ((W.setCell ⟨g, 0, none⟩ a).setCell ⟨g, 1, none⟩ b) := swap_box h

set_option maxHeartbeats 2000000 in
set_option maxRecDepth 100000 in
theorem specIntSum_any (v : Value) (l : List SI) (w : World) (hl : l.length ≤ 140737488355328) (hx : ∀ x ∈ l, x.2.length ≤ 1048576) (h : OwnR w v l) :
    Calls Tryz.prog 47 #[v] w (NewS (sumS l) w) := by
  have hbb : Below w.heap.size w ((w.alloc (.cells #[.bool false, .slice none 0 0] 29)).alloc (.cells #[.bool false, .slice none 0 0] 29)) := below_al (below_al (Below.refl _ _) _) _
  have kr := (box_new w #[.bool false, .slice none 0 0] 29).below (below_al (Below.refl _ _) (.cells #[.bool false, .slice none 0 0] 29))
  have ko := box_new (w.alloc (.cells #[.bool false, .slice none 0 0] 29)) #[.bool false, .slice none 0 0] 29
  rw [show (w.alloc (.cells #[.bool false, .slice none 0 0] 29)).heap.size = w.heap.size + 1 by simp] at ko
  obtain ⟨A, c, rfl, hc⟩ := h
  have HC := Lib.hid hc
  clear hc
  obtain ⟨W0, hW0⟩ : ∃ W0, W0 = (w.alloc (.cells #[.bool false, .slice none 0 0] 29)).alloc (.cells #[.bool false, .slice none 0 0] 29) := ⟨_, rfl⟩
  rw [← hW0] at hbb kr ko
  have HW := Lib.hid hW0
  have HKR := Lib.hid kr.here
  have HKO := Lib.hid ko.here
  have HBB := Lib.hid hbb
  clear hW0 kr ko hbb
  go_enter Tryz.func47, Tryz.ntmps47
  go_wp2
  go_loopw [9] (fun i wr => ∃ (k : Nat) (u : Value), k ≤ l.length ∧ i = .int .i64 k ∧ Hid ((l.take k).all okS = true) ∧ Hid (BoxAt (w.heap.size + 1) #[.bool (foldS (l.take k)).1, u] 29 wr) ∧ Hid (wr.ownsRow w.heap.size 3 1 u (foldS (l.take k)).2.length (intsV (foldS (l.take k)).2)) ∧ Hid (BoxAt w.heap.size #[.bool false, .slice none 0 0] 29 wr) ∧ Hid (Below w.heap.size w wr)) (fun i _ => l.length - (intOf i).toNat)
  case atStart =>
    rw [← HW.out]
    exact ⟨0, .slice none 0 0, Nat.zero_le _, rfl, Lib.hid rfl, Lib.hid HKO.out, Lib.hid (World.ownsRow_nil _ _ _ _), HKR, HBB⟩
  case round =>
    obtain ⟨k, u, hk, rfl, HA, HO, HU, HR, HB⟩ := hrel
    have hso : w.heap.size + 1 < wr.heap.size := (Array.getElem?_eq_some_iff.1 HO.out).1
    obtain ⟨Au, cu, rfl⟩ := own_len HU.out
    by_cases hlt : k < l.length
    · obtain ⟨x, hxk⟩ : ∃ x, l[k]? = some x := ⟨_, List.getElem?_eq_getElem hlt⟩
      obtain ⟨a, ux, rfl, ha, hc0, hc1, hox⟩ := HC.out k x hxk
      have hxl := hx x (List.mem_of_getElem? hxk)
      obtain ⟨A1, c1, rfl⟩ := own_len hox
      have k0 : wr.cell? (a.add (k * 2)) = some (.bool x.1) := (HB.out.cell (by rw [block_add]; exact ha)).trans hc0
      have k1 : wr.cell? ⟨(a.add (k * 2)).block, (a.add (k * 2)).off + 1, none⟩ = some (.slice A1 x.2.length c1) := (HB.out.cell (by show (a.add (k * 2)).block < _; rw [block_add]; exact ha)).trans hc1
      have hbx := below_al (Below.refl wr.heap.size wr) (.cells #[.bool x.1, .slice A1 x.2.length c1] 29)
      have kx := box_new wr #[.bool x.1, .slice A1 x.2.length c1] 29
      have ox : (wr.alloc (.cells #[.bool x.1, .slice A1 x.2.length c1] 29)).ownsRow 0 3 1 (.slice A1 x.2.length c1) x.2.length (intsV x.2) := own_below (own_below hox HB.out) hbx
      have ko := (box_at HO.out).below hbx
      have kr := (box_at HR.out).below hbx
      have ou := own_below HU.out hbx
      have hfl := foldS_len (l.take k)
      have HTS := Lib.hid (take_snoc hxk)
      have HFS := Lib.hid (foldS_snoc (l.take k) x)
      have rdx := (OwnS.mk (x := x) (ownI_of ox)).rd
      have HSB := Lib.hid (fun h => sumS_bad hxk h)
      have HAS := Lib.hid (fun h => all_snoc hxk HA.out h)
      generalize foldS (l.take k) = s at *
      by_cases okx : okS x = true
      · go_wp2_with fail
        refine (specIntOk_any _ x _ hxl rdx).mono ?_
        rintro e w1 ⟨rfl, b1⟩
        rw [okx]
        replace kx := kx.below b1
        replace ko := ko.below b1
        replace kr := kr.below b1
        replace ou := own_below ou b1
        replace ox := own_below ox b1
        have bb1 := (HB.out.trans (show Below w.heap.size wr _ from ⟨hbx.os, hbx.tape, hbx.output, hbx.size, fun i hi => hbx.block i (by omega)⟩))
        have bb2 := Below.next bb1 b1
        have cx0 := kx.here.cell 0 _ rfl
        have cx1 := kx.here.cell 1 _ rfl
        have co0 := ko.here.cell 0 _ rfl
        have co1 := ko.here.cell 1 _ rfl
        have HKO2 := Lib.hid ko
        have HKR2 := Lib.hid kr
        have HB2 := Lib.hid bb2
        clear k0 k1 rdx kx ko kr bb1 bb2 hc0 hc1 ha hox
        go_wp2_with fail
        refine (specIntAdd_any _ _ s x _ (by omega) hxl (OwnS.mk (x := s) (ownI_of ou)) (OwnS.mk (x := x) (ownI_of ox))).mono ?_
        rintro e w2 ⟨u2, rfl, o2, b2⟩
        have ko3 := HKO2.out.below b2
        have kr3 := HKR2.out.below b2
        have bb3 := Below.next HB2.out b2
        rw [← HFS.out, ← HTS.out] at o2
        have e2 : addS s x = foldS (l.take (k + 1)) := by rw [HTS.out, HFS.out]
        rw [e2]
        have HALL := Lib.hid (HAS.out okx)
        clear e2 okx
        have hfo : Hid (∀ W : World, Hid (BoxAt (w.heap.size + 1) #[.bool (foldS (l.take (k + 1))).1, u2] 29 W) → Hid (W.ownsRow w.heap.size 3 1 u2 (foldS (l.take (k + 1))).2.length (intsV (foldS (l.take (k + 1))).2)) → Hid (BoxAt w.heap.size #[.bool false, .slice none 0 0] 29 W) → Hid (Below w.heap.size w W) →
          ∃ (k' : Nat) (u : Value), k' ≤ l.length ∧ Value.int .i64 ((k + 1 : Nat) : Int) = .int .i64 k' ∧ Hid ((l.take k').all okS = true) ∧ Hid (BoxAt (w.heap.size + 1) #[.bool (foldS (l.take k')).1, u] 29 W) ∧ Hid (W.ownsRow w.heap.size 3 1 u (foldS (l.take k')).2.length (intsV (foldS (l.take k')).2)) ∧ Hid (BoxAt w.heap.size #[.bool false, .slice none 0 0] 29 W) ∧ Hid (Below w.heap.size w W)) :=
          Lib.hid fun W h1 h2 h3 h4 => ⟨k + 1, u2, by omega, rfl, HALL, h1, h2, h3, h4⟩
        generalize foldS (l.take (k + 1)) = s2 at *
        obtain ⟨A2, c2, rfl⟩ := own_len o2
        have cz0 := ko3.here.cell 0 _ rfl
        have cz1 := ko3.here.cell 1 _ rfl
        have fz0 := Lib.frozen_of_heap ko3.here 0
        have fz1 := Lib.frozen_of_heap ko3.here 1
        have hne := Lib.ownBlock_ne o2 ko3.here (by decide)
        have h1 := set_box (a := .bool s2.1) (b := .slice A2 s2.2.length c2) ko3.here
        have h2 : ((w2.setCell ⟨w.heap.size + 1, 0, none⟩ (.bool s2.1)).setCell ⟨w.heap.size + 1, 1, none⟩ (.slice A2 s2.2.length c2)).ownsRow w.heap.size 3 1 (.slice A2 s2.2.length c2) s2.2.length (intsV s2.2) := own_stays (own_low o2 (by have := HB2.out.size; omega)) fun i hi => by
          have : i ≠ w.heap.size + 1 := fun e => hne (by rw [hi, e])
          exact (Below.heap_setCell _ _ _ _ this).trans (Below.heap_setCell _ _ _ _ this)
        have h3 : BoxAt w.heap.size #[.bool false, .slice none 0 0] 29 ((w2.setCell ⟨w.heap.size + 1, 0, none⟩ (.bool s2.1)).setCell ⟨w.heap.size + 1, 1, none⟩ (.slice A2 s2.2.length c2)) := by
          have hn : w.heap.size ≠ w.heap.size + 1 := by omega
          exact ((Below.heap_setCell _ _ _ _ hn).trans (Below.heap_setCell _ _ _ _ hn)).trans kr3.here
        have h4 : Below w.heap.size w ((w2.setCell ⟨w.heap.size + 1, 0, none⟩ (.bool s2.1)).setCell ⟨w.heap.size + 1, 1, none⟩ (.slice A2 s2.2.length c2)) := below_set2 bb3 (by omega)
        have HREL := Lib.hid (hfo.out _ (Lib.hid h1) (Lib.hid h2) (Lib.hid h3) (Lib.hid h4))
        clear h1 h2 h3 h4 ko3 kr3 bb3 o2 b2 hne cx0 cx1 co0 co1 ou ox
        go_wp2
        go_roundw
        case rel => exact HREL.out
        case measure => simp [intOf]; omega
      · have okx' : okS x = false := by simpa using okx
        go_wp2_with fail
        refine (specIntOk_any _ x _ hxl rdx).mono ?_
        rintro e w1 ⟨rfl, b1⟩
        rw [okx']
        replace kr := kr.below b1
        have bb1 := (HB.out.trans (show Below w.heap.size wr _ from ⟨hbx.os, hbx.tape, hbx.output, hbx.size, fun i hi => hbx.block i (by omega)⟩))
        have bb2 := Below.next bb1 b1
        have cz0 := kr.here.cell 0 _ rfl
        have cz1 := kr.here.cell 1 _ rfl
        have fz0 := Lib.frozen_of_heap kr.here 0
        have fz1 := Lib.frozen_of_heap kr.here 1
        have HV := Lib.hid (HSB.out okx)
        clear k0 k1 rdx kx ko kr hc0 hc1 ha hox ou ox okx okx' bb1
        go_wp2
        refine bodyPost_ret (v := .agg #[.bool false, .slice none 0 0]) (by simp [results, Tryz.results47, go_sem, cz0, cz1]) rfl ?_
        rw [HV.out]
        exact newS_zero (below_set2 bb2 (Nat.le_refl _))
    · obtain rfl : k = l.length := by omega
      have HV := Lib.hid (show sumS l = foldS l from sumS_ok (by have := HA.out; rwa [List.take_length] at this))
      rw [List.take_length] at HO HU
      generalize foldS l = s at *
      have co0 := HO.out.cell 0 _ rfl
      have co1 := HO.out.cell 1 _ rfl
      have cz0 := HR.out.cell 0 _ rfl
      have cz1 := HR.out.cell 1 _ rfl
      have fz0 := Lib.frozen_of_heap HR.out 0
      have fz1 := Lib.frozen_of_heap HR.out 1
      go_wp2
      refine bodyPost_ret (v := .agg #[.bool _, .slice Au _ cu]) (by simp [results, Tryz.results47, go_sem, cz0, cz1]; exact ⟨rfl, rfl⟩) rfl ?_
      rw [HV.out]
      exact newS_ret HR.out HU.out (Nat.le_refl _) (Nat.le_refl _) HB.out
set_option maxHeartbeats 2000000 in
set_option maxRecDepth 100000 in
theorem implIntSum_any (v : Value) (l : List SI) (w : World) (hl : l.length ≤ 140737488355328) (hx : ∀ x ∈ l, x.2.length ≤ 1048576) (h : OwnR w v l) :
    Calls Tryz.prog 60 #[v] w (NewS (sumS l) w) := by
  have hbb : Below w.heap.size w ((w.alloc (.cells #[.bool false, .slice none 0 0] 29)).alloc (.cells #[.bool false, .slice none 0 0] 29)) := below_al (below_al (Below.refl _ _) _) _
  have kr := (box_new w #[.bool false, .slice none 0 0] 29).below (below_al (Below.refl _ _) (.cells #[.bool false, .slice none 0 0] 29))
  have ko := box_new (w.alloc (.cells #[.bool false, .slice none 0 0] 29)) #[.bool false, .slice none 0 0] 29
  rw [show (w.alloc (.cells #[.bool false, .slice none 0 0] 29)).heap.size = w.heap.size + 1 by simp] at ko
  obtain ⟨A, c, rfl, hc⟩ := h
  have HC := Lib.hid hc
  clear hc
  obtain ⟨W0, hW0⟩ : ∃ W0, W0 = (w.alloc (.cells #[.bool false, .slice none 0 0] 29)).alloc (.cells #[.bool false, .slice none 0 0] 29) := ⟨_, rfl⟩
  rw [← hW0] at hbb kr ko
  have HW := Lib.hid hW0
  have HKR := Lib.hid kr.here
  have HKO := Lib.hid ko.here
  have HBB := Lib.hid hbb
  clear hW0 kr ko hbb
  go_enter Tryz.func60, Tryz.ntmps60
  go_wp2
  go_loopw [8] (fun i wr => ∃ (k : Nat) (u : Value), k ≤ l.length ∧ i = .int .i64 k ∧ Hid ((l.take k).all okS = true) ∧ Hid (BoxAt (w.heap.size + 1) #[.bool (foldS (l.take k)).1, u] 29 wr) ∧ Hid (wr.ownsRow w.heap.size 3 1 u (foldS (l.take k)).2.length (intsV (foldS (l.take k)).2)) ∧ Hid (BoxAt w.heap.size #[.bool false, .slice none 0 0] 29 wr) ∧ Hid (Below w.heap.size w wr)) (fun i _ => l.length - (intOf i).toNat)
  case atStart =>
    rw [← HW.out]
    exact ⟨0, .slice none 0 0, Nat.zero_le _, rfl, Lib.hid rfl, Lib.hid HKO.out, Lib.hid (World.ownsRow_nil _ _ _ _), HKR, HBB⟩
  case round =>
    obtain ⟨k, u, hk, rfl, HA, HO, HU, HR, HB⟩ := hrel
    have hso : w.heap.size + 1 < wr.heap.size := (Array.getElem?_eq_some_iff.1 HO.out).1
    obtain ⟨Au, cu, rfl⟩ := own_len HU.out
    by_cases hlt : k < l.length
    · obtain ⟨x, hxk⟩ : ∃ x, l[k]? = some x := ⟨_, List.getElem?_eq_getElem hlt⟩
      obtain ⟨a, ux, rfl, ha, hc0, hc1, hox⟩ := HC.out k x hxk
      have hxl := hx x (List.mem_of_getElem? hxk)
      obtain ⟨A1, c1, rfl⟩ := own_len hox
      have k0 : wr.cell? (a.add (k * 2)) = some (.bool x.1) := (HB.out.cell (by rw [block_add]; exact ha)).trans hc0
      have k1 : wr.cell? ⟨(a.add (k * 2)).block, (a.add (k * 2)).off + 1, none⟩ = some (.slice A1 x.2.length c1) := (HB.out.cell (by show (a.add (k * 2)).block < _; rw [block_add]; exact ha)).trans hc1
      have hbx := below_al (Below.refl wr.heap.size wr) (.cells #[.bool x.1, .slice A1 x.2.length c1] 29)
      have kx := box_new wr #[.bool x.1, .slice A1 x.2.length c1] 29
      have ox : (wr.alloc (.cells #[.bool x.1, .slice A1 x.2.length c1] 29)).ownsRow 0 3 1 (.slice A1 x.2.length c1) x.2.length (intsV x.2) := own_below (own_below hox HB.out) hbx
      have ko := (box_at HO.out).below hbx
      have kr := (box_at HR.out).below hbx
      have ou := own_below HU.out hbx
      have hfl := foldS_len (l.take k)
      have HTS := Lib.hid (take_snoc hxk)
      have HFS := Lib.hid (foldS_snoc (l.take k) x)
      have rdx := (OwnS.mk (x := x) (ownI_of ox)).rd
      have HSB := Lib.hid (fun h => sumS_bad hxk h)
      have HAS := Lib.hid (fun h => all_snoc hxk HA.out h)
      generalize foldS (l.take k) = s at *
      by_cases okx : okS x = true
      · go_wp2_with fail
        refine (implIntOk_any _ x _ hxl rdx).mono ?_
        rintro e w1 ⟨rfl, b1⟩
        rw [okx]
        replace kx := kx.below b1
        replace ko := ko.below b1
        replace kr := kr.below b1
        replace ou := own_below ou b1
        replace ox := own_below ox b1
        have bb1 := (HB.out.trans (show Below w.heap.size wr _ from ⟨hbx.os, hbx.tape, hbx.output, hbx.size, fun i hi => hbx.block i (by omega)⟩))
        have bb2 := Below.next bb1 b1
        have cx0 := kx.here.cell 0 _ rfl
        have cx1 := kx.here.cell 1 _ rfl
        have co0 := ko.here.cell 0 _ rfl
        have co1 := ko.here.cell 1 _ rfl
        have HKO2 := Lib.hid ko
        have HKR2 := Lib.hid kr
        have HB2 := Lib.hid bb2
        clear k0 k1 rdx kx ko kr bb1 bb2 hc0 hc1 ha hox
        go_wp2_with fail
        refine (implIntAdd_any _ _ s x _ (by omega) hxl (OwnS.mk (x := s) (ownI_of ou)) (OwnS.mk (x := x) (ownI_of ox))).mono ?_
        rintro e w2 ⟨u2, rfl, o2, b2⟩
        have ko3 := HKO2.out.below b2
        have kr3 := HKR2.out.below b2
        have bb3 := Below.next HB2.out b2
        rw [← HFS.out, ← HTS.out] at o2
        have e2 : addS s x = foldS (l.take (k + 1)) := by rw [HTS.out, HFS.out]
        rw [e2]
        have HALL := Lib.hid (HAS.out okx)
        clear e2 okx
        have hfo : Hid (∀ W : World, Hid (BoxAt (w.heap.size + 1) #[.bool (foldS (l.take (k + 1))).1, u2] 29 W) → Hid (W.ownsRow w.heap.size 3 1 u2 (foldS (l.take (k + 1))).2.length (intsV (foldS (l.take (k + 1))).2)) → Hid (BoxAt w.heap.size #[.bool false, .slice none 0 0] 29 W) → Hid (Below w.heap.size w W) →
          ∃ (k' : Nat) (u : Value), k' ≤ l.length ∧ Value.int .i64 ((k + 1 : Nat) : Int) = .int .i64 k' ∧ Hid ((l.take k').all okS = true) ∧ Hid (BoxAt (w.heap.size + 1) #[.bool (foldS (l.take k')).1, u] 29 W) ∧ Hid (W.ownsRow w.heap.size 3 1 u (foldS (l.take k')).2.length (intsV (foldS (l.take k')).2)) ∧ Hid (BoxAt w.heap.size #[.bool false, .slice none 0 0] 29 W) ∧ Hid (Below w.heap.size w W)) :=
          Lib.hid fun W h1 h2 h3 h4 => ⟨k + 1, u2, by omega, rfl, HALL, h1, h2, h3, h4⟩
        generalize foldS (l.take (k + 1)) = s2 at *
        obtain ⟨A2, c2, rfl⟩ := own_len o2
        have cz0 := ko3.here.cell 0 _ rfl
        have cz1 := ko3.here.cell 1 _ rfl
        have fz0 := Lib.frozen_of_heap ko3.here 0
        have fz1 := Lib.frozen_of_heap ko3.here 1
        have hne := Lib.ownBlock_ne o2 ko3.here (by decide)
        have h1 := set_box (a := .bool s2.1) (b := .slice A2 s2.2.length c2) ko3.here
        have h2 : ((w2.setCell ⟨w.heap.size + 1, 0, none⟩ (.bool s2.1)).setCell ⟨w.heap.size + 1, 1, none⟩ (.slice A2 s2.2.length c2)).ownsRow w.heap.size 3 1 (.slice A2 s2.2.length c2) s2.2.length (intsV s2.2) := own_stays (own_low o2 (by have := HB2.out.size; omega)) fun i hi => by
          have : i ≠ w.heap.size + 1 := fun e => hne (by rw [hi, e])
          exact (Below.heap_setCell _ _ _ _ this).trans (Below.heap_setCell _ _ _ _ this)
        have h3 : BoxAt w.heap.size #[.bool false, .slice none 0 0] 29 ((w2.setCell ⟨w.heap.size + 1, 0, none⟩ (.bool s2.1)).setCell ⟨w.heap.size + 1, 1, none⟩ (.slice A2 s2.2.length c2)) := by
          have hn : w.heap.size ≠ w.heap.size + 1 := by omega
          exact ((Below.heap_setCell _ _ _ _ hn).trans (Below.heap_setCell _ _ _ _ hn)).trans kr3.here
        have h4 : Below w.heap.size w ((w2.setCell ⟨w.heap.size + 1, 0, none⟩ (.bool s2.1)).setCell ⟨w.heap.size + 1, 1, none⟩ (.slice A2 s2.2.length c2)) := below_set2 bb3 (by omega)
        have HREL := Lib.hid (hfo.out _ (Lib.hid h1) (Lib.hid h2) (Lib.hid h3) (Lib.hid h4))
        clear h1 h2 h3 h4 ko3 kr3 bb3 o2 b2 hne cx0 cx1 co0 co1 ou ox
        go_wp2
        go_roundw
        case rel => exact HREL.out
        case measure => simp [intOf]; omega
      · have okx' : okS x = false := by simpa using okx
        go_wp2_with fail
        refine (implIntOk_any _ x _ hxl rdx).mono ?_
        rintro e w1 ⟨rfl, b1⟩
        rw [okx']
        replace kr := kr.below b1
        have bb1 := (HB.out.trans (show Below w.heap.size wr _ from ⟨hbx.os, hbx.tape, hbx.output, hbx.size, fun i hi => hbx.block i (by omega)⟩))
        have bb2 := Below.next bb1 b1
        have cz0 := kr.here.cell 0 _ rfl
        have cz1 := kr.here.cell 1 _ rfl
        have fz0 := Lib.frozen_of_heap kr.here 0
        have fz1 := Lib.frozen_of_heap kr.here 1
        have HV := Lib.hid (HSB.out okx)
        clear k0 k1 rdx kx ko kr hc0 hc1 ha hox ou ox okx okx' bb1
        go_wp2
        refine bodyPost_ret (v := .agg #[.bool false, .slice none 0 0]) (by simp [results, Tryz.results60, go_sem, cz0, cz1]) rfl ?_
        rw [HV.out]
        exact newS_zero (below_set2 bb2 (Nat.le_refl _))
    · obtain rfl : k = l.length := by omega
      have HV := Lib.hid (show sumS l = foldS l from sumS_ok (by have := HA.out; rwa [List.take_length] at this))
      rw [List.take_length] at HO HU
      generalize foldS l = s at *
      have co0 := HO.out.cell 0 _ rfl
      have co1 := HO.out.cell 1 _ rfl
      have cz0 := HR.out.cell 0 _ rfl
      have cz1 := HR.out.cell 1 _ rfl
      have fz0 := Lib.frozen_of_heap HR.out 0
      have fz1 := Lib.frozen_of_heap HR.out 1
      go_wp2
      refine bodyPost_ret (v := .agg #[.bool _, .slice Au _ cu]) (by simp [results, Tryz.results60, go_sem, cz0, cz1]; exact ⟨rfl, rfl⟩) rfl ?_
      rw [HV.out]
      exact newS_ret HR.out HU.out (Nat.le_refl _) (Nat.le_refl _) HB.out
end Go.Proofs.YtofehcpapdlcnabGreatDoor

namespace Go.Proofs.YtofehcpapdlcnabGreatDoor
open Go.RowKit











end Go.Proofs.YtofehcpapdlcnabGreatDoor

namespace Go.Proofs.YtofehcpapdlcnabGreatDoor
open Go.RowKit

end Go.Proofs.YtofehcpapdlcnabGreatDoor

namespace Go.Proofs.YtofehcpapdlcnabGreatDoor
open Go.RowKit

end Go.Proofs.YtofehcpapdlcnabGreatDoor

namespace Go.Proofs.YtofehcpapdlcnabGreatDoor
open Go.ChangeShapes Go.WideShapes Go.ChangeAt Go.RowKit

theorem Tryz.own : ownKnob Tryz.prog.godebug = none := by kernel_rfl
theorem Tryz.laidOut : laidOutB Tryz.prog = true := by kernel_rfl

section
variable {H : Type} {enc : TypeId × Value → H} {P : Program}

/-- the types of a list can all be read, and all lie in the program's table -/
def legible (P : Program) (ts : List TypeId) : Bool := ts.all fun t => P.readableRec t && decide (t < P.types.size)

theorem args_below (hl : laidOutB P = true) {W W' : World} (hb : Below W.heap.size W W') :
    ∀ {ts : List TypeId} {vs : List Value} {ds : List (DataW H)} {ps : List MemPlace}, legible P ts = true → DataW.TrodAll enc P W 0 (fun _ => true) true ts vs ds ps → (∀ x ∈ ps, x.block < W.heap.size) →
      DataW.TrodAll enc P W' 0 (fun b => decide (b < W.heap.size)) true ts vs ds ps
  | [], _, _, _, _, h, _ => by
    obtain ⟨rfl, rfl, rfl⟩ := trodAll_nil h
    rfl
  | t :: ts, _, _, _, hr, h, hlt => by
    obtain ⟨v, vs, d, ds, p, q, rfl, rfl, rfl, h1, h2⟩ := trodAll_cons h
    simp only [legible, List.all_cons, Bool.and_eq_true, decide_eq_true_eq] at hr
    exact ⟨p, q, Below.trod hl hr.1.1 hr.1.2 h1 hb (fun x hx => hlt x (List.mem_append_left _ hx)), args_below hl hb (by simpa only [legible] using hr.2) h2 (fun x hx => hlt x (List.mem_append_right _ hx)), rfl⟩

end

end Go.Proofs.YtofehcpapdlcnabGreatDoor

namespace Go.Proofs.YtofehcpapdlcnabGreatDoor
open Go.RowKit

def nX (x : SI) : Nat := (nval x.2).toNat
def tW (ws : List Int) : Nat := (natW ws).sum
def fairF (x : SI) (ws : List Int) (i : Nat) : QI := (fairR x ws (i : Int)).1
/-- a share rounded down, and what is left of it, over the whole of the weights -/
def qN (x : SI) (ws : List Int) (i : Nat) : Nat := nX x * (natW ws)[i]! / tW ws
def rN (x : SI) (ws : List Int) (i : Nat) : Nat := nX x * (natW ws)[i]! % tW ws
/-- how many units are missing -/
def missN (x : SI) (ws : List Int) : Nat := nX x - ((natW ws).map fun y => nX x * y / tW ws).sum
/-- what Shares answers -/
def okSh (x : SI) (ws : List Int) : Bool := okW ws && (okS x && (List.range ws.length).all fun i => (fairR x ws (i : Int)).2)
def partsK (x : SI) (ws : List Int) (C : List Nat) : List SI := (List.range ws.length).map fun i => ofZ (sgZ x.1 (qN x ws i + if i ∈ C then 1 else 0))
def sharesL (x : SI) (ws : List Int) : List SI := (List.range ws.length).map fun i => ofZ (sgZ x.1 (qN x ws i + if rankN (rN x ws) ws.length i < missN x ws then 1 else 0))
def sharesR (x : SI) (ws : List Int) : List SI × Bool := if okSh x ws = true then (sharesL x ws, true) else ([], false)
structure Good (x : SI) (ws : List Int) : Prop where
  wts : PartsW ws
  okx : okS x = true
  fair : ∀ i, i < ws.length → (lowQ x.1 (nX x * (natW ws)[i]!) (tW ws)).2 = true ∧ fairR x ws (i : Int) = lowQ x.1 (nX x * (natW ws)[i]!) (tW ws)
theorem fairR_at {x : SI} {ws : List Int} {i : Nat} (hw : okW ws = true) (hx : okS x = true) (hi : i < ws.length) : fairR x ws (i : Int) = lowQ x.1 (nX x * (natW ws)[i]!) (tW ws) := by
  unfold fairR
  rw [if_pos ⟨hw, ⟨by omega, by omega⟩, hx⟩, Int.toNat_natCast]
  rfl
theorem good_of {x : SI} {ws : List Int} (h : okSh x ws = true) : Good x ws := by
  unfold okSh at h
  rw [Bool.and_eq_true, Bool.and_eq_true, List.all_eq_true] at h
  refine ⟨okW_parts h.1, h.2.1, fun i hi => ?_⟩
  have e := fairR_at h.1 h.2.1 hi
  have := h.2.2 i (List.mem_range.2 hi)
  rw [e] at this
  exact ⟨this, e⟩
theorem Good.tpos {x : SI} {ws : List Int} (h : Good x ws) : 0 < tW ws := h.wts.sum.2.1
/-- of each part: what rounding down gives, the rest -/
theorem Good.part {x : SI} {ws : List Int} (h : Good x ws) {i : Nat} (hi : i < ws.length) : restB (fairF x ws i) 0 = true ∧ restS (fairF x ws i) 0 = ofZ (sgZ x.1 (qN x ws i)) ∧ ValR (restQ (fairF x ws i) 0) (tW ws) (sgZ x.1 (rN x ws i)) ∧ roundR (fairF x ws i) 0 = (ofZ (sgZ x.1 (qN x ws i)), true) := by
  obtain ⟨h1, h2⟩ := h.fair i hi
  have h3 := fair_parts h1
  unfold fairF
  rw [h2]
  exact h3
/-- impl's own test: each rest can be had -/
theorem okSh_rests {x : SI} {ws : List Int} (hw : okW ws = true) : okSh x ws = (List.range ws.length).all fun i => restB (fairF x ws i) 0 := by
  have hl := (okW_parts hw).l1
  have no : ∀ i, restB (fairF x ws i) 0 = true → (fairR x ws (i : Int)).2 = true := by
    intro i h
    cases hf : (fairR x ws (i : Int)).2 with
    | true => rfl
    | false =>
      have hz : fairF x ws i = zeroQ := by
        unfold fairF
        unfold fairR at hf ⊢
        split
        · rename_i hc
          rw [if_pos hc] at hf
          unfold lowQ at hf ⊢
          split
          · rename_i hc2
            rw [if_pos hc2] at hf
            cases hf
          · rfl
        · rfl
      rw [hz] at h
      have hn := (rest_none (r := zeroQ) (m := 0) (fun hh => by have := hh.1; rw [show okQ zeroQ = false from rfl] at this; cases this)).2.1
      rw [hn] at h
      cases h
  rw [Bool.eq_iff_iff]
  constructor
  · intro h
    have hg := good_of h
    rw [List.all_eq_true]
    intro i hi
    exact (hg.part (List.mem_range.1 hi)).1
  · intro h
    rw [List.all_eq_true] at h
    unfold okSh
    rw [hw, Bool.true_and, Bool.and_eq_true, List.all_eq_true]
    refine ⟨?_, fun i hi => no i (h i hi)⟩
    have h0 := no 0 (h 0 (List.mem_range.2 (by omega)))
    unfold fairR at h0
    split at h0
    · rename_i hc; exact hc.2.2
    · cases h0
theorem okSh_no {x : SI} {ws : List Int} {i : Nat} (hi : i < ws.length) (h : (fairR x ws (i : Int)).2 = false) : okSh x ws = false := by
  cases ho : okSh x ws with
  | false => rfl
  | true =>
    unfold okSh at ho
    rw [Bool.and_eq_true, Bool.and_eq_true, List.all_eq_true] at ho
    rw [ho.2.2 i (List.mem_range.2 hi)] at h
    cases h
theorem sgZ_abs (n : Bool) (k : Nat) : (sgZ n k).natAbs = k := by unfold sgZ; split <;> omega
theorem sgZ_add (n : Bool) (a b : Nat) : sgZ n a + sgZ n b = sgZ n (a + b) := by unfold sgZ; split <;> omega
theorem valZ {n : Bool} {k : Nat} (h : (k : Int) < bp 50) : valS (ofZ (sgZ n k)) = sgZ n k := ofZ_val (limbs_length_le _ 50 (by rw [sgZ_abs]; exact h))
theorem nX_lt {x : SI} (h : okS x = true) : (nX x : Int) < bp 50 := by
  have hp := natOk_parts (okS_parts h).1
  have h1 := nval_lt _ hp.1
  have h2 := bp_mono hp.2.1
  have h3 := nval_ok (okS_parts h).1
  unfold nX
  omega
theorem x_val {x : SI} (h : okS x = true) : valS x = sgZ x.1 (nX x) := by
  have h3 := nval_ok (okS_parts h).1
  unfold valS sgZ nX
  split <;> omega
/-- the sum of numbers of one sign -/
theorem fold_sg (n : Bool) : ∀ (l : List Nat) (s : Nat), ((s + l.sum : Nat) : Int) < bp 50 → (l.map fun k => ofZ (sgZ n k)).foldl addS (ofZ (sgZ n s)) = ofZ (sgZ n (s + l.sum)) := by
  intro l
  induction l with
  | nil => intro s _; simp
  | cons a l ih =>
    intro s h
    rw [List.sum_cons] at h
    rw [List.map_cons, List.foldl_cons, addS_ok (ofZ_ok _) (ofZ_ok _), valZ (by omega), valZ (by omega), sgZ_add, ih (s + a) (by omega), List.sum_cons, Nat.add_assoc]
theorem sum_sg {n : Bool} {l : List Nat} (h : ((l.sum : Nat) : Int) < bp 50) : sumS (l.map fun k => ofZ (sgZ n k)) = ofZ (sgZ n l.sum) := by
  rw [sumS_ok (by rw [List.all_eq_true]; intro x hx; obtain ⟨k, _, rfl⟩ := List.mem_map.1 hx; exact ofZ_ok _)]
  have e : zeroS = ofZ (sgZ n 0) := by
    have : ofZ 0 = zeroS := by
      have h0 : limbs 0 = [] := (natOk_limbs (xs := []) rfl).symm
      unfold ofZ
      rw [show (0 : Int).natAbs = 0 from rfl, h0]
      rfl
    rw [show sgZ n 0 = 0 by unfold sgZ; split <;> rfl, this]
  have := fold_sg n l 0 (by rw [Nat.zero_add]; exact h)
  rw [Nat.zero_add] at this
  rw [← this, ← e]
  rfl
theorem parts_sum (x : SI) (ws : List Int) : ((List.range ws.length).map (qN x ws)).sum = ((natW ws).map fun y => nX x * y / tW ws).sum := by
  have := map_at (natW ws) (fun y => nX x * y / tW ws)
  rw [natW_length] at this
  rw [← this]
  rfl
theorem partsK_nil (x : SI) (ws : List Int) : partsK x ws [] = ((List.range ws.length).map (qN x ws)).map fun k => ofZ (sgZ x.1 k) := by
  unfold partsK
  rw [List.map_map]
  apply List.map_congr_left
  intro i _
  simp
theorem Good.qle {x : SI} {ws : List Int} (h : Good x ws) : ((natW ws).map fun y => nX x * y / tW ws).sum ≤ nX x := parts_le h.tpos
/-- how many units are missing, as both packages reckon it -/
theorem Good.miss {x : SI} {ws : List Int} (h : Good x ws) : numS (absS (subS x (sumS (partsK x ws [])))) = ((missN x ws : Int), true) ∧ missN x ws ≤ ws.length := by
  have hx := nX_lt h.okx
  have hq := h.qle
  have hml : missN x ws ≤ ws.length := by have := missing_le (X := nX x) h.tpos; rw [natW_length] at this; exact this
  have hl := h.wts.l2
  have b50 : (1000000000 : Int) ≤ bp 50 := bp50
  have e1 : sumS (partsK x ws []) = ofZ (sgZ x.1 ((natW ws).map fun y => nX x * y / tW ws).sum) := by
    rw [partsK_nil, sum_sg (by rw [parts_sum]; omega), parts_sum]
  have e2 : subS x (sumS (partsK x ws [])) = ofZ (sgZ x.1 (missN x ws)) := by
    rw [e1]
    unfold subS
    rw [if_pos ⟨h.okx, ofZ_ok _⟩, valZ (by omega), x_val h.okx]
    congr 1
    unfold missN sgZ
    split <;> omega
  have e3 : absS (ofZ (sgZ x.1 (missN x ws))) = ofZ (missN x ws : Int) := by
    unfold absS
    rw [if_pos (ofZ_ok _), valZ (by omega), sgZ_abs]
  have e4 : valS (ofZ (missN x ws : Int)) = (missN x ws : Int) := by
    have := valZ (n := false) (k := missN x ws) (by omega)
    exact this
  have h5 := valS_abs (ofZ (missN x ws : Int)) (okS_parts (ofZ_ok _)).1
  have h6 := nval_ok (okS_parts (ofZ_ok (missN x ws : Int))).1
  rw [e4] at h5
  have hle : nval (ofZ (missN x ws : Int)).2 ≤ 9223372036854775807 := by omega
  refine ⟨?_, hml⟩
  rw [e2, e3]
  unfold numS
  rw [if_pos ⟨ofZ_ok _, hle⟩, e4]
/-- one more unit in place p -/
theorem Good.bump {x : SI} {ws : List Int} (h : Good x ws) {C : List Nat} {p : Nat} (hp : p < ws.length) (hn : p ∉ C) (hm : 0 < missN x ws) : addS (ofZ (sgZ x.1 (qN x ws p))) (ofZ (sgZ x.1 1)) = ofZ (sgZ x.1 (qN x ws p + 1)) ∧ (partsK x ws C)[p]? = some (ofZ (sgZ x.1 (qN x ws p))) ∧ (partsK x ws C).set p (ofZ (sgZ x.1 (qN x ws p + 1))) = partsK x ws (p :: C) := by
  have hx := nX_lt h.okx
  have hq : qN x ws p + 1 ≤ nX x := by
    have h1 := h.qle
    rw [← parts_sum] at h1
    have h2 : qN x ws p ≤ ((List.range ws.length).map (qN x ws)).sum := by
      have : ∀ (l : List Nat) (a : Nat), a ∈ l → a ≤ l.sum := by
        intro l
        induction l with
        | nil => intro a ha; cases ha
        | cons b l ih =>
          intro a ha
          rw [List.sum_cons]
          rcases List.mem_cons.1 ha with rfl | ha
          · omega
          · have := ih a ha; omega
      exact this _ _ (List.mem_map.2 ⟨p, List.mem_range.2 hp, rfl⟩)
    have h3 : missN x ws = nX x - ((List.range ws.length).map (qN x ws)).sum := by rw [parts_sum]; rfl
    omega
  have b50 : (1000000000 : Int) ≤ bp 50 := bp50
  refine ⟨?_, ?_, ?_⟩
  · rw [addS_ok (ofZ_ok _) (ofZ_ok _), valZ (by omega), valZ (by omega), sgZ_add]
  · unfold partsK
    rw [List.getElem?_map, List.getElem?_range hp]
    simp [hn]
  · unfold partsK
    apply List.ext_getElem?
    intro i
    by_cases hi : i = p
    · subst hi
      rw [List.getElem?_set_self (by simp; exact hp), List.getElem?_map, List.getElem?_range hp]
      simp
    · rw [List.getElem?_set_ne (fun e => hi e.symm), List.getElem?_map, List.getElem?_map]
      cases hg : (List.range ws.length)[i]? with
      | none => rfl
      | some j =>
        have hj : j = i := by
          have := List.getElem?_eq_some_iff.1 hg
          simp at this
          omega
        subst hj
        simp [hi]
/-- the first places of an order are the ones that get a unit -/
theorem shares_top {x : SI} {ws : List Int} {C : List Nat} (h : Top (rN x ws) ws.length C) (hl : C.length = missN x ws) : partsK x ws C = sharesL x ws := by
  unfold partsK sharesL
  apply List.map_congr_left
  intro i hi
  have := top_rank h (List.mem_range.1 hi)
  rw [hl] at this
  by_cases hc : i ∈ C
  · rw [if_pos hc, if_pos (this.1 hc)]
  · rw [if_neg hc, if_neg (fun hh => hc (this.2 hh))]
theorem partsK_mem {x : SI} {ws : List Int} {C D : List Nat} (h : ∀ i, i ∈ C ↔ i ∈ D) : partsK x ws C = partsK x ws D := by
  unfold partsK
  apply List.map_congr_left
  intro i _
  by_cases hc : i ∈ C
  · rw [if_pos hc, if_pos ((h i).1 hc)]
  · rw [if_neg hc, if_neg (fun hh => hc ((h i).2 hh))]
/-- the sign of x, as impl takes it -/
def sgX (x : SI) : Int := cmpS x zeroS
theorem sgX_is {x : SI} (h : okS x = true) : sgX x = if nX x = 0 then 0 else sgZ x.1 1 := by
  have hz : valS zeroS = 0 := by unfold valS zeroS; rfl
  unfold sgX cmpS
  rw [if_pos ⟨h, rfl⟩, hz, x_val h]
  unfold cmpI sgZ
  split <;> split <;> split <;> omega
theorem sgX_small {x : SI} : -1 ≤ sgX x ∧ sgX x ≤ 1 := by
  unfold sgX cmpS
  split
  · unfold cmpI
    split
    · omega
    · split <;> omega
  · omega
/-- how impl compares two rests -/
theorem Good.cmp {x : SI} {ws : List Int} (h : Good x ws) {i j : Nat} (hi : i < ws.length) (hj : j < ws.length) : sgX x * cmpQ (restQ (fairF x ws j) 0) (restQ (fairF x ws i) 0) = cmpI (rN x ws j) (rN x ws i) := by
  rw [valR_cmp (h.part hj).2.2.1 (h.part hi).2.2.1 h.tpos, sgX_is h.okx]
  split
  · rename_i h0
    have e : ∀ k, rN x ws k = 0 := fun k => by unfold rN; rw [h0, Nat.zero_mul, Nat.zero_mod]
    rw [e, e, Int.zero_mul]
    rfl
  · unfold sgZ cmpI
    cases x.1
    · simp
    · simp only [if_true]
      split <;> split <;> (try split) <;> (try split) <;> omega
/-- while fewer places are taken than are missing, a scan finds one, and it is the next -/
theorem Good.next {x : SI} {ws : List Int} (h : Good x ws) {C : List Nat} (hC : Top (rN x ws) ws.length C) (hl : C.length < missN x ws) {b : Int} (hf : Found (fun i => if i ∈ C then 0 else rN x ws i) ws.length b) : ∃ p : Nat, b = p ∧ p < ws.length ∧ p ∉ C ∧ Top (rN x ws) ws.length (p :: C) := by
  rcases hf with ⟨rfl, h0⟩ | ⟨p, rfl, hp, hpos, hbest⟩
  · exfalso
    refine one_left (X := nX x) (w := natW ws) h.tpos hl (fun j hj hn => ?_)
    rw [natW_length] at hj
    have := h0 j hj
    simp only [if_neg hn] at this
    exact this
  · have hn : p ∉ C := fun hc => by simp only [if_pos hc] at hpos; omega
    refine ⟨p, rfl, hp, hn, top_cons hC hp hn (fun j hj hjn hne => ?_)⟩
    have := hbest j hj hne
    simp only [if_neg hjn, if_neg hn] at this
    unfold Ah
    omega
theorem sg_neg {n : Bool} {k : Nat} (h : cmpI (sgZ n k) 0 < 0) : -sgZ n k = (k : Int) := by
  have h1 : sgZ n k < 0 := by
    unfold cmpI at h
    split at h
    · assumption
    · split at h <;> omega
  cases n
  · exfalso
    have e : sgZ false k = k := rfl
    omega
  · have e : sgZ true k = -(k : Int) := rfl
    omega
theorem sg_pos {n : Bool} {k : Nat} (h : ¬ cmpI (sgZ n k) 0 < 0) : sgZ n k = (k : Int) := by
  have h1 : ¬ sgZ n k < 0 := by
    intro hh
    unfold cmpI at h
    rw [if_pos hh] at h
    omega
  cases n
  · rfl
  · have e : sgZ true k = -(k : Int) := rfl
    omega
/-- what spec takes for a rest's size -/
def lackQ (r : QI) : QI := if cmpQ (restQ r 0) oneQ < 0 then (negQ (restQ r 0)).1 else restQ r 0
theorem Good.lack {x : SI} {ws : List Int} (h : Good x ws) {i : Nat} (hi : i < ws.length) : ValR (lackQ (fairF x ws i)) (tW ws) (rN x ws i) := by
  have h1 := (h.part hi).2.2.1
  have h2 := valR_cmp h1 (valR_zero (tW ws)) h.tpos
  unfold lackQ
  rw [h2]
  split
  · rename_i hlt
    have h3 := (valR_neg h1).2
    rw [sg_neg hlt] at h3
    exact h3
  · rename_i hge
    rw [sg_pos hge] at h1
    exact h1
end Go.Proofs.YtofehcpapdlcnabGreatDoor

namespace Go.Proofs.YtofehcpapdlcnabGreatDoor
open Go.RowKit

def wtB (x : Int) : Bool := decide (0 ≤ x ∧ x ≤ 1000000000)
theorem sum_take {w : List Int} {k : Nat} (h : k < w.length) : (w.take (k + 1)).sum = (w.take k).sum + w[k] := by
  rw [List.take_succ_eq_append_getElem h, List.sum_append]
  simp
theorem sum_bounds {w : List Int} (h : w.all wtB = true) (hl : w.length ≤ 30) (k : Nat) : 0 ≤ (w.take k).sum ∧ (w.take k).sum ≤ 30000000000 := by
  have h1 : ∀ x ∈ w.take k, 0 ≤ x ∧ x ≤ 1000000000 := fun x hx => by
    have := List.all_eq_true.1 h x (List.mem_of_mem_take hx)
    exact of_decide_eq_true this
  obtain ⟨_, h2, h3⟩ := sum_nat _ h1
  have h4 : (w.take k).length ≤ 30 := by rw [List.length_take]; omega
  omega
theorem okW_yes {w : List Int} (h1 : 1 ≤ w.length) (h2 : w.length ≤ 30) (h : w.all wtB = true) : okW w = decide (0 < w.sum) := by
  unfold okW
  rw [decide_eq_true ⟨h1, h2⟩, show w.all (fun x => decide (0 ≤ x ∧ x ≤ 1000000000)) = true from h]
  rfl
theorem okW_badlen {w : List Int} (h : ¬ (1 ≤ w.length ∧ w.length ≤ 30)) : okW w = false := by
  unfold okW
  rw [decide_eq_false h]
  rfl
theorem okW_bad {w : List Int} (h : w.all wtB = false) : okW w = false := by
  unfold okW
  rw [show w.all (fun x => decide (0 ≤ x ∧ x ≤ 1000000000)) = false from h, Bool.and_false]
  rfl
theorem wt_succ (w : List Int) (k : Nat) (hk : k < w.length) (h : (w.take k).all wtB = true) (hd : wtB w[k] = true) : (w.take (k + 1)).all wtB = true := by
  rw [List.take_succ_eq_append_getElem hk, List.all_append, h]
  simp [hd]
theorem wt_not (w : List Int) (k : Nat) (hk : k < w.length) (hd : wtB w[k] = false) : w.all wtB = false := by
  rw [List.all_eq_false]
  exact ⟨w[k], List.getElem_mem hk, by rw [hd]; decide⟩
theorem wt_upto (w : List Int) (k : Nat) (h : (w.take k).all wtB = true) (hk : ¬ k < w.length) : w.all wtB = true := by
  rw [List.take_of_length_le (by omega)] at h; exact h

set_option maxHeartbeats 400000 in
set_option maxRecDepth 100000 in
theorem specSumW_any (v : Value) (xs : List Int) (lo hi : Nat) (w : World) (hl : xs.length ≤ 30) (ha : xs.all wtB = true) (hr : Row w lo hi v (intsV xs)) :
    Calls Tryz.prog 74 #[v] w fun e w' => e = .returned (.int .i64 xs.sum) ∧ w = w' := by
  obtain ⟨A, c, rfl, hA⟩ := hr
  have HA := Lib.hid hA
  have HB := Lib.hid (sum_bounds ha hl)
  rw [intsV_length]
  clear hA ha
  go_enter Tryz.func74, Tryz.ntmps74
  go_wp2
  go_loop [3, 8] (fun t i => ∃ k : Nat, k ≤ xs.length ∧ i = .int .i64 k ∧ t = .int .i64 (xs.take k).sum) (fun _ i => xs.length - (intOf i).toNat)
  case atStart => exact ⟨0, Nat.zero_le _, rfl, rfl⟩
  case round =>
    obtain ⟨k, hk, rfl, rfl⟩ := hrel
    by_cases hlt : k < xs.length
    · obtain ⟨a, rfl, _, _, hca⟩ := HA.out k _ (intsV_at xs k hlt)
      have HS := Lib.hid (sum_take hlt)
      have h1 := (HB.out k).1
      have h2 := (HB.out k).2
      have h3 := (HB.out (k + 1)).1
      have h4 := (HB.out (k + 1)).2
      rw [HS.out] at h3 h4
      generalize (xs.take k).sum = S at *
      go_wp2
      go_round
      case rel => exact ⟨k + 1, by omega, by go_num, by rw [HS.out]⟩
      case measure => simp [intOf]; omega
    · obtain rfl : k = xs.length := by omega
      rw [show (xs.take xs.length).sum = xs.sum by rw [List.take_length]]
      have h1 := (HB.out xs.length).1
      have h2 := (HB.out xs.length).2
      rw [List.take_length] at h1 h2
      go_wp2
      go_ret
      exact ⟨rfl, rfl⟩
set_option maxHeartbeats 400000 in
set_option maxRecDepth 100000 in
theorem implTotal_any (v : Value) (xs : List Int) (lo hi : Nat) (w : World) (hl : xs.length ≤ 30) (ha : xs.all wtB = true) (hr : Row w lo hi v (intsV xs)) :
    Calls Tryz.prog 117 #[v] w fun e w' => e = .returned (.int .i64 xs.sum) ∧ w = w' := by
  obtain ⟨A, c, rfl, hA⟩ := hr
  have HA := Lib.hid hA
  have HB := Lib.hid (sum_bounds ha hl)
  rw [intsV_length]
  clear hA ha
  go_enter Tryz.func117, Tryz.ntmps117
  go_wp2
  go_loop [3, 8] (fun t i => ∃ k : Nat, k ≤ xs.length ∧ i = .int .i64 k ∧ t = .int .i64 (xs.take k).sum) (fun _ i => xs.length - (intOf i).toNat)
  case atStart => exact ⟨0, Nat.zero_le _, rfl, rfl⟩
  case round =>
    obtain ⟨k, hk, rfl, rfl⟩ := hrel
    by_cases hlt : k < xs.length
    · obtain ⟨a, rfl, _, _, hca⟩ := HA.out k _ (intsV_at xs k hlt)
      have HS := Lib.hid (sum_take hlt)
      have h1 := (HB.out k).1
      have h2 := (HB.out k).2
      have h3 := (HB.out (k + 1)).1
      have h4 := (HB.out (k + 1)).2
      rw [HS.out] at h3 h4
      generalize (xs.take k).sum = S at *
      go_wp2
      go_round
      case rel => exact ⟨k + 1, by omega, by go_num, by rw [HS.out]⟩
      case measure => simp [intOf]; omega
    · obtain rfl : k = xs.length := by omega
      rw [show (xs.take xs.length).sum = xs.sum by rw [List.take_length]]
      have h1 := (HB.out xs.length).1
      have h2 := (HB.out xs.length).2
      rw [List.take_length] at h1 h2
      go_wp2
      go_ret
      exact ⟨rfl, rfl⟩
set_option maxHeartbeats 400000 in
set_option maxRecDepth 100000 in
theorem specWeightsOk_any (v : Value) (xs : List Int) (lo hi : Nat) (w : World) (hl : xs.length ≤ 9223372036854775807) (hr : Row w lo hi v (intsV xs)) :
    Calls Tryz.prog 42 #[v] w fun e w' => e = .returned (.bool (okW xs)) ∧ w = w' := by
  have HR := Lib.hid hr
  obtain ⟨A, c, rfl, hA⟩ := hr
  have HA := Lib.hid hA
  rw [intsV_length] at HR ⊢
  clear hA
  by_cases hb : 1 ≤ xs.length ∧ xs.length ≤ 30
  · have hin : decide ((1 : Int) ≤ xs.length ∧ (xs.length : Int) ≤ 30) = true := decide_eq_true (by omega)
    go_enter Tryz.func42, Tryz.ntmps42
    go_wp2_with (go_at_call 65; refine (specIn_any _ _ _ true _ hin).mono ?_; rintro e w' ⟨rfl, rfl⟩)
    go_loop [11] (fun i => ∃ k : Nat, k ≤ xs.length ∧ i = .int .i64 k ∧ Hid ((xs.take k).all wtB = true)) (fun i => xs.length - (intOf i).toNat)
    case atStart => exact ⟨0, Nat.zero_le _, rfl, Lib.hid rfl⟩
    case round =>
      obtain ⟨k, hk, rfl, HD⟩ := hrel
      by_cases hlt : k < xs.length
      · obtain ⟨a, rfl, _, _, hca⟩ := HA.out k _ (intsV_at xs k hlt)
        by_cases hd : wtB xs[k] = true
        · have HS := Lib.hid (wt_succ xs k hlt HD.out hd)
          go_wp2_with (go_at_call 65; refine (specIn_any _ _ _ true _ hd).mono ?_; rintro e w' ⟨rfl, rfl⟩)
          go_round
          case rel => exact ⟨k + 1, by omega, by go_num, HS⟩
          case measure => simp [intOf]; omega
        · have hd' : wtB xs[k] = false := by simpa using hd
          have HN := Lib.hid (okW_bad (wt_not xs k hlt hd'))
          go_wp2_with (go_at_call 65; refine (specIn_any _ _ _ false _ hd').mono ?_; rintro e w' ⟨rfl, rfl⟩)
          go_ret
          exact ⟨ret_bool HN.out.symm, rfl⟩
      · have HF := Lib.hid (wt_upto xs k HD.out hlt)
        have HK := Lib.hid (okW_yes hb.1 hb.2 HF.out)
        go_wp2_with (go_at_call 74; refine (specSumW_any _ xs _ _ _ hb.2 HF.out HR.out).mono ?_; rintro e w' ⟨rfl, rfl⟩)
        go_ret
        exact ⟨ret_bool (by rw [HK.out]), rfl⟩
  · have hin : decide ((1 : Int) ≤ xs.length ∧ (xs.length : Int) ≤ 30) = false := decide_eq_false (by omega)
    have HN := Lib.hid (okW_badlen hb)
    clear hb
    go_enter Tryz.func42, Tryz.ntmps42
    go_wp2_with (go_at_call 65; refine (specIn_any _ _ _ false _ hin).mono ?_; rintro e w' ⟨rfl, rfl⟩)
    go_ret
    exact ⟨ret_bool HN.out.symm, rfl⟩
set_option maxHeartbeats 400000 in
set_option maxRecDepth 100000 in
theorem implWeightsOk_any (v : Value) (xs : List Int) (lo hi : Nat) (w : World) (hl : xs.length ≤ 9223372036854775807) (hr : Row w lo hi v (intsV xs)) :
    Calls Tryz.prog 86 #[v] w fun e w' => e = .returned (.bool (okW xs)) ∧ w = w' := by
  have HR := Lib.hid hr
  obtain ⟨A, c, rfl, hA⟩ := hr
  have HA := Lib.hid hA
  rw [intsV_length] at HR ⊢
  clear hA
  by_cases hb : xs.length ≤ 30
  · go_enter Tryz.func86, Tryz.ntmps86
    go_wp2
    go_loop [10] (fun i => ∃ k : Nat, k ≤ xs.length ∧ i = .int .i64 k ∧ Hid ((xs.take k).all wtB = true)) (fun i => xs.length - (intOf i).toNat)
    case atStart => exact ⟨0, Nat.zero_le _, rfl, Lib.hid rfl⟩
    case round =>
      obtain ⟨k, hk, rfl, HD⟩ := hrel
      by_cases hlt : k < xs.length
      · obtain ⟨a, rfl, _, _, hca⟩ := HA.out k _ (intsV_at xs k hlt)
        by_cases hd : wtB xs[k] = true
        · have HS := Lib.hid (wt_succ xs k hlt HD.out hd)
          have hd2 : 0 ≤ xs[k] ∧ xs[k] ≤ 1000000000 := of_decide_eq_true hd
          have hd3 := hd2.1
          have hd4 := hd2.2
          clear hd2 hd
          go_wp2
          go_round
          case rel => exact ⟨k + 1, by omega, by go_num, HS⟩
          case measure => simp [intOf]; omega
        · have hd' : wtB xs[k] = false := by simpa using hd
          have HN := Lib.hid (okW_bad (wt_not xs k hlt hd'))
          have hd2 : ¬ (0 ≤ xs[k] ∧ xs[k] ≤ 1000000000) := of_decide_eq_false hd'
          clear hd hd'
          by_cases hneg : xs[k] < 0
          · go_wp2
            go_ret
            exact ⟨ret_bool HN.out.symm, rfl⟩
          · have hbig : 1000000000 < xs[k] := by omega
            clear hd2
            go_wp2
            go_ret
            exact ⟨ret_bool HN.out.symm, rfl⟩
      · have HF := Lib.hid (wt_upto xs k HD.out hlt)
        have HK := Lib.hid (show okW xs = decide (0 < xs.sum) from by
          by_cases h1 : 1 ≤ xs.length
          · exact okW_yes h1 hb HF.out
          · rw [okW_badlen (fun h => h1 h.1), List.eq_nil_of_length_eq_zero (l := xs) (by omega)]
            rfl)
        go_wp2_with (go_at_call 117; refine (implTotal_any _ xs _ _ _ hb HF.out HR.out).mono ?_; rintro e w' ⟨rfl, rfl⟩)
        go_ret
        exact ⟨ret_bool (by rw [HK.out]), rfl⟩
  · have HN := Lib.hid (okW_badlen (w := xs) (by omega))
    have hb2 : (30 : Int) < xs.length := by omega
    go_enter Tryz.func86, Tryz.ntmps86
    go_wp2
    go_ret
    exact ⟨ret_bool HN.out.symm, rfl⟩
end Go.Proofs.YtofehcpapdlcnabGreatDoor

namespace Go.Proofs.YtofehcpapdlcnabGreatDoor
open Go.RowKit

/-- the words in which FairShare's answers are said -/
theorem newQb_chgS {R0 : QI} {R1 : Bool} {S T : List Nat} {v : Value} {w W : World} (o : At S (OwnQ v R0) W) (hd : ∀ i ∈ S, i ∉ T) (hT : ∀ i ∈ T, w.heap.size ≤ i) (l : ∀ i ∈ S, w.heap.size ≤ i) (hW : Below w.heap.size w W) :
    ∀ W', Chg T W W' → PostQb R0 R1 w (.returned (.tuple #[v, .bool R1])) W' :=
  fun _ hc => ⟨v, S, rfl, o.chg hc hd, fun i hi => ⟨l i hi, Nat.lt_of_lt_of_le (o.lt i hi) hc.size⟩, below_chg hW hc hW.size hT⟩
theorem newQb_zeroS {T : List Nat} {w W : World} (hT : ∀ i ∈ T, w.heap.size ≤ i) (hW : Below w.heap.size w W) : ∀ W', Chg T W W' → PostQb zeroQ false w (.returned (.tuple #[.agg #[.bool false, .slice none 0 0, .slice none 0 0], .bool false])) W' :=
  newQb_chgS (S := []) ⟨ownQ_zero _, fun _ hg => absurd hg List.not_mem_nil, fun w' _ => ownQ_zero w'⟩ (fun _ hg => absurd hg List.not_mem_nil) hT (fun _ hg => absurd hg List.not_mem_nil) hW
theorem postQb_isS {q : QI × Bool} {X : QI} {b : Bool} (e : q = (X, b)) {w w' : World} {n : Ending} (h : PostQb q.1 q.2 w n w') : PostQb X b w n w' := by rw [e] at h; exact h
theorem same_below {e : Ending} {w w' : World} {v : Value} (h : e = .returned v ∧ w = w') : e = .returned v ∧ Below w.heap.size w w' := by obtain ⟨h1, rfl⟩ := h; exact ⟨h1, Below.refl _ _⟩
theorem ofZ_szF (z : Int) : szS (ofZ z) ≤ 1048576 := by have := ofZ_len z; unfold szS szI; omega
theorem natW_len2 {w : List Int} (h : PartsW w) : (limbs (natW w).sum).length ≤ 2 := limbs_length_le _ 2 (by have := h.sum; have e : bp 2 = 1000000000000000000 := rfl; omega)
theorem fair_yes {x : SI} {ws : List Int} {k : Nat} (hw : okW ws = true) (hk : k < ws.length) (hx : okS x = true) : fairR x ws (k : Int) = lowQ x.1 ((nval x.2).toNat * (natW ws)[k]!) (natW ws).sum := by
  unfold fairR
  rw [if_pos ⟨hw, ⟨by omega, by omega⟩, hx⟩, Int.toNat_natCast]
theorem fair_no {x : SI} {ws : List Int} {i : Int} (h : ¬ (okW ws = true ∧ (0 ≤ i ∧ i < ws.length) ∧ okS x = true)) : fairR x ws i = (zeroQ, false) := by unfold fairR; rw [if_neg h]
theorem newV_ints {n m : Nat} {w w' : World} {e : Ending} (h : NewInts (limbs n) w e w') (hn : n = m) : NewV (fun v => OwnI v (limbs m)) w e w' := by subst hn; exact h.newV
theorem newV_limbs {n m : Nat} {w w' : World} {e : Ending} (h : NewInts (limbs n) w e w') (hn : n = m) : NewV (fun v => OwnI v (limbs m)) w e w' := by subst hn; exact h.newV
end Go.Proofs.YtofehcpapdlcnabGreatDoor

namespace Go.Proofs.YtofehcpapdlcnabGreatDoor
open Go.RowKit

theorem newQ_chgS {R0 : QI} {S T : List Nat} {v : Value} {w W : World} (o : At S (OwnQ v R0) W) (hd : ∀ i ∈ S, i ∉ T) (hT : ∀ i ∈ T, w.heap.size ≤ i) (l : ∀ i ∈ S, w.heap.size ≤ i) (hW : Below w.heap.size w W) :
    ∀ W', Chg T W W' → NewV (fun u => OwnQ u R0) w (.returned v) W' :=
  fun _ hc => ⟨v, S, rfl, o.chg hc hd, fun i hi => ⟨l i hi, Nat.lt_of_lt_of_le (o.lt i hi) hc.size⟩, below_chg hW hc hW.size hT⟩
theorem restQ_szP (r : QI) : szQ (restQ r 0) ≤ 1048576 := by
  unfold restQ
  split
  · exact subQ_szQ _ _
  · decide
set_option maxHeartbeats 4000000 in
set_option maxRecDepth 100000 in
theorem specSize_any (v : Value) (r : QI) (w : World) (hz : szQ r ≤ 1048576) (h : OwnQ v r w) :
    Calls Tryz.prog 41 #[v] w (NewV (fun u => OwnQ u (lackQ r)) w) := by
  have Hr := Lib.hid h
  obtain ⟨Ar, cr, Br, dr, rfl⟩ := ownQ_form h
  have OQr := Lib.hid (show ∀ W, Below w.heap.size w W → OwnQ (.agg #[.bool r.1.1, .slice Ar r.1.2.length cr, .slice Br r.2.length dr]) r W from fun W hb => OwnQ.below Hr.out hb)
  clear h Hr
  have bb0 : Below w.heap.size w ((w.alloc (.cells #[.bool r.1.1, .slice Ar r.1.2.length cr, .slice Br r.2.length dr] 63)).alloc (.cells #[.bool false, .slice none 0 0, .slice none 0 0] 63)) := below_al (below_al (Below.refl _ _) _) _
  have kr := (box_new w #[.bool r.1.1, .slice Ar r.1.2.length cr, .slice Br r.2.length dr] 63).below (below_al (Below.refl _ _) (.cells #[.bool false, .slice none 0 0, .slice none 0 0] 63))
  have ko := (box_new (w.alloc (.cells #[.bool r.1.1, .slice Ar r.1.2.length cr, .slice Br r.2.length dr] 63)) #[.bool false, .slice none 0 0, .slice none 0 0] 63)
  rw [show (w.alloc (.cells #[.bool r.1.1, .slice Ar r.1.2.length cr, .slice Br r.2.length dr] 63)).heap.size = w.heap.size + 1 by simp] at ko
  have hzr := restQ_szP r
  have HLQ := Lib.hid (show lackQ r = if cmpQ (restQ r 0) oneQ < 0 then (negQ (restQ r 0)).1 else restQ r 0 from rfl)
  go_enter Tryz.func41, Tryz.ntmps41
  have kr_c0 := kr.here.cell 0 _ rfl
  have kr_c1 := kr.here.cell 1 _ rfl
  have kr_c2 := kr.here.cell 2 _ rfl
  go_wp2_with fail
  clear kr_c0 kr_c1 kr_c2
  refine (specRatRest_any _ r 0 _ hz (OQr.out _ bb0)).mono ?_
  rintro e w1 ⟨u1, v1, S1, T1, rfl, o1, q1, ap1, l1, k1, b1⟩
  obtain ⟨A1, c1, rfl⟩ := ownS_form o1.here
  obtain ⟨A2, c2, B2, d2, rfl⟩ := ownQ_form q1.here
  have bb1 := Below.next bb0 b1
  replace kr := kr.below b1
  replace ko := ko.below b1
  have hko := ko.lt (w.heap.size + 1) (by simp)
  go_upto_region 2 with fail
  have al2 : Below w1.heap.size w1 ((w1.alloc (.cells #[.bool (restS r 0).1, .slice A1 (restS r 0).2.length c1] 29)).alloc (.cells #[.bool (restQ r 0).1.1, .slice A2 (restQ r 0).1.2.length c2, .slice B2 (restQ r 0).2.length d2] 63)) := Below.next (below_al (Below.refl _ _) _) (below_al (Below.refl _ _) _)
  have kb := box_new (w1.alloc (.cells #[.bool (restS r 0).1, .slice A1 (restS r 0).2.length c1] 29)) #[.bool (restQ r 0).1.1, .slice A2 (restQ r 0).1.2.length c2, .slice B2 (restQ r 0).2.length d2] 63
  rw [show (w1.alloc (.cells #[.bool (restS r 0).1, .slice A1 (restS r 0).2.length c1] 29)).heap.size = w1.heap.size + 1 by simp] at kb
  have bb2 := Below.next bb1 al2
  replace kr := kr.below al2
  replace ko := ko.below al2
  replace o1 := o1.below al2
  replace q1 := q1.below al2
  obtain ⟨w2, hw2⟩ : ∃ W, W = ((w1.alloc (.cells #[.bool (restS r 0).1, .slice A1 (restS r 0).2.length c1] 29)).alloc (.cells #[.bool (restQ r 0).1.1, .slice A2 (restQ r 0).1.2.length c2, .slice B2 (restQ r 0).2.length d2] 63)) := ⟨_, rfl⟩
  rw [← hw2] at kb kr ko o1 q1 bb2 ⊢
  clear hw2 al2
  have kb_c0 := kb.here.cell 0 _ rfl
  have kb_c1 := kb.here.cell 1 _ rfl
  have kb_c2 := kb.here.cell 2 _ rfl
  go_wp2_with fail
  clear kb_c0 kb_c1 kb_c2
  refine (specRatSign_any _ (restQ r 0) _ hzr q1.here).mono ?_
  rintro e w3 ⟨rfl, b3⟩
  have bb3 := Below.next bb2 b3
  replace kr := kr.below b3
  replace ko := ko.below b3
  replace o1 := o1.below b3
  replace q1 := q1.below b3
  replace kb := kb.below b3
  by_cases hneg : cmpQ (restQ r 0) oneQ < 0
  · rw [if_pos hneg] at HLQ
    have hkb := kb.lt (w1.heap.size + 1) (by simp)
    have kb_c0 := kb.here.cell 0 _ rfl
    have kb_c1 := kb.here.cell 1 _ rfl
    have kb_c2 := kb.here.cell 2 _ rfl
    go_wp2_with fail
    clear kb_c0 kb_c1 kb_c2
    refine (specRatNeg_any _ (restQ r 0) _ hzr q1.here).mono ?_
    rintro e w4 ⟨u4, S4, rfl, o4, l4, b4⟩
    obtain ⟨A4, c4, B4, d4, rfl⟩ := ownQ_form o4.here
    have bb4 := Below.next bb3 b4
    replace kr := kr.below b4
    replace ko := ko.below b4
    replace o1 := o1.below b4
    replace q1 := q1.below b4
    replace kb := kb.below b4
    have hkz := b4.size
    have hlow : ∀ i ∈ S4, w.heap.size + 1 < i ∧ i ≠ w1.heap.size + 1 := fun i hi => by have h1 := (l4 i hi).1; have h2 := hkz; omega
    have HW := Lib.hid (newQ_chgS (R0 := (negQ (restQ r 0)).1) (v := .agg #[.bool (negQ (restQ r 0)).1.1.1, .slice A4 (negQ (restQ r 0)).1.1.2.length c4, .slice B4 (negQ (restQ r 0)).1.2.length d4]) (T := [w.heap.size + 1, w1.heap.size + 1]) o4 (fun i hi hm => by have := hlow i hi; simp at hm; omega) (fun i hi => by simp at hi; omega) (fun i hi => by have := hlow i hi; omega) bb4)
    have cz0 := ko.here.cell 0 _ rfl
    have fz0 := Lib.frozen_of_heap ko.here 0
    have cz1 := ko.here.cell 1 _ rfl
    have fz1 := Lib.frozen_of_heap ko.here 1
    have cz2 := ko.here.cell 2 _ rfl
    have fz2 := Lib.frozen_of_heap ko.here 2
    have cy0 := kb.here.cell 0 _ rfl
    have fy0 := Lib.frozen_of_heap kb.here 0
    have cy1 := kb.here.cell 1 _ rfl
    have fy1 := Lib.frozen_of_heap kb.here 1
    have cy2 := kb.here.cell 2 _ rfl
    have fy2 := Lib.frozen_of_heap kb.here 2
    clear ko kb q1 o1 o4 l1 k1 l4 kr
    go_wp2
    refine bodyPost_ret (v := .agg #[.bool (negQ (restQ r 0)).1.1.1, .slice A4 (negQ (restQ r 0)).1.1.2.length c4, .slice B4 (negQ (restQ r 0)).1.2.length d4]) (by simp [results, Tryz.results41, go_sem, cz0, cz1, cz2]) rfl ?_
    rw [HLQ.out]
    refine HW.out _ ?_
    repeat (first | with_reducible exact Chg.refl _ _ | with_reducible refine Chg.setCell ?_ (by simp) _ | with_reducible refine Chg.drew1 ?_)
  · rw [if_neg hneg] at HLQ
    have hlow : ∀ i ∈ T1, w.heap.size + 1 < i ∧ i ≠ w1.heap.size + 1 := fun i hi => by have h1 := k1 i hi; simp at h1; omega
    have HW := Lib.hid (newQ_chgS (R0 := (restQ r 0)) (v := .agg #[.bool (restQ r 0).1.1, .slice A2 (restQ r 0).1.2.length c2, .slice B2 (restQ r 0).2.length d2]) (T := [w.heap.size + 1, w1.heap.size + 1]) q1 (fun i hi hm => by have := hlow i hi; simp at hm; omega) (fun i hi => by simp at hi; omega) (fun i hi => by have := hlow i hi; omega) bb3)
    have cz0 := ko.here.cell 0 _ rfl
    have fz0 := Lib.frozen_of_heap ko.here 0
    have cz1 := ko.here.cell 1 _ rfl
    have fz1 := Lib.frozen_of_heap ko.here 1
    have cz2 := ko.here.cell 2 _ rfl
    have fz2 := Lib.frozen_of_heap ko.here 2
    have cy0 := kb.here.cell 0 _ rfl
    have fy0 := Lib.frozen_of_heap kb.here 0
    have cy1 := kb.here.cell 1 _ rfl
    have fy1 := Lib.frozen_of_heap kb.here 1
    have cy2 := kb.here.cell 2 _ rfl
    have fy2 := Lib.frozen_of_heap kb.here 2
    clear ko kb q1 o1 l1 k1 kr
    go_wp2
    refine bodyPost_ret (v := .agg #[.bool (restQ r 0).1.1, .slice A2 (restQ r 0).1.2.length c2, .slice B2 (restQ r 0).2.length d2]) (by simp [results, Tryz.results41, go_sem, cz0, cz1, cz2]) rfl ?_
    rw [HLQ.out]
    refine HW.out _ ?_
    repeat (first | with_reducible exact Chg.refl _ _ | with_reducible refine Chg.setCell ?_ (by simp) _ | with_reducible refine Chg.drew1 ?_)
end Go.Proofs.YtofehcpapdlcnabGreatDoor

namespace Go.Proofs.YtofehcpapdlcnabGreatDoor
open Go.RowKit

/-- block b holds n places, f of them -/
def PL (b n : Nat) (f : Nat → Nat) (w : World) : Prop := ∀ k, k < n → w.cell? ⟨b, k, none⟩ = some (.int .i64 (f k)) ∧ w.frozen? ⟨b, k, none⟩ = false
theorem PL.c {b n : Nat} {f : Nat → Nat} {w : World} (h : PL b n f w) (k : Nat) (hk : k < n) : w.cell? ⟨b, k, none⟩ = some (.int .i64 (f k)) := (h k hk).1
theorem PL.f {b n : Nat} {f : Nat → Nat} {w : World} (h : PL b n f w) (k : Nat) (hk : k < n) : w.frozen? ⟨b, k, none⟩ = false := (h k hk).2
theorem PL.drew {b n : Nat} {f : Nat → Nat} {w : World} (h : PL b n f w) : PL b n f w.drew := fun k hk => h k hk
theorem frozen_below {w w' : World} {a : Addr} (hb : Below w.heap.size w w') (h : a.block < w.heap.size) : w'.frozen? a = w.frozen? a := by
  have := hb.block a.block h
  unfold World.frozen?
  rw [this]
theorem PL.below {b n : Nat} {f : Nat → Nat} {w w' : World} (h : PL b n f w) (hl : b < w.heap.size) (hb : Below w.heap.size w w') : PL b n f w' :=
  fun k hk => ⟨(hb.cell (p := ⟨b, k, none⟩) hl).trans (h.c k hk), (frozen_below (a := ⟨b, k, none⟩) hb hl).trans (h.f k hk)⟩
theorem PL.swap {b n : Nat} {f : Nat → Nat} {w : World} (h : PL b n f w) {i j : Nat} (hi : i < n) (hj : j < n) :
    PL b n (swp f i j) ((w.setCell ⟨b, i, none⟩ (.int .i64 (f j))).setCell ⟨b, j, none⟩ (.int .i64 (f i))) := by
  intro k hk
  refine ⟨?_, by rw [World.frozen?_setCell, World.frozen?_setCell]; exact h.f k hk⟩
  by_cases e2 : k = j
  · subst e2
    have hc : (w.setCell ⟨b, i, none⟩ (.int .i64 (f k))).cell? ⟨b, k, none⟩ ≠ none := by
      by_cases e : k = i
      · subst e; rw [World.cell?_setCell_same _ _ _ (h.c k hk)]; simp
      · rw [World.cell?_setCell_other _ _ _ _ (by intro e'; simp only [Addr.mk.injEq] at e'; omega), h.c k hk]; simp
    obtain ⟨u, hu⟩ := Option.ne_none_iff_exists'.1 hc
    rw [World.cell?_setCell_same _ _ _ hu]
    unfold swp
    by_cases e : k = i
    · rw [if_pos e, e]
    · rw [if_neg e, if_pos rfl]
  · rw [World.cell?_setCell_other _ _ _ _ (by intro e'; simp only [Addr.mk.injEq] at e'; omega)]
    by_cases e : k = i
    · subst e
      rw [World.cell?_setCell_same _ _ _ (h.c k hk)]
      unfold swp
      rw [if_pos rfl]
    · rw [World.cell?_setCell_other _ _ _ _ (by intro e'; simp only [Addr.mk.injEq] at e'; omega), h.c k hk]
      unfold swp
      rw [if_neg e, if_neg e2]
/-- behind the first store the second place still holds something -/
theorem PL.second {b n : Nat} {f : Nat → Nat} {w : World} (h : PL b n f w) {i j : Nat} (hi : i < n) (hj : j < n) (v : Value) : ∃ u, (w.setCell ⟨b, i, none⟩ v).cell? ⟨b, j, none⟩ = some u := by
  by_cases e : i = j
  · subst e; exact ⟨v, World.cell?_setCell_same _ _ _ (h.c i hi)⟩
  · exact ⟨_, (World.cell?_setCell_other _ _ _ _ (by intro e'; simp only [Addr.mk.injEq] at e'; omega)).trans (h.c j hj)⟩
theorem Chg.swap {b : Nat} {w W : World} (h : Chg [b] w W) (i j : Nat) (x y : Value) : Chg [b] w ((W.setCell ⟨b, i, none⟩ x).setCell ⟨b, j, none⟩ y) := (h.setCell (by simp) x).setCell (by simp) y
theorem Chg.drewS {T : List Nat} {w w1 : World} (h : Chg T w w1) : Chg T w w1.drew := ⟨h.os, h.tape, h.output, h.size, h.block⟩

set_option maxHeartbeats 1000000 in
set_option maxRecDepth 100000 in
theorem swapRange_any (bl n0 cap a b n : Nat) (f : Nat → Nat) (fv : Value) (w : World) (hp : PL bl n0 f w) (hab : a + n ≤ b) (hb : b + n ≤ n0) (hn0 : n0 ≤ 30) :
    Calls Tryz.prog 177 #[.slice (some ⟨bl, 0, none⟩) n0 cap, .int .i64 a, .int .i64 b, .int .i64 n, fv] w fun e w' => e = .returned (.tuple #[]) ∧ PL bl n0 (swpR f a b n) w' ∧ Chg [bl] w w' := by
  have HP := Lib.hid hp
  clear hp
  go_enter Tryz.func177, Tryz.ntmps177
  go_wp2
  go_loopw [10] (fun vi wr => ∃ k : Nat, k ≤ n ∧ vi = .int .i64 k ∧ Hid (PL bl n0 (swpR f a b k) wr) ∧ Hid (Chg [bl] w wr)) (fun vi _ => n - (intOf vi).toNat)
  case atStart => exact ⟨0, Nat.zero_le _, rfl, Lib.hid (by rw [swpR_zero]; exact HP.out), Lib.hid (Chg.refl _ _)⟩
  case round =>
    clear HP
    obtain ⟨k, hk, rfl, HR, HC⟩ := hrel
    by_cases hlt : k < n
    · have ca := HR.out.c (a + k) (by omega)
      have cb := HR.out.c (b + k) (by omega)
      have fa := HR.out.f (a + k) (by omega)
      have fb := HR.out.f (b + k) (by omega)
      have HS := Lib.hid (HR.out.swap (i := a + k) (j := b + k) (by omega) (by omega))
      have HE := Lib.hid (swpR_succ f a b k (by omega))
      have ea : ((a : Int) + (k : Int)).toNat = a + k := by omega
      have eb : ((b : Int) + (k : Int)).toNat = b + k := by omega
      obtain ⟨x, hx⟩ : ∃ x, x = swpR f a b k (a + k) := ⟨_, rfl⟩
      obtain ⟨y, hy⟩ : ∃ y, y = swpR f a b k (b + k) := ⟨_, rfl⟩
      obtain ⟨u, cc⟩ := HR.out.second (i := a + k) (j := b + k) (by omega) (by omega) (.int .i64 y)
      rw [← hx, ← hy] at HS
      rw [← hx] at ca
      rw [← hy] at cb
      clear hx hy
      go_wp2_with fail
      go_region
      clear ca cb fa fb cc
      go_wp2
      go_roundw
      case rel => refine ⟨k + 1, by omega, by go_num, Lib.hid (by rw [← HE.out]; exact HS.out), Lib.hid ?_⟩; exact (HC.out.swap _ _ _ _).drewS
      case measure => simp [intOf]; omega
    · obtain rfl : k = n := by omega
      go_wp2
      go_end0
      exact ⟨rfl, HR.out, HC.out⟩
set_option maxHeartbeats 1000000 in
set_option maxRecDepth 100000 in
theorem rotate_any (bl n0 cap a m b : Nat) (f : Nat → Nat) (fv : Value) (w : World) (hp : PL bl n0 f w) (ham : a < m) (hmb : m < b) (hb : b ≤ n0) (hn0 : n0 ≤ 30) :
    Calls Tryz.prog 164 #[.slice (some ⟨bl, 0, none⟩) n0 cap, .int .i64 a, .int .i64 m, .int .i64 b, fv] w fun e w' => e = .returned (.tuple #[]) ∧ PL bl n0 (rot f a m b) w' ∧ Chg [bl] w w' := by
  have HP := Lib.hid hp
  clear hp
  have e0 : (m : Int) - (a : Int) = ((m - a : Nat) : Int) := by omega
  have e1 : (b : Int) - (m : Int) = ((b - m : Nat) : Int) := by omega
  go_enter Tryz.func164, Tryz.ntmps164
  go_wp2
  go_loopw [10, 11] (fun vi vj wr => ∃ (i j : Nat) (g : Nat → Nat), vi = .int .i64 i ∧ vj = .int .i64 j ∧ 0 < i ∧ 0 < j ∧ i ≤ m ∧ m + j ≤ n0 ∧ Hid (PL bl n0 g wr) ∧ Hid (Chg [bl] w wr) ∧ Hid (rot g (m - i) m (m + j) = rot f a m b)) (fun vi vj _ => (intOf vi).toNat + (intOf vj).toNat)
  case atStart => exact ⟨m - a, b - m, f, rfl, rfl, by omega, by omega, by omega, by omega, HP, Lib.hid (Chg.refl _ _), Lib.hid (by rw [show m - (m - a) = a by omega, show m + (b - m) = b by omega])⟩
  case round =>
    clear HP
    try clear e0 e1
    obtain ⟨i, j, g, rfl, rfl, hi, hj, him, hjn, HR, HC, HE⟩ := hrel
    have ei : (m : Int) - (i : Int) = ((m - i : Nat) : Int) := by omega
    rcases Nat.lt_trichotomy i j with h | h | h
    · have hne : ((i : Int) == (j : Int)) = false := by rw [beq_eq_false_iff_ne]; omega
      have hgt : ¬ (j : Int) < (i : Int) := by omega
      have ej : (m : Int) + (j : Int) - (i : Int) = ((m + j - i : Nat) : Int) := by omega
      go_wp2_with fail
      refine (swapRange_any bl n0 _ (m - i) (m + j - i) i g _ _ HR.out (by omega) (by omega) hn0).mono ?_
      rintro e w1 ⟨rfl, hp1, c1⟩
      have HR1 := Lib.hid hp1
      have HC1 := Lib.hid (HC.out.trans c1)
      have HE1 := Lib.hid ((rot_right g m i j h him).trans HE.out)
      clear hp1 c1
      go_wp2
      go_roundw
      case rel => exact ⟨i, j - i, _, rfl, by first | rfl | (congr 1; omega), hi, by omega, him, by omega, HR1, HC1, HE1⟩
      case measure => simp [intOf]; omega
    · subst h
      go_wp2_with fail
      refine (swapRange_any bl n0 _ (m - i) m i g _ _ HR.out (by omega) (by omega) hn0).mono ?_
      rintro e w1 ⟨rfl, hp1, c1⟩
      go_wp2
      go_end0
      exact ⟨rfl, by rw [← HE.out, ← rot_end g m i him]; exact hp1, HC.out.trans c1⟩
    · have hne : ((i : Int) == (j : Int)) = false := by rw [beq_eq_false_iff_ne]; omega
      have hgt : (j : Int) < (i : Int) := by omega
      go_wp2_with fail
      refine (swapRange_any bl n0 _ (m - i) m j g _ _ HR.out (by omega) (by omega) hn0).mono ?_
      rintro e w1 ⟨rfl, hp1, c1⟩
      have HR1 := Lib.hid hp1
      have HC1 := Lib.hid (HC.out.trans c1)
      have HE1 := Lib.hid ((rot_left g m i j h him).trans HE.out)
      clear hp1 c1
      go_wp2
      go_roundw
      case rel => exact ⟨i - j, j, _, by first | rfl | (congr 1; omega), rfl, by omega, hj, by omega, hjn, HR1, HC1, HE1⟩
      case measure => simp [intOf]; omega
end Go.Proofs.YtofehcpapdlcnabGreatDoor

namespace Go.Proofs.YtofehcpapdlcnabGreatDoor
open Go.RowKit

/-- the comparison: in every world that differs from w0 in the row of places alone, it tells the greater rest -/
def CmpAt (g : Nat) (cb : Array Value) (r : Nat → Nat) (bl n0 : Nat) (w0 : World) : Prop :=
  (∀ args w, (callFunc g args).run Tryz.prog w = .ok (.enter g args) w) ∧
  ∀ W, Chg [bl] w0 W → ∀ x y : Nat, x < n0 → y < n0 → Calls Tryz.prog g (#[.int .i64 x, .int .i64 y] ++ cb) W fun e w' => e = .returned (.int .i64 (cmpI (r y) (r x))) ∧ Below W.heap.size W w'
/-- the places as they lie in a sort's world -/
structure PLW (bl n0 : Nat) (f : Nat → Nat) (w0 w : World) : Prop where
  pl : PL bl n0 f w
  ch : Chg [bl] w0 w
  lt : bl < w.heap.size
  bd : ∀ k, k < n0 → f k < n0
theorem PLW.below {bl n0 : Nat} {f : Nat → Nat} {w0 w w' : World} (h : PLW bl n0 f w0 w) (hb : Below w.heap.size w w') : PLW bl n0 f w0 w' :=
  ⟨h.pl.below h.lt hb, h.ch.trans (Chg.of_below hb), Nat.lt_of_lt_of_le h.lt hb.size, h.bd⟩
theorem PLW.chg {bl n0 : Nat} {f g : Nat → Nat} {w0 w w' : World} (h : PLW bl n0 f w0 w) (hp : PL bl n0 g w') (hc : Chg [bl] w w') {a b : Nat} (hs : Same a b f g) (hb : b ≤ n0) : PLW bl n0 g w0 w' := by
  refine ⟨hp, h.ch.trans hc, Nat.lt_of_lt_of_le h.lt hc.size, fun k hk => ?_⟩
  by_cases hin : a ≤ k ∧ k < b
  · obtain ⟨k', h1, h2, e⟩ := (hs.2 (g k)).1 ⟨k, hin.1, hin.2, rfl⟩
    rw [← e]
    exact h.bd k' (by omega)
  · rw [hs.1 k hin]
    exact h.bd k hk
theorem cmpI_neg (x y : Nat) : (cmpI (x : Int) (y : Int) < 0) ↔ x < y := by unfold cmpI; split <;> (try split) <;> omega

set_option maxHeartbeats 4000000 in
set_option maxRecDepth 100000 in
theorem insertion_any (g : Nat) (cb : Array Value) (r : Nat → Nat) (bl n0 cap a b : Nat) (x : Nat → Nat) (w0 w : World) (hc : CmpAt g cb r bl n0 w0) (hp : PLW bl n0 x w0 w) (hab : a ≤ b) (hb : b ≤ n0) (hn0 : n0 ≤ 30) (hx : ∀ k, a ≤ k → k < b → x k = k) :
    Calls Tryz.prog 155 #[.slice (some ⟨bl, 0, none⟩) n0 cap, .int .i64 a, .int .i64 b, .func (.func g) #[] cb] w fun e w' => e = .returned (.tuple #[]) ∧ ∃ f, PLW bl n0 f w0 w' ∧ Same a b x f ∧ Srt r f a b := by
  have he := hc.1
  have HCM := Lib.hid hc.2
  have HP := Lib.hid hp
  have HX := Lib.hid hx
  clear hc hp hx
  go_enter Tryz.func155, Tryz.ntmps155
  go_wp2
  go_loopw [8] (fun vi wr => ∃ (i : Nat) (f : Nat → Nat), vi = .int .i64 i ∧ i ≤ b + 1 ∧ a < i ∧ Hid (PLW bl n0 f w0 wr) ∧ Hid (a < b → Insd r x f a b i) ∧ Hid (a = b → f = x)) (fun vi _ => b + 1 - (intOf vi).toNat)
  case atStart =>
    refine ⟨a + 1, x, by go_num, by omega, by omega, HP, Lib.hid fun h => ⟨same_refl _ _ _, fun i j h1 h2 h3 => by omega, by omega, by omega⟩, Lib.hid fun _ => rfl⟩
  case round =>
    clear HP
    obtain ⟨i, f, rfl, hib, hai, HP, HI, HE⟩ := hrel
    by_cases hlt : i < b
    · have HI' := Lib.hid (HI.out (by omega))
      clear HI HE
      have HN := Lib.hid (insd_in HI'.out HX.out hlt)
      go_wp2
      go_loopw [9] (fun vj wr2 => ∃ (j : Nat) (h : Nat → Nat), vj = .int .i64 j ∧ Hid (PLW bl n0 h w0 wr2) ∧ Hid (Ins r f h a i j)) (fun vj _ => (intOf vj).toNat)
      case atStart => exact ⟨i, f, rfl, HP, HN⟩
      case round =>
        clear HP HN
        obtain ⟨j, h, rfl, HP, HJ⟩ := hrel
        have haj := HJ.out.aj
        have hji := HJ.out.ji
        have OUT := Lib.hid (show (j = a ∨ ¬ r (h (j - 1)) < r (h j)) → Insd r x h a b (i + 1) from fun hh => insd_out HI'.out hlt HJ.out hh)
        by_cases hja : a < j
        · obtain ⟨jp, rfl⟩ : ∃ q, j = q + 1 := ⟨j - 1, by omega⟩
          have hjaz : (a : Int) < (jp : Int) + 1 := by omega
          have ea : ((jp : Int) + 1).toNat = jp + 1 := by omega
          have q1 : (0 : Int) ≤ (jp : Int) + 1 := by omega
          have q2 : (jp : Int) + 1 < (n0 : Int) := by omega
          have q3 : (0 : Int) ≤ (jp : Int) := by omega
          have q4 : (jp : Int) < (n0 : Int) := by omega
          have q5 : IntKind.i64.wrap (jp : Int) = (jp : Int) := by rw [IntKind.wrap_i64]; omega
          have q6 : IntKind.i64.wrap ((jp : Int) + 1) = (jp : Int) + 1 := by rw [IntKind.wrap_i64]; omega
          have eb : ((jp : Int)).toNat = jp := by omega
          have KL := Lib.hid (show ∀ W, Below wr.heap.size wr W → W.cell? ⟨bl, jp + 1, none⟩ = some (.int .i64 (h (jp + 1))) ∧ W.cell? ⟨bl, jp, none⟩ = some (.int .i64 (h jp)) ∧ Hid (Below wr.heap.size wr W) from
            fun W hb => ⟨(HP.out.below hb).pl.c _ (by omega), (HP.out.below hb).pl.c _ (by omega), Lib.hid hb⟩)
          have HB0 := Lib.hid (show Below wr.heap.size wr wr.drew from (Below.refl _ _).drew)
          have hd1 := HP.out.bd (jp + 1) (by omega)
          have hd0 := HP.out.bd jp (by omega)
          cases hlv : decide (r (h jp) < r (h (jp + 1))) with
          | true =>
            have hcv : decide (cmpI (r (h jp)) (r (h (jp + 1))) < 0) = true := decide_eq_true ((cmpI_neg _ _).2 (of_decide_eq_true hlv))
            have HSTEP := Lib.hid (show Ins r f (swp h (jp + 1) jp) a i jp from ins_step HJ.out hja (of_decide_eq_true hlv))
            clear hlv
            go_wp2_with fail
            go_region_held3 (fun W => W.cell? ⟨bl, jp + 1, none⟩ = some (.int .i64 (h (jp + 1))) ∧ W.cell? ⟨bl, jp, none⟩ = some (.int .i64 (h jp)) ∧ Hid (Below wr.heap.size wr W))
              ((refine KL.out _ ?_; (first | exact HB1.out | exact HB0.out | fail)))
              (first
                | (go_at_fn g; (have hBB := (‹_ ∧ _ ∧ Hid (Below wr.heap.size wr _)›).2.2); refine (HCM.out _ (HP.out.ch.trans (Chg.of_below hBB.out)) (h (jp + 1)) (h jp) hd1 hd0).mono ?_; rintro e w1 ⟨rfl, b1⟩; have HB1 := Lib.hid (Below.next hBB.out b1); clear hBB))
            have HP1 := Lib.hid (HP.out.below HB1.out)
            clear HP KL HB0 HB1 OUT
            have ca := HP1.out.pl.c (jp + 1) (by omega)
            have cb := HP1.out.pl.c jp (by omega)
            have fa := HP1.out.pl.f (jp + 1) (by omega)
            have fb := HP1.out.pl.f jp (by omega)
            obtain ⟨u, cc⟩ := HP1.out.pl.second (i := jp + 1) (j := jp) (by omega) (by omega) (.int .i64 (h jp))
            have HS := Lib.hid (HP1.out.pl.swap (i := jp + 1) (j := jp) (by omega) (by omega))
            have HCS := Lib.hid ((Chg.refl [bl] w1).swap (jp + 1) jp (.int .i64 (h jp)) (.int .i64 (h (jp + 1)))).drewS
            go_wp2_with fail
            go_region
            clear ca cb fa fb cc
            go_wp2
            go_roundw
            case rel => exact ⟨jp, swp h (jp + 1) jp, rfl, Lib.hid (HP1.out.chg HS.out.drew HCS.out (same_swp h (a := 0) (b := n0) ⟨by omega, by omega⟩ ⟨by omega, by omega⟩) (Nat.le_refl _)), HSTEP⟩
            case measure => simp [intOf]
          | false =>
            have hcv : decide (cmpI (r (h jp)) (r (h (jp + 1))) < 0) = false := decide_eq_false (fun hh => of_decide_eq_false hlv ((cmpI_neg _ _).1 hh))
            have HOUT := Lib.hid (OUT.out (Or.inr (of_decide_eq_false hlv)))
            clear hlv OUT
            go_wp2_with fail
            go_region_held3 (fun W => W.cell? ⟨bl, jp + 1, none⟩ = some (.int .i64 (h (jp + 1))) ∧ W.cell? ⟨bl, jp, none⟩ = some (.int .i64 (h jp)) ∧ Hid (Below wr.heap.size wr W))
              ((refine KL.out _ ?_; (first | exact HB1.out | exact HB0.out | fail)))
              (first
                | (go_at_fn g; (have hBB := (‹_ ∧ _ ∧ Hid (Below wr.heap.size wr _)›).2.2); refine (HCM.out _ (HP.out.ch.trans (Chg.of_below hBB.out)) (h (jp + 1)) (h jp) hd1 hd0).mono ?_; rintro e w1 ⟨rfl, b1⟩; have HB1 := Lib.hid (Below.next hBB.out b1); clear hBB))
            have HP1 := Lib.hid (HP.out.below HB1.out)
            clear HP KL HB0 HB1
            go_wp2
            go_roundw
            case rel => exact ⟨i + 1, h, by go_num, by omega, by omega, HP1, Lib.hid fun _ => HOUT.out, Lib.hid fun hh => by omega⟩
            case measure => simp [intOf]; omega
        · obtain rfl : j = a := by omega
          have HOUT := Lib.hid (OUT.out (Or.inl rfl))
          have hjaz : ¬ (j : Int) < (j : Int) := by omega
          clear OUT
          go_wp2_with fail
          go_region
          have HP1 := Lib.hid (show PLW bl n0 h w0 wr.drew from ⟨HP.out.pl.drew, HP.out.ch.drewS, HP.out.lt, HP.out.bd⟩)
          clear HP
          go_wp2
          go_roundw
          case rel => exact ⟨i + 1, h, by go_num, by omega, by omega, HP1, Lib.hid fun _ => HOUT.out, Lib.hid fun hh => by omega⟩
          case measure => simp [intOf]; omega
    · have HF := Lib.hid (show Same a b x f ∧ Srt r f a b from by
        by_cases h : a < b
        · have hi := HI.out h
          have : i = b := by have := hi.ib; omega
          subst this
          exact ⟨hi.same, hi.srt⟩
        · rw [HE.out (by omega)]
          exact ⟨same_refl _ _ _, fun i j h1 h2 h3 => by omega⟩)
      go_wp2
      go_end0
      exact ⟨rfl, f, HP.out, HF.out.1, HF.out.2⟩
end Go.Proofs.YtofehcpapdlcnabGreatDoor
