/-
  Chapter 6 of package impl: RatAdd, RatSub, RatMul and RatDiv.
  Chapter 5 of package impl: the signed number of an int.
  Chapter 6 of package impl: RatInt, RatZero, RatNeg, RatCmp and RatSign.
  What NatEven of package impl returns.
  Chapter 7 of package impl: what its functions return.
-/
import Derived.Deep.DeepCutAuto
import Derived.Deep.LoopGhost
import Derived.Deep.RegionHeld3
import Derived.Shelf.Abstract
import Derived.Test.YtclgelopcgahaaaGreatDoorJ7
namespace Go.Proofs.YtclgelopcgahaaaGreatDoor
open Go.RowKit

theorem szS_ofZ (z : Int) : szS (ofZ z) ≤ 1048576 := by have := ofZ_len z; unfold szS szI; omega
theorem part_sz_left {r s : QI} (hr : Parts r) (hs : Parts s) : szS (leftS r s) ≤ 1048576 := by rw [(leftS_eq hr hs).1]; exact szS_ofZ _
theorem part_sz_right {r s : QI} (hr : Parts r) (hs : Parts s) : szS (leftS s r) ≤ 1048576 := part_sz_left hs hr
theorem part_sz_numerators {r s : QI} (hr : Parts r) (hs : Parts s) : szS (topS r s) ≤ 1048576 := by rw [(topS_eq hr hs).1]; exact szS_ofZ _
theorem part_sz_denominators {r s : QI} (hr : Parts r) (hs : Parts s) : szS (denS r s) ≤ 1048576 := by
  have h := denS_eq hr hs
  rw [h.1]
  unfold szS szI
  simp only
  have := h.2.2
  omega
theorem part_sz_sum {r s : QI} (_ : Parts r) (_ : Parts s) : szS (addS (leftS r s) (leftS s r)) ≤ 1048576 := by unfold addS; split; exact szS_ofZ _; decide
theorem part_sz_difference {r s : QI} (_ : Parts r) (_ : Parts s) : szS (subS (leftS r s) (leftS s r)) ≤ 1048576 := by unfold subS; split; exact szS_ofZ _; decide
theorem negQ_ok {s : QI} (h : (negQ s).2 = true) : okQ s = true := by
  unfold negQ at h
  split at h
  · rename_i k; exact k
  · cases h
theorem subQ_none {r s : QI} (h : ¬ (okQ r = true ∧ okQ s = true)) : subQ r s = (zeroQ, false) := by
  unfold subQ
  split
  · rename_i k
    have ks := negQ_ok k
    unfold addQ
    rw [if_neg (fun e => h ⟨e.1, ks⟩)]
  · rfl
theorem At.imp_at {u d : Value} {n : Bool} {x : SI} {ys : List Int} {S T : List Nat} {w : World} (h : At (S ++ T) (fun w => OwnS (.agg #[.bool n, u]) x w ∧ OwnI d ys w) w) (hap : ∀ g, u.ownBlock = some g → d.ownBlock = some g → False) : At (S ++ T) (OwnQ (.agg #[.bool x.1, u, d]) (x, ys)) w :=
  h.imp fun _ k => ⟨u, d, rfl, ownS_open k.1, k.2, fun g h1 h2 => hap g h1 h2⟩
set_option maxHeartbeats 2000000 in
set_option maxRecDepth 100000 in
theorem combineRatAdd_any {Ar Br : Option Addr} {cr dr : Nat} {As Bs : Option Addr} {cs ds : Nat} (r s : QI) (w : World) (hzr : szQ r ≤ 1048576) (hzs : szQ s ≤ 1048576) (hsen : Sen w) (hr : OwnQ (.agg #[.bool r.1.1, .slice Ar r.1.2.length cr, .slice Br r.2.length dr]) r w) (hs : OwnQ (.agg #[.bool s.1.1, .slice As s.1.2.length cs, .slice Bs s.2.length ds]) s w) :
    Calls Tryz.prog 47 #[.agg #[.bool r.1.1, .slice Ar r.1.2.length cr, .slice Br r.2.length dr, .bool s.1.1, .slice As s.1.2.length cs, .slice Bs s.2.length ds], .func (.func 48) #[.agg #[.bool r.1.1, .slice Ar r.1.2.length cr, .slice Br r.2.length dr, .bool s.1.1, .slice As s.1.2.length cs, .slice Bs s.2.length ds]] #[], .func (.func 49) #[.agg #[.bool r.1.1, .slice Ar r.1.2.length cr, .slice Br r.2.length dr, .bool s.1.1, .slice As s.1.2.length cs, .slice Bs s.2.length ds]] #[]] w (PostQb (addQ r s).1 (addQ r s).2 w) := by
  have HS := Lib.hid hsen
  clear hsen
  have Hr := Lib.hid hr
  have OQr := Lib.hid (show ∀ W, Below w.heap.size w W → OwnQ (.agg #[.bool r.1.1, .slice Ar r.1.2.length cr, .slice Br r.2.length dr]) r W from fun W hb => OwnQ.below Hr.out hb)
  have OUr := Lib.hid (show ∀ W, Below w.heap.size w W → OwnI (.slice Ar r.1.2.length cr) r.1.2 W from fun W hb => (ownQ_open (OQr.out W hb)).2.1)
  have ODr := Lib.hid (show ∀ W, Below w.heap.size w W → OwnI (.slice Br r.2.length dr) r.2 W from fun W hb => (ownQ_open (OQr.out W hb)).2.2.1)
  have OSr := Lib.hid (show ∀ W, Below w.heap.size w W → OwnS (.agg #[.bool r.1.1, .slice Ar r.1.2.length cr]) r.1 W from fun W hb => OwnS.mk (OUr.out W hb))
  clear hr
  have Hs := Lib.hid hs
  have OQs := Lib.hid (show ∀ W, Below w.heap.size w W → OwnQ (.agg #[.bool s.1.1, .slice As s.1.2.length cs, .slice Bs s.2.length ds]) s W from fun W hb => OwnQ.below Hs.out hb)
  have OUs := Lib.hid (show ∀ W, Below w.heap.size w W → OwnI (.slice As s.1.2.length cs) s.1.2 W from fun W hb => (ownQ_open (OQs.out W hb)).2.1)
  have ODs := Lib.hid (show ∀ W, Below w.heap.size w W → OwnI (.slice Bs s.2.length ds) s.2 W from fun W hb => (ownQ_open (OQs.out W hb)).2.2.1)
  have OSs := Lib.hid (show ∀ W, Below w.heap.size w W → OwnS (.agg #[.bool s.1.1, .slice As s.1.2.length cs]) s.1 W from fun W hb => OwnS.mk (OUs.out W hb))
  clear hs
  have bb0 : Below w.heap.size w ((w.alloc (.cells #[.bool r.1.1, .slice Ar r.1.2.length cr, .slice Br r.2.length dr, .bool s.1.1, .slice As s.1.2.length cs, .slice Bs s.2.length ds] 82)).alloc (.cells #[.bool false, .slice none 0 0, .slice none 0 0] 27)) := below_al (below_al (Below.refl _ _) _) _
  have kp := (box_new w #[.bool r.1.1, .slice Ar r.1.2.length cr, .slice Br r.2.length dr, .bool s.1.1, .slice As s.1.2.length cs, .slice Bs s.2.length ds] 82).below (below_al (Below.refl _ _) (.cells #[.bool false, .slice none 0 0, .slice none 0 0] 27))
  have ko := (box_new (w.alloc (.cells #[.bool r.1.1, .slice Ar r.1.2.length cr, .slice Br r.2.length dr, .bool s.1.1, .slice As s.1.2.length cs, .slice Bs s.2.length ds] 82)) #[.bool false, .slice none 0 0, .slice none 0 0] 27)
  rw [show (w.alloc (.cells #[.bool r.1.1, .slice Ar r.1.2.length cr, .slice Br r.2.length dr, .bool s.1.1, .slice As s.1.2.length cs, .slice Bs s.2.length ds] 82)).heap.size = w.heap.size + 1 by simp] at ko
  have HKO := Lib.hid (ko.lt (w.heap.size + 1) (by simp))
  go_enter Tryz.func47, Tryz.ntmps47
  have kp_c0 := kp.here.cell 0 _ rfl
  have kp_c1 := kp.here.cell 1 _ rfl
  have kp_c2 := kp.here.cell 2 _ rfl
  have kp_c3 := kp.here.cell 3 _ rfl
  have kp_c4 := kp.here.cell 4 _ rfl
  have kp_c5 := kp.here.cell 5 _ rfl
  go_wp2_with fail
  clear kp_c0 kp_c1 kp_c2 kp_c3 kp_c4 kp_c5
  refine (ok_any r s _ hzr hzs (HS.out.below bb0) (OQr.out _ bb0) (OQs.out _ bb0)).mono ?_
  rintro e w1 ⟨rfl, b1⟩
  have bb1 := Below.next bb0 b1
  replace kp := kp.below b1
  replace ko := ko.below b1
  by_cases hok : (okQ r && okQ s) = true
  · rw [hok]
    have hok2 := (Bool.and_eq_true _ _ ▸ hok : okQ r = true ∧ okQ s = true)
    have HPr := Lib.hid (parts_of hok2.1)
    have HPs := Lib.hid (parts_of hok2.2)
    obtain ⟨N, hN⟩ : ∃ N, addS (leftS r s) (leftS s r) = N := ⟨_, rfl⟩
    obtain ⟨D, hD⟩ : ∃ D, denS r s = D := ⟨_, rfl⟩
    obtain ⟨Q, hQ⟩ : ∃ Q, makeQ N D = Q := ⟨_, rfl⟩
    have EN := Lib.hid hN
    have ED := Lib.hid hD
    have EQ := Lib.hid hQ
    have HV := Lib.hid (show addQ r s = Q by rw [← hQ, ← hN, ← hD]; exact (addQ_make HPr.out HPs.out hok2.1 hok2.2).symm)
    have hzN : szS N ≤ 1048576 := by rw [← hN]; exact part_sz_sum HPr.out HPs.out
    have hzD : szS D ≤ 1048576 := by rw [← hD]; exact part_sz_denominators HPr.out HPs.out
    clear hok hok2 hN hD hQ
    go_wp2_with fail
    refine ((sum_any r s _ HPr.out HPs.out (OQr.out _ bb1) (OQs.out _ bb1)).mono fun _ _ h => newVS_eq EN.out h).mono ?_
    rintro e w2 ⟨un, Sn, rfl, on, ln, b2⟩
    obtain ⟨An, cn, rfl⟩ := ownS_form on.here
    have bb2 := Below.next bb1 b2
    replace kp := kp.below b2
    replace ko := ko.below b2
    go_wp2_with fail
    refine ((denominators_any r s _ HPr.out HPs.out (OQr.out _ bb2) (OQs.out _ bb2)).mono fun _ _ h => newVS_eq ED.out h).mono ?_
    rintro e w3 ⟨ud, Sd, rfl, od, ld, b3⟩
    obtain ⟨Ad, cd, rfl⟩ := ownS_form od.here
    have bb3 := Below.next bb2 b3
    replace kp := kp.below b3
    replace ko := ko.below b3
    replace on := on.below b3
    have hz1 := b1.size
    have hz2 := b2.size
    have hz3 := b3.size
    go_wp2_with fail
    refine ((implRatMake_any _ _ N D _ hzN hzD on.here od.here (HS.out.below bb3)).mono fun _ _ h => postQb_eq EQ.out h).mono ?_
    rintro e w4 ⟨uf, Sf, rfl, of, lf, b4⟩
    obtain ⟨Af, cf, Bf, df, rfl⟩ := ownQ_form of.here
    have bb4 := Below.next bb3 b4
    replace kp := kp.below b4
    replace ko := ko.below b4
    replace on := on.below b4
    replace od := od.below b4
    clear on od
    have HW := Lib.hid (newQb_at (r := w.heap.size + 1) (b := Q.2) of lf (by have := HKO.out; omega) (by omega) bb4)
    have cz0 := ko.here.cell 0 _ rfl
    have fz0 := Lib.frozen_of_heap ko.here 0
    have cz1 := ko.here.cell 1 _ rfl
    have fz1 := Lib.frozen_of_heap ko.here 1
    have cz2 := ko.here.cell 2 _ rfl
    have fz2 := Lib.frozen_of_heap ko.here 2
    clear of ko
    go_wp2
    refine bodyPost_ret (v := .tuple #[.agg #[.bool _, .slice Af _ cf, .slice Bf _ df], .bool _]) (by simp [results, Tryz.results47, go_sem, cz0, cz1, cz2]; exact ⟨⟨rfl, rfl, rfl⟩, rfl⟩) rfl ?_
    rw [HV.out]
    exact HW.out
  · have hok' : (okQ r && okQ s) = false := by simpa using hok
    have HV := Lib.hid (show addQ r s = (zeroQ, false) by unfold addQ; rw [if_neg (fun h => hok (by rw [h.1, h.2]; rfl))])
    rw [hok']
    clear hok hok'
    have ko_c0 := ko.here.cell 0 _ rfl
    have ko_c1 := ko.here.cell 1 _ rfl
    have ko_c2 := ko.here.cell 2 _ rfl
    have cz0 := ko.here.cell 0 _ rfl
    have fz0 := Lib.frozen_of_heap ko.here 0
    have cz1 := ko.here.cell 1 _ rfl
    have fz1 := Lib.frozen_of_heap ko.here 1
    have cz2 := ko.here.cell 2 _ rfl
    have fz2 := Lib.frozen_of_heap ko.here 2
    go_wp2
    refine bodyPost_ret (v := .tuple #[.agg #[.bool false, .slice none 0 0, .slice none 0 0], .bool false]) (by simp [results, Tryz.results47, go_sem, cz0, cz1, cz2]) rfl ?_
    rw [HV.out]
    first | exact newQb_zero _ bb1 | exact newQb_zero _ (below_set3 bb1 (by omega))
set_option maxHeartbeats 2000000 in
set_option maxRecDepth 100000 in
theorem implRatAdd_any (vr vs : Value) (r s : QI) (w : World) (hzr : szQ r ≤ 1048576) (hzs : szQ s ≤ 1048576) (hr : OwnQ vr r w) (hs : OwnQ vs s w) (hsen : Sen w) :
    Calls Tryz.prog 10 #[vr, vs] w (PostQb (addQ r s).1 (addQ r s).2 w) := by
  have HS := Lib.hid hsen
  clear hsen
  have Hr := Lib.hid hr
  obtain ⟨Ar, cr, Br, dr, rfl⟩ := ownQ_form hr
  have OQr := Lib.hid (show ∀ W, Below w.heap.size w W → OwnQ (.agg #[.bool r.1.1, .slice Ar r.1.2.length cr, .slice Br r.2.length dr]) r W from fun W hb => OwnQ.below Hr.out hb)
  have OUr := Lib.hid (show ∀ W, Below w.heap.size w W → OwnI (.slice Ar r.1.2.length cr) r.1.2 W from fun W hb => (ownQ_open (OQr.out W hb)).2.1)
  have ODr := Lib.hid (show ∀ W, Below w.heap.size w W → OwnI (.slice Br r.2.length dr) r.2 W from fun W hb => (ownQ_open (OQr.out W hb)).2.2.1)
  have OSr := Lib.hid (show ∀ W, Below w.heap.size w W → OwnS (.agg #[.bool r.1.1, .slice Ar r.1.2.length cr]) r.1 W from fun W hb => OwnS.mk (OUr.out W hb))
  clear hr
  have Hs := Lib.hid hs
  obtain ⟨As, cs, Bs, ds, rfl⟩ := ownQ_form hs
  have OQs := Lib.hid (show ∀ W, Below w.heap.size w W → OwnQ (.agg #[.bool s.1.1, .slice As s.1.2.length cs, .slice Bs s.2.length ds]) s W from fun W hb => OwnQ.below Hs.out hb)
  have OUs := Lib.hid (show ∀ W, Below w.heap.size w W → OwnI (.slice As s.1.2.length cs) s.1.2 W from fun W hb => (ownQ_open (OQs.out W hb)).2.1)
  have ODs := Lib.hid (show ∀ W, Below w.heap.size w W → OwnI (.slice Bs s.2.length ds) s.2 W from fun W hb => (ownQ_open (OQs.out W hb)).2.2.1)
  have OSs := Lib.hid (show ∀ W, Below w.heap.size w W → OwnS (.agg #[.bool s.1.1, .slice As s.1.2.length cs]) s.1 W from fun W hb => OwnS.mk (OUs.out W hb))
  clear hs
  have hmf : ∀ (fn : Fn) (first cap : Array Value) (w : World), (Instr.makeFunc fn first cap).run Tryz.prog w = .ok (.func fn first cap) w := fun _ _ _ _ => rfl
  have bb0 : Below w.heap.size w ((((w.alloc (.cells #[.bool r.1.1, .slice Ar r.1.2.length cr, .slice Br r.2.length dr] 27)).alloc (.cells #[.bool s.1.1, .slice As s.1.2.length cs, .slice Bs s.2.length ds] 27)).alloc (.cells #[.bool false, .slice none 0 0, .slice none 0 0] 27)).alloc (.cells #[.bool r.1.1, .slice Ar r.1.2.length cr, .slice Br r.2.length dr, .bool s.1.1, .slice As s.1.2.length cs, .slice Bs s.2.length ds] 82)) := below_al (below_al (below_al (below_al (Below.refl _ _) _) _) _) _
  have kr := (box_new w #[.bool r.1.1, .slice Ar r.1.2.length cr, .slice Br r.2.length dr] 27).below (below_al (below_al (below_al (Below.refl _ _) (.cells #[.bool s.1.1, .slice As s.1.2.length cs, .slice Bs s.2.length ds] 27)) (.cells #[.bool false, .slice none 0 0, .slice none 0 0] 27)) (.cells #[.bool r.1.1, .slice Ar r.1.2.length cr, .slice Br r.2.length dr, .bool s.1.1, .slice As s.1.2.length cs, .slice Bs s.2.length ds] 82))
  have ks := (box_new (w.alloc (.cells #[.bool r.1.1, .slice Ar r.1.2.length cr, .slice Br r.2.length dr] 27)) #[.bool s.1.1, .slice As s.1.2.length cs, .slice Bs s.2.length ds] 27).below (below_al (below_al (Below.refl _ _) (.cells #[.bool false, .slice none 0 0, .slice none 0 0] 27)) (.cells #[.bool r.1.1, .slice Ar r.1.2.length cr, .slice Br r.2.length dr, .bool s.1.1, .slice As s.1.2.length cs, .slice Bs s.2.length ds] 82))
  rw [show (w.alloc (.cells #[.bool r.1.1, .slice Ar r.1.2.length cr, .slice Br r.2.length dr] 27)).heap.size = w.heap.size + 1 by simp] at ks
  have ko := (box_new ((w.alloc (.cells #[.bool r.1.1, .slice Ar r.1.2.length cr, .slice Br r.2.length dr] 27)).alloc (.cells #[.bool s.1.1, .slice As s.1.2.length cs, .slice Bs s.2.length ds] 27)) #[.bool false, .slice none 0 0, .slice none 0 0] 27).below (below_al (Below.refl _ _) (.cells #[.bool r.1.1, .slice Ar r.1.2.length cr, .slice Br r.2.length dr, .bool s.1.1, .slice As s.1.2.length cs, .slice Bs s.2.length ds] 82))
  rw [show ((w.alloc (.cells #[.bool r.1.1, .slice Ar r.1.2.length cr, .slice Br r.2.length dr] 27)).alloc (.cells #[.bool s.1.1, .slice As s.1.2.length cs, .slice Bs s.2.length ds] 27)).heap.size = w.heap.size + 1 + 1 by simp] at ko
  have kp := (box_new (((w.alloc (.cells #[.bool r.1.1, .slice Ar r.1.2.length cr, .slice Br r.2.length dr] 27)).alloc (.cells #[.bool s.1.1, .slice As s.1.2.length cs, .slice Bs s.2.length ds] 27)).alloc (.cells #[.bool false, .slice none 0 0, .slice none 0 0] 27)) #[.bool r.1.1, .slice Ar r.1.2.length cr, .slice Br r.2.length dr, .bool s.1.1, .slice As s.1.2.length cs, .slice Bs s.2.length ds] 82)
  rw [show (((w.alloc (.cells #[.bool r.1.1, .slice Ar r.1.2.length cr, .slice Br r.2.length dr] 27)).alloc (.cells #[.bool s.1.1, .slice As s.1.2.length cs, .slice Bs s.2.length ds] 27)).alloc (.cells #[.bool false, .slice none 0 0, .slice none 0 0] 27)).heap.size = w.heap.size + 1 + 1 + 1 by simp] at kp
  have HKO := Lib.hid (ko.lt (w.heap.size + 1 + 1) (by simp))
  obtain ⟨Q, hQ⟩ : ∃ Q, addQ r s = Q := ⟨_, rfl⟩
  have EQ := Lib.hid hQ
  rw [hQ]
  clear hQ
  go_enter Tryz.func10, Tryz.ntmps10
  have hz1 := HKO.out
  go_wp2_with fail
  refine ((combineRatAdd_any r s _ hzr hzs (HS.out.below bb0) (OQr.out _ bb0) (OQs.out _ bb0)).mono fun _ _ h => postQb_eq EQ.out h).mono ?_
  rintro e w1 ⟨uf, Sf, rfl, of, lf, b1⟩
  obtain ⟨Af, cf, Bf, df, rfl⟩ := ownQ_form of.here
  have bb1 := Below.next bb0 b1
  replace kr := kr.below b1
  replace ks := ks.below b1
  replace ko := ko.below b1
  replace kp := kp.below b1
  have HW := Lib.hid (newQb_at (r := w.heap.size + 1 + 1) (b := Q.2) of lf HKO.out (by omega) bb1)
  have cz0 := ko.here.cell 0 _ rfl
  have fz0 := Lib.frozen_of_heap ko.here 0
  have cz1 := ko.here.cell 1 _ rfl
  have fz1 := Lib.frozen_of_heap ko.here 1
  have cz2 := ko.here.cell 2 _ rfl
  have fz2 := Lib.frozen_of_heap ko.here 2
  clear of ko kp kr ks
  go_wp2
  refine bodyPost_ret (v := .tuple #[.agg #[.bool _, .slice Af _ cf, .slice Bf _ df], .bool _]) (by simp [results, Tryz.results10, go_sem, cz0, cz1, cz2]; exact ⟨⟨rfl, rfl, rfl⟩, rfl⟩) rfl ?_
  exact HW.out
set_option maxHeartbeats 2000000 in
set_option maxRecDepth 100000 in
theorem combineRatSub_any {Ar Br : Option Addr} {cr dr : Nat} {As Bs : Option Addr} {cs ds : Nat} (r s : QI) (w : World) (hzr : szQ r ≤ 1048576) (hzs : szQ s ≤ 1048576) (hsen : Sen w) (hr : OwnQ (.agg #[.bool r.1.1, .slice Ar r.1.2.length cr, .slice Br r.2.length dr]) r w) (hs : OwnQ (.agg #[.bool s.1.1, .slice As s.1.2.length cs, .slice Bs s.2.length ds]) s w) :
    Calls Tryz.prog 47 #[.agg #[.bool r.1.1, .slice Ar r.1.2.length cr, .slice Br r.2.length dr, .bool s.1.1, .slice As s.1.2.length cs, .slice Bs s.2.length ds], .func (.func 81) #[.agg #[.bool r.1.1, .slice Ar r.1.2.length cr, .slice Br r.2.length dr, .bool s.1.1, .slice As s.1.2.length cs, .slice Bs s.2.length ds]] #[], .func (.func 49) #[.agg #[.bool r.1.1, .slice Ar r.1.2.length cr, .slice Br r.2.length dr, .bool s.1.1, .slice As s.1.2.length cs, .slice Bs s.2.length ds]] #[]] w (PostQb (subQ r s).1 (subQ r s).2 w) := by
  have HS := Lib.hid hsen
  clear hsen
  have Hr := Lib.hid hr
  have OQr := Lib.hid (show ∀ W, Below w.heap.size w W → OwnQ (.agg #[.bool r.1.1, .slice Ar r.1.2.length cr, .slice Br r.2.length dr]) r W from fun W hb => OwnQ.below Hr.out hb)
  have OUr := Lib.hid (show ∀ W, Below w.heap.size w W → OwnI (.slice Ar r.1.2.length cr) r.1.2 W from fun W hb => (ownQ_open (OQr.out W hb)).2.1)
  have ODr := Lib.hid (show ∀ W, Below w.heap.size w W → OwnI (.slice Br r.2.length dr) r.2 W from fun W hb => (ownQ_open (OQr.out W hb)).2.2.1)
  have OSr := Lib.hid (show ∀ W, Below w.heap.size w W → OwnS (.agg #[.bool r.1.1, .slice Ar r.1.2.length cr]) r.1 W from fun W hb => OwnS.mk (OUr.out W hb))
  clear hr
  have Hs := Lib.hid hs
  have OQs := Lib.hid (show ∀ W, Below w.heap.size w W → OwnQ (.agg #[.bool s.1.1, .slice As s.1.2.length cs, .slice Bs s.2.length ds]) s W from fun W hb => OwnQ.below Hs.out hb)
  have OUs := Lib.hid (show ∀ W, Below w.heap.size w W → OwnI (.slice As s.1.2.length cs) s.1.2 W from fun W hb => (ownQ_open (OQs.out W hb)).2.1)
  have ODs := Lib.hid (show ∀ W, Below w.heap.size w W → OwnI (.slice Bs s.2.length ds) s.2 W from fun W hb => (ownQ_open (OQs.out W hb)).2.2.1)
  have OSs := Lib.hid (show ∀ W, Below w.heap.size w W → OwnS (.agg #[.bool s.1.1, .slice As s.1.2.length cs]) s.1 W from fun W hb => OwnS.mk (OUs.out W hb))
  clear hs
  have bb0 : Below w.heap.size w ((w.alloc (.cells #[.bool r.1.1, .slice Ar r.1.2.length cr, .slice Br r.2.length dr, .bool s.1.1, .slice As s.1.2.length cs, .slice Bs s.2.length ds] 82)).alloc (.cells #[.bool false, .slice none 0 0, .slice none 0 0] 27)) := below_al (below_al (Below.refl _ _) _) _
  have kp := (box_new w #[.bool r.1.1, .slice Ar r.1.2.length cr, .slice Br r.2.length dr, .bool s.1.1, .slice As s.1.2.length cs, .slice Bs s.2.length ds] 82).below (below_al (Below.refl _ _) (.cells #[.bool false, .slice none 0 0, .slice none 0 0] 27))
  have ko := (box_new (w.alloc (.cells #[.bool r.1.1, .slice Ar r.1.2.length cr, .slice Br r.2.length dr, .bool s.1.1, .slice As s.1.2.length cs, .slice Bs s.2.length ds] 82)) #[.bool false, .slice none 0 0, .slice none 0 0] 27)
  rw [show (w.alloc (.cells #[.bool r.1.1, .slice Ar r.1.2.length cr, .slice Br r.2.length dr, .bool s.1.1, .slice As s.1.2.length cs, .slice Bs s.2.length ds] 82)).heap.size = w.heap.size + 1 by simp] at ko
  have HKO := Lib.hid (ko.lt (w.heap.size + 1) (by simp))
  go_enter Tryz.func47, Tryz.ntmps47
  have kp_c0 := kp.here.cell 0 _ rfl
  have kp_c1 := kp.here.cell 1 _ rfl
  have kp_c2 := kp.here.cell 2 _ rfl
  have kp_c3 := kp.here.cell 3 _ rfl
  have kp_c4 := kp.here.cell 4 _ rfl
  have kp_c5 := kp.here.cell 5 _ rfl
  go_wp2_with fail
  clear kp_c0 kp_c1 kp_c2 kp_c3 kp_c4 kp_c5
  refine (ok_any r s _ hzr hzs (HS.out.below bb0) (OQr.out _ bb0) (OQs.out _ bb0)).mono ?_
  rintro e w1 ⟨rfl, b1⟩
  have bb1 := Below.next bb0 b1
  replace kp := kp.below b1
  replace ko := ko.below b1
  by_cases hok : (okQ r && okQ s) = true
  · rw [hok]
    have hok2 := (Bool.and_eq_true _ _ ▸ hok : okQ r = true ∧ okQ s = true)
    have HPr := Lib.hid (parts_of hok2.1)
    have HPs := Lib.hid (parts_of hok2.2)
    obtain ⟨N, hN⟩ : ∃ N, subS (leftS r s) (leftS s r) = N := ⟨_, rfl⟩
    obtain ⟨D, hD⟩ : ∃ D, denS r s = D := ⟨_, rfl⟩
    obtain ⟨Q, hQ⟩ : ∃ Q, makeQ N D = Q := ⟨_, rfl⟩
    have EN := Lib.hid hN
    have ED := Lib.hid hD
    have EQ := Lib.hid hQ
    have HV := Lib.hid (show subQ r s = Q by rw [← hQ, ← hN, ← hD]; exact (subQ_make HPr.out HPs.out hok2.1 hok2.2).symm)
    have hzN : szS N ≤ 1048576 := by rw [← hN]; exact part_sz_difference HPr.out HPs.out
    have hzD : szS D ≤ 1048576 := by rw [← hD]; exact part_sz_denominators HPr.out HPs.out
    clear hok hok2 hN hD hQ
    go_wp2_with fail
    refine ((difference_any r s _ HPr.out HPs.out (OQr.out _ bb1) (OQs.out _ bb1)).mono fun _ _ h => newVS_eq EN.out h).mono ?_
    rintro e w2 ⟨un, Sn, rfl, on, ln, b2⟩
    obtain ⟨An, cn, rfl⟩ := ownS_form on.here
    have bb2 := Below.next bb1 b2
    replace kp := kp.below b2
    replace ko := ko.below b2
    go_wp2_with fail
    refine ((denominators_any r s _ HPr.out HPs.out (OQr.out _ bb2) (OQs.out _ bb2)).mono fun _ _ h => newVS_eq ED.out h).mono ?_
    rintro e w3 ⟨ud, Sd, rfl, od, ld, b3⟩
    obtain ⟨Ad, cd, rfl⟩ := ownS_form od.here
    have bb3 := Below.next bb2 b3
    replace kp := kp.below b3
    replace ko := ko.below b3
    replace on := on.below b3
    have hz1 := b1.size
    have hz2 := b2.size
    have hz3 := b3.size
    go_wp2_with fail
    refine ((implRatMake_any _ _ N D _ hzN hzD on.here od.here (HS.out.below bb3)).mono fun _ _ h => postQb_eq EQ.out h).mono ?_
    rintro e w4 ⟨uf, Sf, rfl, of, lf, b4⟩
    obtain ⟨Af, cf, Bf, df, rfl⟩ := ownQ_form of.here
    have bb4 := Below.next bb3 b4
    replace kp := kp.below b4
    replace ko := ko.below b4
    replace on := on.below b4
    replace od := od.below b4
    clear on od
    have HW := Lib.hid (newQb_at (r := w.heap.size + 1) (b := Q.2) of lf (by have := HKO.out; omega) (by omega) bb4)
    have cz0 := ko.here.cell 0 _ rfl
    have fz0 := Lib.frozen_of_heap ko.here 0
    have cz1 := ko.here.cell 1 _ rfl
    have fz1 := Lib.frozen_of_heap ko.here 1
    have cz2 := ko.here.cell 2 _ rfl
    have fz2 := Lib.frozen_of_heap ko.here 2
    clear of ko
    go_wp2
    refine bodyPost_ret (v := .tuple #[.agg #[.bool _, .slice Af _ cf, .slice Bf _ df], .bool _]) (by simp [results, Tryz.results47, go_sem, cz0, cz1, cz2]; exact ⟨⟨rfl, rfl, rfl⟩, rfl⟩) rfl ?_
    rw [HV.out]
    exact HW.out
  · have hok' : (okQ r && okQ s) = false := by simpa using hok
    have HV := Lib.hid (show subQ r s = (zeroQ, false) from subQ_none (fun h => hok (by rw [h.1, h.2]; rfl)))
    rw [hok']
    clear hok hok'
    have ko_c0 := ko.here.cell 0 _ rfl
    have ko_c1 := ko.here.cell 1 _ rfl
    have ko_c2 := ko.here.cell 2 _ rfl
    have cz0 := ko.here.cell 0 _ rfl
    have fz0 := Lib.frozen_of_heap ko.here 0
    have cz1 := ko.here.cell 1 _ rfl
    have fz1 := Lib.frozen_of_heap ko.here 1
    have cz2 := ko.here.cell 2 _ rfl
    have fz2 := Lib.frozen_of_heap ko.here 2
    go_wp2
    refine bodyPost_ret (v := .tuple #[.agg #[.bool false, .slice none 0 0, .slice none 0 0], .bool false]) (by simp [results, Tryz.results47, go_sem, cz0, cz1, cz2]) rfl ?_
    rw [HV.out]
    first | exact newQb_zero _ bb1 | exact newQb_zero _ (below_set3 bb1 (by omega))
set_option maxHeartbeats 2000000 in
set_option maxRecDepth 100000 in
theorem implRatSub_any (vr vs : Value) (r s : QI) (w : World) (hzr : szQ r ≤ 1048576) (hzs : szQ s ≤ 1048576) (hr : OwnQ vr r w) (hs : OwnQ vs s w) (hsen : Sen w) :
    Calls Tryz.prog 38 #[vr, vs] w (PostQb (subQ r s).1 (subQ r s).2 w) := by
  have HS := Lib.hid hsen
  clear hsen
  have Hr := Lib.hid hr
  obtain ⟨Ar, cr, Br, dr, rfl⟩ := ownQ_form hr
  have OQr := Lib.hid (show ∀ W, Below w.heap.size w W → OwnQ (.agg #[.bool r.1.1, .slice Ar r.1.2.length cr, .slice Br r.2.length dr]) r W from fun W hb => OwnQ.below Hr.out hb)
  have OUr := Lib.hid (show ∀ W, Below w.heap.size w W → OwnI (.slice Ar r.1.2.length cr) r.1.2 W from fun W hb => (ownQ_open (OQr.out W hb)).2.1)
  have ODr := Lib.hid (show ∀ W, Below w.heap.size w W → OwnI (.slice Br r.2.length dr) r.2 W from fun W hb => (ownQ_open (OQr.out W hb)).2.2.1)
  have OSr := Lib.hid (show ∀ W, Below w.heap.size w W → OwnS (.agg #[.bool r.1.1, .slice Ar r.1.2.length cr]) r.1 W from fun W hb => OwnS.mk (OUr.out W hb))
  clear hr
  have Hs := Lib.hid hs
  obtain ⟨As, cs, Bs, ds, rfl⟩ := ownQ_form hs
  have OQs := Lib.hid (show ∀ W, Below w.heap.size w W → OwnQ (.agg #[.bool s.1.1, .slice As s.1.2.length cs, .slice Bs s.2.length ds]) s W from fun W hb => OwnQ.below Hs.out hb)
  have OUs := Lib.hid (show ∀ W, Below w.heap.size w W → OwnI (.slice As s.1.2.length cs) s.1.2 W from fun W hb => (ownQ_open (OQs.out W hb)).2.1)
  have ODs := Lib.hid (show ∀ W, Below w.heap.size w W → OwnI (.slice Bs s.2.length ds) s.2 W from fun W hb => (ownQ_open (OQs.out W hb)).2.2.1)
  have OSs := Lib.hid (show ∀ W, Below w.heap.size w W → OwnS (.agg #[.bool s.1.1, .slice As s.1.2.length cs]) s.1 W from fun W hb => OwnS.mk (OUs.out W hb))
  clear hs
  have hmf : ∀ (fn : Fn) (first cap : Array Value) (w : World), (Instr.makeFunc fn first cap).run Tryz.prog w = .ok (.func fn first cap) w := fun _ _ _ _ => rfl
  have bb0 : Below w.heap.size w ((((w.alloc (.cells #[.bool r.1.1, .slice Ar r.1.2.length cr, .slice Br r.2.length dr] 27)).alloc (.cells #[.bool s.1.1, .slice As s.1.2.length cs, .slice Bs s.2.length ds] 27)).alloc (.cells #[.bool false, .slice none 0 0, .slice none 0 0] 27)).alloc (.cells #[.bool r.1.1, .slice Ar r.1.2.length cr, .slice Br r.2.length dr, .bool s.1.1, .slice As s.1.2.length cs, .slice Bs s.2.length ds] 82)) := below_al (below_al (below_al (below_al (Below.refl _ _) _) _) _) _
  have kr := (box_new w #[.bool r.1.1, .slice Ar r.1.2.length cr, .slice Br r.2.length dr] 27).below (below_al (below_al (below_al (Below.refl _ _) (.cells #[.bool s.1.1, .slice As s.1.2.length cs, .slice Bs s.2.length ds] 27)) (.cells #[.bool false, .slice none 0 0, .slice none 0 0] 27)) (.cells #[.bool r.1.1, .slice Ar r.1.2.length cr, .slice Br r.2.length dr, .bool s.1.1, .slice As s.1.2.length cs, .slice Bs s.2.length ds] 82))
  have ks := (box_new (w.alloc (.cells #[.bool r.1.1, .slice Ar r.1.2.length cr, .slice Br r.2.length dr] 27)) #[.bool s.1.1, .slice As s.1.2.length cs, .slice Bs s.2.length ds] 27).below (below_al (below_al (Below.refl _ _) (.cells #[.bool false, .slice none 0 0, .slice none 0 0] 27)) (.cells #[.bool r.1.1, .slice Ar r.1.2.length cr, .slice Br r.2.length dr, .bool s.1.1, .slice As s.1.2.length cs, .slice Bs s.2.length ds] 82))
  rw [show (w.alloc (.cells #[.bool r.1.1, .slice Ar r.1.2.length cr, .slice Br r.2.length dr] 27)).heap.size = w.heap.size + 1 by simp] at ks
  have ko := (box_new ((w.alloc (.cells #[.bool r.1.1, .slice Ar r.1.2.length cr, .slice Br r.2.length dr] 27)).alloc (.cells #[.bool s.1.1, .slice As s.1.2.length cs, .slice Bs s.2.length ds] 27)) #[.bool false, .slice none 0 0, .slice none 0 0] 27).below (below_al (Below.refl _ _) (.cells #[.bool r.1.1, .slice Ar r.1.2.length cr, .slice Br r.2.length dr, .bool s.1.1, .slice As s.1.2.length cs, .slice Bs s.2.length ds] 82))
  rw [show ((w.alloc (.cells #[.bool r.1.1, .slice Ar r.1.2.length cr, .slice Br r.2.length dr] 27)).alloc (.cells #[.bool s.1.1, .slice As s.1.2.length cs, .slice Bs s.2.length ds] 27)).heap.size = w.heap.size + 1 + 1 by simp] at ko
  have kp := (box_new (((w.alloc (.cells #[.bool r.1.1, .slice Ar r.1.2.length cr, .slice Br r.2.length dr] 27)).alloc (.cells #[.bool s.1.1, .slice As s.1.2.length cs, .slice Bs s.2.length ds] 27)).alloc (.cells #[.bool false, .slice none 0 0, .slice none 0 0] 27)) #[.bool r.1.1, .slice Ar r.1.2.length cr, .slice Br r.2.length dr, .bool s.1.1, .slice As s.1.2.length cs, .slice Bs s.2.length ds] 82)
  rw [show (((w.alloc (.cells #[.bool r.1.1, .slice Ar r.1.2.length cr, .slice Br r.2.length dr] 27)).alloc (.cells #[.bool s.1.1, .slice As s.1.2.length cs, .slice Bs s.2.length ds] 27)).alloc (.cells #[.bool false, .slice none 0 0, .slice none 0 0] 27)).heap.size = w.heap.size + 1 + 1 + 1 by simp] at kp
  have HKO := Lib.hid (ko.lt (w.heap.size + 1 + 1) (by simp))
  obtain ⟨Q, hQ⟩ : ∃ Q, subQ r s = Q := ⟨_, rfl⟩
  have EQ := Lib.hid hQ
  rw [hQ]
  clear hQ
  go_enter Tryz.func38, Tryz.ntmps38
  have hz1 := HKO.out
  go_wp2_with fail
  refine ((combineRatSub_any r s _ hzr hzs (HS.out.below bb0) (OQr.out _ bb0) (OQs.out _ bb0)).mono fun _ _ h => postQb_eq EQ.out h).mono ?_
  rintro e w1 ⟨uf, Sf, rfl, of, lf, b1⟩
  obtain ⟨Af, cf, Bf, df, rfl⟩ := ownQ_form of.here
  have bb1 := Below.next bb0 b1
  replace kr := kr.below b1
  replace ks := ks.below b1
  replace ko := ko.below b1
  replace kp := kp.below b1
  have HW := Lib.hid (newQb_at (r := w.heap.size + 1 + 1) (b := Q.2) of lf HKO.out (by omega) bb1)
  have cz0 := ko.here.cell 0 _ rfl
  have fz0 := Lib.frozen_of_heap ko.here 0
  have cz1 := ko.here.cell 1 _ rfl
  have fz1 := Lib.frozen_of_heap ko.here 1
  have cz2 := ko.here.cell 2 _ rfl
  have fz2 := Lib.frozen_of_heap ko.here 2
  clear of ko kp kr ks
  go_wp2
  refine bodyPost_ret (v := .tuple #[.agg #[.bool _, .slice Af _ cf, .slice Bf _ df], .bool _]) (by simp [results, Tryz.results38, go_sem, cz0, cz1, cz2]; exact ⟨⟨rfl, rfl, rfl⟩, rfl⟩) rfl ?_
  exact HW.out
end Go.Proofs.YtclgelopcgahaaaGreatDoor

namespace Go.Proofs.YtclgelopcgahaaaGreatDoor
open Go.RowKit

theorem int_step {m n : Int} {out : List Int} {f : Nat} (hz : ¬ m = 0) (hol : out.length + f ≤ 3) (hmf : m.natAbs < 1000000000 ^ f) (he : out ++ limbs m.natAbs = limbs n.natAbs) (hq : (m.tdiv 1000000000).natAbs = m.natAbs / 1000000000) :
    ∃ g : Nat, (out ++ [((m.natAbs % 1000000000 : Nat) : Int)]).length + g ≤ 3 ∧ (m.tdiv 1000000000).natAbs < 1000000000 ^ g ∧ out ++ [((m.natAbs % 1000000000 : Nat) : Int)] ++ limbs (m.tdiv 1000000000).natAbs = limbs n.natAbs := by
  cases f with
  | zero => simp at hmf; omega
  | succ g =>
    refine ⟨g, by simp; omega, ?_, ?_⟩
    · rw [hq]
      rw [Nat.pow_succ, Nat.mul_comm] at hmf
      exact Nat.div_lt_of_lt_mul hmf
    · rw [hq, ← he, limbs_pos m.natAbs (by omega), List.append_assoc]
      rfl
theorem intOf_mk (n : Int) {s : Bool} (h : decide (n < 0) = s) : mkS s (limbs n.natAbs) = ofZ n := by
  rw [mkS_limbs]
  congr 1
  subst h
  by_cases hn : n < 0
  · rw [if_pos (by simpa using hn)]; omega
  · rw [if_neg (by simpa using hn)]; omega
set_option maxHeartbeats 1000000 in
set_option maxRecDepth 100000 in
theorem implIntOf_any (n : Int) (w : World) (h0 : -9223372036854775808 ≤ n) (h1 : n ≤ 9223372036854775807) :
    Calls Tryz.prog 46 #[.int .i64 n] w (NewS (ofZ n) w) := by
  obtain ⟨i0, hi, hz0, hz1, hz2⟩ := info_parts intInfo
  have hbb : Below w.heap.size w (w.alloc (.cells #[.bool false, .slice none 0 0] 25)) := below_al (Below.refl _ _) _
  have kr := box_new w #[.bool false, .slice none 0 0] 25
  obtain ⟨W0, hW0⟩ : ∃ W0, W0 = w.alloc (.cells #[.bool false, .slice none 0 0] 25) := ⟨_, rfl⟩
  rw [← hW0] at hbb kr
  have hW0s : W0.heap.size = w.heap.size + 1 := by rw [hW0]; simp
  have HW := Lib.hid hW0
  clear hW0
  obtain ⟨s, hs, hs2⟩ : ∃ s, decide (n < 0) = s ∧ Hid (decide (n < 0) = s) := ⟨_, rfl, Lib.hid rfl⟩
  go_enter Tryz.func46, Tryz.ntmps46
  go_wp2_with fail
  obtain ⟨W1, hW1⟩ : ∃ W1, W1 = W0.alloc (.cells #[.slice none 0 0, .bool s] 79) := ⟨_, rfl⟩
  have hx0 : NatX (intK s) (w.heap.size + 1) W0.heap.size [] W1 := by rw [hW1]; exact NatX.late (n := s) (W := W0) (B0 := w.heap.size + 1) (xs := []) (World.ownsRow_nil W0 (w.heap.size + 1) 3 1) (Nat.le_refl _) (by omega)
  have hb0 : Below W0.heap.size W0 W1 := by rw [hW1]; exact below_al (Below.refl _ _) _
  rw [hW0s] at hx0
  go_loopw [0] (fun a wr => ∃ (m : Int) (out : List Int) (f : Nat), -9223372036854775808 ≤ m ∧ m ≤ 9223372036854775807 ∧ out.length + f ≤ 3 ∧ m.natAbs < 1000000000 ^ f ∧ a = .int .i64 m ∧ Hid (out ++ limbs m.natAbs = limbs n.natAbs) ∧ Hid (NatX (intK s) (w.heap.size + 1) (w.heap.size + 1) out wr) ∧ Hid (Below (w.heap.size + 1) W0 wr)) (fun a _ => (intOf a).natAbs)
  case atStart =>
    rw [← HW.out, ← hW1]
    exact ⟨n, [], 3, h0, h1, by simp, by omega, rfl, Lib.hid rfl, Lib.hid hx0, Lib.hid (by rw [hW0s] at hb0; exact hb0)⟩
  case round =>
    obtain ⟨m, out, f, hm0, hm1, hol, hmf, rfl, HE, HX, HB⟩ := hrel
    by_cases hz : m = 0
    · subst hz
      have hout : out = limbs n.natAbs := by
        have e := HE.out
        rwa [show (0 : Int).natAbs = 0 from rfl, limbs_none, List.append_nil] at e
      subst hout
      have bb1 : Below w.heap.size w wr := below_low hbb HB.out (by omega)
      have kr1 := kr.belowB HB.out (fun g hg => by simp at hg; omega)
      go_wp2_with fail
      refine (signed_any _ _ _ _ _ (by omega) HX.out).mono ?_
      rw [intOf_mk n hs2.out]
      rintro e w4 ⟨u4', rfl, o4, b4⟩
      generalize ofZ n = z at *
      obtain ⟨A4, c4, rfl⟩ := own_len o4
      have bb4 := Below.next bb1 b4
      have kr4 := kr1.below b4
      have cz0 := kr4.here.cell 0 _ rfl
      have cz1 := kr4.here.cell 1 _ rfl
      have fz0 := Lib.frozen_of_heap kr4.here 0
      have fz1 := Lib.frozen_of_heap kr4.here 1
      have HO := Lib.hid o4
      have HK := Lib.hid kr4
      clear o4 kr1 kr4 kr HX HB HE
      go_wp2
      refine bodyPost_ret (v := .agg #[.bool _, .slice A4 _ c4]) (by simp [results, Tryz.results46, go_sem, cz0, cz1]; exact ⟨rfl, rfl⟩) rfl ?_
      exact newS_ret HK.out.here HO.out (by omega) (Nat.le_refl _) bb4
    · have hzb : (m == 0) = false := by rw [beq_eq_false_iff_ne]; exact hz
      have hzb2 : (m != 0) = true := by rw [bne_iff_ne]; exact hz
      obtain ⟨hB, u, hbk, hown, hne⟩ := HX.out
      have hlt := HX.out.lt
      obtain ⟨A, c, rfl⟩ := own_len hown
      have c1 : wr.cell? ⟨w.heap.size + 1, 0, none⟩ = some (.slice A out.length c) := NatX.cell hbk
      have hra : (m.tmod 1000000000).natAbs = m.natAbs % 1000000000 := Int.natAbs_tmod m 1000000000
      have hqa : (m.tdiv 1000000000).natAbs = m.natAbs / 1000000000 := Int.natAbs_tdiv m 1000000000
      have hr0 : -999999999 ≤ m.tmod 1000000000 := by omega
      have hr1 : m.tmod 1000000000 ≤ 999999999 := by omega
      have HR := Lib.hid hra
      have HQ := Lib.hid hqa
      have HBK := Lib.hid hbk
      have HNE := Lib.hid hne
      clear hra hqa hbk hne
      go_wp2_with (at_builtin; refine wpList_append_own _ rfl (.tmp 16) (.tmp 21) 23 rfl (w.heap.size + 1) 3 i0 (.int .i64 0) 1 8 Tryz.underlying23 hi hz0 hz1 hz2 rfl (by decide) _ _ _ rfl (own_alloc hown _) ⟨wr.heap.size, 0, none⟩ 1 1 [.int .i64 _] rfl rfl (one_new _ _ _) ?c2 ?c3 ?c4 ?c5 ?_)
      any_goals (first | rfl | (unfold maxLen; omega) | omega)
      all_goals
        intro v1 w1 hown1 hg1 _
        have hdig : Hid (w1.ownsRow (w.heap.size + 1) 3 1 v1 (out ++ [((m.natAbs % 1000000000 : Nat) : Int)]).length (intsV (out ++ [((m.natAbs % 1000000000 : Nat) : Int)]))) := Lib.hid (by
          have hra := HR.out
          first
            | (have e : max (m.tmod 1000000000) (-m.tmod 1000000000) = ((m.natAbs % 1000000000 : Nat) : Int) := by omega
               rw [e] at hown1
               simpa [intsV] using hown1)
            | (have e : -m.tmod 1000000000 = ((m.natAbs % 1000000000 : Nat) : Int) := by omega
               rw [e] at hown1
               simpa [intsV] using hown1)
            | (have e : m.tmod 1000000000 = ((m.natAbs % 1000000000 : Nat) : Int) := by omega
               rw [e] at hown1
               simpa [intsV] using hown1))
        have hb2 : w1.heap[w.heap.size + 1]? = some (.cells (.slice A out.length c :: (intK s).rest).toArray (intK s).ty (0, 0)) := by
          rw [hg1.block _ (by simp; omega) (fun e => HNE.out e.symm), Below.heap_alloc _ _ _ hlt]
          exact HBK.out
        have d1 : w1.cell? ⟨w.heap.size + 1, 0, none⟩ = some (.slice A out.length c) := NatX.cell hb2
        have f1 : w1.frozen? ⟨w.heap.size + 1, 0, none⟩ = false := Lib.frozen_of_heap hb2 0
        have hb3 : Below (w.heap.size + 1) W0 w1 := (HB.out.alloc (by omega) _).grown hg1 (by simp; omega) (fun k hk => (own_lt hown hk).1)
        obtain ⟨A1, cc1, rfl⟩ := own_len hdig.out
        have HP := Lib.hid (NatX.put (K := intK s) hB hb2 hdig.out)
        have HB3 := Lib.hid (hb3.setCell (p := ⟨w.heap.size + 1, 0, none⟩) (Nat.le_refl _) (.slice A1 (out ++ [((m.natAbs % 1000000000 : Nat) : Int)]).length cc1))
        have hlen : (out ++ [((m.natAbs % 1000000000 : Nat) : Int)]).length = out.length + 1 := by simp
        rw [hlen] at HP HB3
        have hqb : -9223372036854775808 ≤ m.tdiv 1000000000 ∧ m.tdiv 1000000000 ≤ 9223372036854775807 ∧ (m.tdiv 1000000000).natAbs < m.natAbs := by have := HQ.out; omega
        have HQB := Lib.hid hqb
        have HN := Lib.hid (int_step hz hol hmf HE.out HQ.out)
        clear hb2 hb3 hown hown1 hg1 hdig c1
        clear hr0 hr1 HR hmf hqb hlen
        go_wp2_with fail
        obtain ⟨g, h1, h2, h3⟩ := HN.out
        exact ⟨⟨_, _, g, HQB.out.1, HQB.out.2.1, h1, h2, rfl, Lib.hid h3, Lib.hid HP.out, HB3⟩, by simpa [intOf] using HQB.out.2.2⟩
end Go.Proofs.YtclgelopcgahaaaGreatDoor

namespace Go.Proofs.YtclgelopcgahaaaGreatDoor
open Go.RowKit

set_option maxHeartbeats 1000000 in
set_option maxRecDepth 100000 in
theorem implRatZero_any (w : World) : Calls Tryz.prog 58 #[] w (NewV (fun v => OwnQ v oneQ) w) := by
  have bb0 : Below w.heap.size w (w.alloc (.cells #[.bool false, .slice none 0 0, .slice none 0 0] 27)) := below_al (Below.refl _ _) _
  have ko := box_new w #[.bool false, .slice none 0 0, .slice none 0 0] 27
  go_enter Tryz.func58, Tryz.ntmps58
  go_wp2_with fail
  refine (implNatOf_any 1 _ (by decide)).mono ?_
  rintro e w1 ⟨v1, rfl, o1, b1⟩
  rw [show (1 : Int).toNat = 1 from rfl, one_limbs] at o1
  obtain ⟨A1, c1, rfl⟩ := own_len o1
  have bb1 := Below.next bb0 b1
  replace ko := ko.below b1
  have HR := Lib.hid (newQ_ret (x := oneQ) (u := .slice none 0 0) (B := w.heap.size) (w := w) ko.here (World.ownsRow_nil _ _ _ _) o1 (fun g hg => by cases hg) (Nat.le_refl _) bb0.size (Nat.le_refl _) bb1)
  have cz0 := ko.here.cell 0 _ rfl
  have cz1 := ko.here.cell 1 _ rfl
  have cz2 := ko.here.cell 2 _ rfl
  have fz0 := Lib.frozen_of_heap ko.here 0
  have fz1 := Lib.frozen_of_heap ko.here 1
  have fz2 := Lib.frozen_of_heap ko.here 2
  clear ko o1
  go_wp2
  refine bodyPost_ret (v := .agg #[.bool false, .slice none 0 0, .slice A1 _ c1]) (by simp [results, Tryz.results58, go_sem, cz0, cz1, cz2]; rfl) rfl ?_
  exact HR.out
set_option maxHeartbeats 2000000 in
set_option maxRecDepth 100000 in
theorem implRatInt_any (va : Value) (a : SI) (w : World) (hza : szS a ≤ 1048576) (ha : OwnS va a w) (hsen : Sen w) :
    Calls Tryz.prog 9 #[va] w (PostQb (makeQ a (ofZ 1)).1 (makeQ a (ofZ 1)).2 w) := by
  have HS := Lib.hid hsen
  clear hsen
  have Ha := Lib.hid ha
  obtain ⟨Aa, ca, rfl⟩ := ownS_form ha
  have OSa := Lib.hid (show ∀ W, Below w.heap.size w W → OwnS (.agg #[.bool a.1, .slice Aa a.2.length ca]) a W from fun W hb => OwnS.below Ha.out hb)
  have OIa := Lib.hid (show ∀ W, Below w.heap.size w W → OwnI (.slice Aa a.2.length ca) a.2 W from fun W hb => ownS_open (OSa.out W hb))
  clear ha
  have bb0 : Below w.heap.size w ((w.alloc (.cells #[.bool a.1, .slice Aa a.2.length ca] 25)).alloc (.cells #[.bool false, .slice none 0 0, .slice none 0 0] 27)) := below_al (below_al (Below.refl _ _) _) _
  have ka := (box_new w #[.bool a.1, .slice Aa a.2.length ca] 25).below (below_al (Below.refl _ _) (.cells #[.bool false, .slice none 0 0, .slice none 0 0] 27))
  have ko := (box_new (w.alloc (.cells #[.bool a.1, .slice Aa a.2.length ca] 25)) #[.bool false, .slice none 0 0, .slice none 0 0] 27)
  rw [show (w.alloc (.cells #[.bool a.1, .slice Aa a.2.length ca] 25)).heap.size = w.heap.size + 1 by simp] at ko
  have HKO := Lib.hid (ko.lt (w.heap.size + 1) (by simp))
  obtain ⟨Q, hQ⟩ : ∃ Q, makeQ a (ofZ 1) = Q := ⟨_, rfl⟩
  have EQ := Lib.hid hQ
  rw [hQ]
  clear hQ
  obtain ⟨W0, hW0⟩ : ∃ W0, W0 = ((w.alloc (.cells #[.bool a.1, .slice Aa a.2.length ca] 25)).alloc (.cells #[.bool false, .slice none 0 0, .slice none 0 0] 27)) := ⟨_, rfl⟩
  rw [← hW0] at bb0 ka ko HKO
  have HW0 := Lib.hid hW0
  clear hW0
  have hz0 := HKO.out
  go_enter Tryz.func9, Tryz.ntmps9
  have ka_c0 := ka.here.cell 0 _ rfl
  have ka_c1 := ka.here.cell 1 _ rfl
  go_wp2_with fail
  rw [← HW0.out]
  have HC0 := Lib.hid (show Chg [w.heap.size + 1] W0 W0.drew from (Chg.refl _ _).drew1)
  have HCr := Lib.hid (show Chg [w.heap.size + 1] W0 W0 from Chg.refl _ _)
  have KL := Lib.hid (show ∀ W, Chg [w.heap.size + 1] W0 W → W.cell? ⟨w.heap.size, 0, none⟩ = some (.bool a.1) ∧ W.cell? ⟨w.heap.size, 1, none⟩ = some (.slice Aa a.2.length ca) ∧ Hid (Chg [w.heap.size + 1] W0 W) from fun W hc => ⟨(ka.chg hc (fun i hi hm => by simp at hi hm; omega)).here.cell 0 _ rfl, (ka.chg hc (fun i hi hm => by simp at hi hm; omega)).here.cell 1 _ rfl, Lib.hid hc⟩)
  have BBF := Lib.hid (show ∀ W, Chg [w.heap.size + 1] W0 W → Below w.heap.size w W from fun W hc => below_chg bb0 hc bb0.size (fun i hi => by simp at hi; omega))
  clear ka_c0 ka_c1
  go_region_held3 (fun W => W.cell? ⟨w.heap.size, 0, none⟩ = some (.bool a.1) ∧ W.cell? ⟨w.heap.size, 1, none⟩ = some (.slice Aa a.2.length ca) ∧ Hid (Chg [w.heap.size + 1] W0 W))
    ((refine KL.out _ ?_; (first | exact HC2.out | exact HC1.out | exact HCr.out | exact HC0.out | exact HC2.out.drew1 | exact HC1.out.drew1 | exact HCr.out.drew1 | exact HC0.out.drew1 | exact HC2.out.trans (Chg.of_below (below_al (Below.refl _ _) _)) | exact HC1.out.trans (Chg.of_below (below_al (Below.refl _ _) _)) | exact HCr.out.trans (Chg.of_below (below_al (Below.refl _ _) _)) | exact HC0.out.trans (Chg.of_below (below_al (Below.refl _ _) _)) | exact (Chg.setCell HC2.out (by simp) _) | exact (Chg.setCell (Chg.setCell HC2.out (by simp) _) (by simp) _) | exact (Chg.setCell (Chg.setCell (Chg.setCell HC2.out (by simp) _) (by simp) _) (by simp) _) | fail)))
    (first
      | (go_at_call 46; (have hBB := (‹_ ∧ _ ∧ Hid (Chg [w.heap.size + 1] W0 _)›).2.2); (with_reducible refine ((implIntOf_any 1 _ (by decide) (by decide)).mono fun _ _ h => NewS.newV h).mono ?_); rintro e w1 ⟨ui, Si, rfl, oi, li, b1⟩; have HC1 := Lib.hid (hBB.out.trans (Chg.of_below b1)); (have ko_1 := At.below (by first | exact ko | exact At.below ko (below_al (Below.refl _ _) _) | exact At.below (At.below ko (below_al (Below.refl _ _) _)) (below_al (Below.refl _ _) _) | exact At.move ko (fun _ _ => rfl) (Nat.le_refl _)) b1); obtain ⟨Ai, ci, rfl⟩ := ownS_form oi.here; have HBZ1 := Lib.hid hBB.out.size; clear hBB)
      | (go_at_call 45; (have hBB := (‹_ ∧ _ ∧ Hid (Chg [w.heap.size + 1] W0 _)›).2.2); (with_reducible refine ((implRatMake_any _ _ a (ofZ 1) _ hza one_szS (OSa.out _ (BBF.out _ hBB.out)) (At.here (by first | exact oi | exact At.below oi (below_al (Below.refl _ _) _) | exact At.below (At.below oi (below_al (Below.refl _ _) _)) (below_al (Below.refl _ _) _) | exact At.move oi (fun _ _ => rfl) (Nat.le_refl _))) (HS.out.below (BBF.out _ hBB.out))).mono fun _ _ h => postQb_eq EQ.out h).mono ?_); rintro e w2 ⟨uf, Sf, rfl, of, lf, b2⟩; have HC2 := Lib.hid (hBB.out.trans (Chg.of_below b2)); (have ko_2 := At.below (by first | exact ko_1 | exact At.below ko_1 (below_al (Below.refl _ _) _) | exact At.below (At.below ko_1 (below_al (Below.refl _ _) _)) (below_al (Below.refl _ _) _) | exact At.move ko_1 (fun _ _ => rfl) (Nat.le_refl _)) b2); (have oi_2 := At.below (by first | exact oi | exact At.below oi (below_al (Below.refl _ _) _) | exact At.below (At.below oi (below_al (Below.refl _ _) _)) (below_al (Below.refl _ _) _) | exact At.move oi (fun _ _ => rfl) (Nat.le_refl _)) b2); obtain ⟨Af, cf, Bf, df, rfl⟩ := ownQ_form of.here; have cz0 := ko_2.here.cell 0 _ rfl; have fz0 := Lib.frozen_of_heap ko_2.here 0; have cz1 := ko_2.here.cell 1 _ rfl; have fz1 := Lib.frozen_of_heap ko_2.here 1; have cz2 := ko_2.here.cell 2 _ rfl; have fz2 := Lib.frozen_of_heap ko_2.here 2; have HBZ2 := Lib.hid hBB.out.size; clear hBB))
  have bb2 := BBF.out _ HC2.out
  replace ka := ka.chg HC2.out (fun i hi hm => by simp at hi hm; omega)
  replace ko := ko_2
  have oi := oi_2
  have HW := Lib.hid (newQb_at (r := w.heap.size + 1) (b := Q.2) of lf (by have := HBZ2.out; omega) (by omega) bb2)
  clear of ko ka oi
  go_wp2
  refine bodyPost_ret (v := .tuple #[.agg #[.bool _, .slice Af _ cf, .slice Bf _ df], .bool _]) (by simp [results, Tryz.results9, go_sem, cz0, cz1, cz2]; exact ⟨⟨rfl, rfl, rfl⟩, rfl⟩) rfl ?_
  exact HW.out
set_option maxHeartbeats 2000000 in
set_option maxRecDepth 100000 in
theorem implRatNeg_any (vr : Value) (r : QI) (w : World) (hzr : szQ r ≤ 1048576) (hr : OwnQ vr r w) (hsen : Sen w) :
    Calls Tryz.prog 59 #[vr] w (PostQb (negQ r).1 (negQ r).2 w) := by
  have HS := Lib.hid hsen
  clear hsen
  have Hr := Lib.hid hr
  obtain ⟨Ar, cr, Br, dr, rfl⟩ := ownQ_form hr
  have OQr := Lib.hid (show ∀ W, Below w.heap.size w W → OwnQ (.agg #[.bool r.1.1, .slice Ar r.1.2.length cr, .slice Br r.2.length dr]) r W from fun W hb => OwnQ.below Hr.out hb)
  have OUr := Lib.hid (show ∀ W, Below w.heap.size w W → OwnI (.slice Ar r.1.2.length cr) r.1.2 W from fun W hb => (ownQ_open (OQr.out W hb)).2.1)
  have ODr := Lib.hid (show ∀ W, Below w.heap.size w W → OwnI (.slice Br r.2.length dr) r.2 W from fun W hb => (ownQ_open (OQr.out W hb)).2.2.1)
  have OSr := Lib.hid (show ∀ W, Below w.heap.size w W → OwnS (.agg #[.bool r.1.1, .slice Ar r.1.2.length cr]) r.1 W from fun W hb => OwnS.mk (OUr.out W hb))
  clear hr
  have hlr := szQ_len hzr
  have hl1r := hlr.1
  have hl2r := hlr.2
  clear hlr
  have bb0 : Below w.heap.size w ((w.alloc (.cells #[.bool r.1.1, .slice Ar r.1.2.length cr, .slice Br r.2.length dr] 27)).alloc (.cells #[.bool false, .slice none 0 0, .slice none 0 0] 27)) := below_al (below_al (Below.refl _ _) _) _
  have kr := (box_new w #[.bool r.1.1, .slice Ar r.1.2.length cr, .slice Br r.2.length dr] 27).below (below_al (Below.refl _ _) (.cells #[.bool false, .slice none 0 0, .slice none 0 0] 27))
  have ko := (box_new (w.alloc (.cells #[.bool r.1.1, .slice Ar r.1.2.length cr, .slice Br r.2.length dr] 27)) #[.bool false, .slice none 0 0, .slice none 0 0] 27)
  rw [show (w.alloc (.cells #[.bool r.1.1, .slice Ar r.1.2.length cr, .slice Br r.2.length dr] 27)).heap.size = w.heap.size + 1 by simp] at ko
  have HKO := Lib.hid (ko.lt (w.heap.size + 1) (by simp))
  go_enter Tryz.func59, Tryz.ntmps59
  have kr_c0 := kr.here.cell 0 _ rfl
  have kr_c1 := kr.here.cell 1 _ rfl
  have kr_c2 := kr.here.cell 2 _ rfl
  go_wp2_with fail
  clear kr_c0 kr_c1 kr_c2
  refine (implRatOk_any _ r _ hzr (OQr.out _ bb0) (HS.out.below bb0)).mono ?_
  rintro e w1 ⟨rfl, b1⟩
  have bb1 := Below.next bb0 b1
  replace kr := kr.below b1
  replace ko := ko.below b1
  by_cases okr : okQ r = true
  · rw [okr]
    have HV := Lib.hid (show negQ r = ((negS r.1, r.2), true) by unfold negQ; rw [if_pos okr])
    clear okr
    obtain ⟨N, hN⟩ : ∃ N, negS r.1 = N := ⟨_, rfl⟩
    rw [hN] at HV
    have EN := Lib.hid hN
    clear hN
    have hko := ko.lt (w.heap.size + 1) (by simp)
    have kr_c0 := kr.here.cell 0 _ rfl
    have kr_c1 := kr.here.cell 1 _ rfl
    have kr_c2 := kr.here.cell 2 _ rfl
    go_wp2_with fail
    have HC0 := Lib.hid (show Chg [w.heap.size + 1] w1 w1.drew from (Chg.refl _ _).drew1)
    have HCr := Lib.hid (show Chg [w.heap.size + 1] w1 w1 from Chg.refl _ _)
    have KL := Lib.hid (show ∀ W, Chg [w.heap.size + 1] w1 W → W.cell? ⟨w.heap.size, 0, none⟩ = some (.bool r.1.1) ∧ W.cell? ⟨w.heap.size, 1, none⟩ = some (.slice Ar r.1.2.length cr) ∧ W.cell? ⟨w.heap.size, 2, none⟩ = some (.slice Br r.2.length dr) ∧ Hid (Chg [w.heap.size + 1] w1 W) from fun W hc => ⟨(kr.chg hc (fun i hi hm => by simp at hi hm; omega)).here.cell 0 _ rfl, (kr.chg hc (fun i hi hm => by simp at hi hm; omega)).here.cell 1 _ rfl, (kr.chg hc (fun i hi hm => by simp at hi hm; omega)).here.cell 2 _ rfl, Lib.hid hc⟩)
    have BBF := Lib.hid (show ∀ W, Chg [w.heap.size + 1] w1 W → Below w.heap.size w W from fun W hc => below_chg bb1 hc bb1.size (fun i hi => by simp at hi; omega))
    clear kr_c0 kr_c1 kr_c2
    go_region_held3 (fun W => W.cell? ⟨w.heap.size, 0, none⟩ = some (.bool r.1.1) ∧ W.cell? ⟨w.heap.size, 1, none⟩ = some (.slice Ar r.1.2.length cr) ∧ W.cell? ⟨w.heap.size, 2, none⟩ = some (.slice Br r.2.length dr) ∧ Hid (Chg [w.heap.size + 1] w1 W))
      ((refine KL.out _ ?_; (first | exact HC3.out | exact HC2.out | exact HCr.out | exact HC0.out | exact HC3.out.drew1 | exact HC2.out.drew1 | exact HCr.out.drew1 | exact HC0.out.drew1 | exact HC3.out.trans (Chg.of_below (below_al (Below.refl _ _) _)) | exact HC2.out.trans (Chg.of_below (below_al (Below.refl _ _) _)) | exact HCr.out.trans (Chg.of_below (below_al (Below.refl _ _) _)) | exact HC0.out.trans (Chg.of_below (below_al (Below.refl _ _) _)) | exact (Chg.setCell HC3.out (by simp) _) | exact (Chg.setCell (Chg.setCell HC3.out (by simp) _) (by simp) _) | exact (Chg.setCell (Chg.setCell (Chg.setCell HC3.out (by simp) _) (by simp) _) (by simp) _) | fail)))
      (first
        | (go_at_call 99; (have hBB := (‹_ ∧ _ ∧ _ ∧ Hid (Chg [w.heap.size + 1] w1 _)›).2.2.2); (with_reducible refine ((implIntNeg_any _ r.1 _ hl1r (OSr.out _ (BBF.out _ hBB.out))).mono fun _ _ h => newVS_eq EN.out (NewS.newV h)).mono ?_); rintro e w2 ⟨un, Sn, rfl, on, ln, b2⟩; have HC2 := Lib.hid (hBB.out.trans (Chg.of_below b2)); (have ko_2 := At.below (by first | exact ko | exact At.below ko (below_al (Below.refl _ _) _) | exact At.below (At.below ko (below_al (Below.refl _ _) _)) (below_al (Below.refl _ _) _) | exact At.move ko (fun _ _ => rfl) (Nat.le_refl _)) b2); obtain ⟨An, cn, rfl⟩ := ownS_form on.here; have HBZ2 := Lib.hid hBB.out.size; clear hBB)
        | (go_at_call 100; (have hBB := (‹_ ∧ _ ∧ _ ∧ Hid (Chg [w.heap.size + 1] w1 _)›).2.2.2); (with_reducible refine ((cloneI_any _ r.2 0 _ _ hl2r (ODr.out _ (BBF.out _ hBB.out)).row).mono fun _ _ h => h.newV).mono ?_); rintro e w3 ⟨ud, Sd, rfl, od, ld, b3⟩; have HC3 := Lib.hid (hBB.out.trans (Chg.of_below b3)); (have ko_3 := At.below (by first | exact ko_2 | exact At.below ko_2 (below_al (Below.refl _ _) _) | exact At.below (At.below ko_2 (below_al (Below.refl _ _) _)) (below_al (Below.refl _ _) _) | exact At.move ko_2 (fun _ _ => rfl) (Nat.le_refl _)) b3); (have on_3 := At.below (by first | exact on | exact At.below on (below_al (Below.refl _ _) _) | exact At.below (At.below on (below_al (Below.refl _ _) _)) (below_al (Below.refl _ _) _) | exact At.move on (fun _ _ => rfl) (Nat.le_refl _)) b3); obtain ⟨Ad, cd, rfl⟩ := own_len od.here; have cz0 := ko_3.here.cell 0 _ rfl; have fz0 := Lib.frozen_of_heap ko_3.here 0; have cz1 := ko_3.here.cell 1 _ rfl; have fz1 := Lib.frozen_of_heap ko_3.here 1; have cz2 := ko_3.here.cell 2 _ rfl; have fz2 := Lib.frozen_of_heap ko_3.here 2; have HBZ3 := Lib.hid hBB.out.size; clear hBB))
    have bb3 := BBF.out _ HC3.out
    replace kr := kr.chg HC3.out (fun i hi hm => by simp at hi hm; omega)
    replace ko := ko_3
    have on := on_3
    have hq := At.both on od
    have of : At (Sn ++ Sd) (OwnQ (.agg #[.bool N.1, .slice An N.2.length cn, .slice Ad r.2.length cd]) (N, r.2)) w3 := hq.imp_at fun g h1 h2 => by have := ln _ (at_ints_mem on (fun _ h => ownS_open h) g h1); have := ld _ (at_ints_mem od (fun _ h => h) g h2); have := HBZ3.out; omega
    have HW := Lib.hid (newQb_at (r := w.heap.size + 1) (b := true) (B := w1.heap.size) of (fun g hg => by
      have := HBZ3.out
      have := HBZ2.out
      skip
      rcases List.mem_append.1 hg with hg | hg
      · exact ⟨by have := (ln g hg).1; omega, on.lt g hg⟩
      · exact ⟨by have := (ld g hg).1; omega, od.lt g hg⟩) hko (by omega) bb3)
    clear of ko kr on od hq
    go_wp2
    refine bodyPost_ret (v := .tuple #[.agg #[.bool _, .slice An _ cn, .slice Ad _ cd], .bool true]) (by simp [results, Tryz.results59, go_sem, cz0, cz1, cz2]; exact ⟨rfl, rfl, rfl⟩) rfl ?_
    rw [HV.out]
    exact HW.out
  · have okr' : okQ r = false := by simpa using okr
    have HV := Lib.hid (show negQ r = (zeroQ, false) by unfold negQ; rw [if_neg okr])
    rw [okr']
    clear okr okr'
    have ko_c0 := ko.here.cell 0 _ rfl
    have ko_c1 := ko.here.cell 1 _ rfl
    have ko_c2 := ko.here.cell 2 _ rfl
    have cz0 := ko.here.cell 0 _ rfl
    have fz0 := Lib.frozen_of_heap ko.here 0
    have cz1 := ko.here.cell 1 _ rfl
    have fz1 := Lib.frozen_of_heap ko.here 1
    have cz2 := ko.here.cell 2 _ rfl
    have fz2 := Lib.frozen_of_heap ko.here 2
    go_wp2
    refine bodyPost_ret (v := .tuple #[.agg #[.bool false, .slice none 0 0, .slice none 0 0], .bool false]) (by simp [results, Tryz.results59, go_sem, cz0, cz1, cz2]) rfl ?_
    rw [HV.out]
    first | exact newQb_zero _ bb1 | exact newQb_zero _ (below_set3 bb1 (by omega))
set_option maxHeartbeats 2000000 in
set_option maxRecDepth 100000 in
theorem implRatCmp_any (vr vs : Value) (r s : QI) (w : World) (hzr : szQ r ≤ 1048576) (hzs : szQ s ≤ 1048576) (hr : OwnQ vr r w) (hs : OwnQ vs s w) (hsen : Sen w) :
    Calls Tryz.prog 12 #[vr, vs] w (Postn (cmpQ r s) w) := by
  have HS := Lib.hid hsen
  clear hsen
  have Hr := Lib.hid hr
  obtain ⟨Ar, cr, Br, dr, rfl⟩ := ownQ_form hr
  have OQr := Lib.hid (show ∀ W, Below w.heap.size w W → OwnQ (.agg #[.bool r.1.1, .slice Ar r.1.2.length cr, .slice Br r.2.length dr]) r W from fun W hb => OwnQ.below Hr.out hb)
  have OUr := Lib.hid (show ∀ W, Below w.heap.size w W → OwnI (.slice Ar r.1.2.length cr) r.1.2 W from fun W hb => (ownQ_open (OQr.out W hb)).2.1)
  have ODr := Lib.hid (show ∀ W, Below w.heap.size w W → OwnI (.slice Br r.2.length dr) r.2 W from fun W hb => (ownQ_open (OQr.out W hb)).2.2.1)
  have OSr := Lib.hid (show ∀ W, Below w.heap.size w W → OwnS (.agg #[.bool r.1.1, .slice Ar r.1.2.length cr]) r.1 W from fun W hb => OwnS.mk (OUr.out W hb))
  clear hr
  have Hs := Lib.hid hs
  obtain ⟨As, cs, Bs, ds, rfl⟩ := ownQ_form hs
  have OQs := Lib.hid (show ∀ W, Below w.heap.size w W → OwnQ (.agg #[.bool s.1.1, .slice As s.1.2.length cs, .slice Bs s.2.length ds]) s W from fun W hb => OwnQ.below Hs.out hb)
  have OUs := Lib.hid (show ∀ W, Below w.heap.size w W → OwnI (.slice As s.1.2.length cs) s.1.2 W from fun W hb => (ownQ_open (OQs.out W hb)).2.1)
  have ODs := Lib.hid (show ∀ W, Below w.heap.size w W → OwnI (.slice Bs s.2.length ds) s.2 W from fun W hb => (ownQ_open (OQs.out W hb)).2.2.1)
  have OSs := Lib.hid (show ∀ W, Below w.heap.size w W → OwnS (.agg #[.bool s.1.1, .slice As s.1.2.length cs]) s.1 W from fun W hb => OwnS.mk (OUs.out W hb))
  clear hs
  have bb0 : Below w.heap.size w (((w.alloc (.cells #[.bool r.1.1, .slice Ar r.1.2.length cr, .slice Br r.2.length dr] 27)).alloc (.cells #[.bool s.1.1, .slice As s.1.2.length cs, .slice Bs s.2.length ds] 27)).alloc (.cells #[.bool r.1.1, .slice Ar r.1.2.length cr, .slice Br r.2.length dr, .bool s.1.1, .slice As s.1.2.length cs, .slice Bs s.2.length ds] 82)) := below_al (below_al (below_al (Below.refl _ _) _) _) _
  have kr := (box_new w #[.bool r.1.1, .slice Ar r.1.2.length cr, .slice Br r.2.length dr] 27).below (below_al (below_al (Below.refl _ _) (.cells #[.bool s.1.1, .slice As s.1.2.length cs, .slice Bs s.2.length ds] 27)) (.cells #[.bool r.1.1, .slice Ar r.1.2.length cr, .slice Br r.2.length dr, .bool s.1.1, .slice As s.1.2.length cs, .slice Bs s.2.length ds] 82))
  have ks := (box_new (w.alloc (.cells #[.bool r.1.1, .slice Ar r.1.2.length cr, .slice Br r.2.length dr] 27)) #[.bool s.1.1, .slice As s.1.2.length cs, .slice Bs s.2.length ds] 27).below (below_al (Below.refl _ _) (.cells #[.bool r.1.1, .slice Ar r.1.2.length cr, .slice Br r.2.length dr, .bool s.1.1, .slice As s.1.2.length cs, .slice Bs s.2.length ds] 82))
  rw [show (w.alloc (.cells #[.bool r.1.1, .slice Ar r.1.2.length cr, .slice Br r.2.length dr] 27)).heap.size = w.heap.size + 1 by simp] at ks
  have kp := (box_new ((w.alloc (.cells #[.bool r.1.1, .slice Ar r.1.2.length cr, .slice Br r.2.length dr] 27)).alloc (.cells #[.bool s.1.1, .slice As s.1.2.length cs, .slice Bs s.2.length ds] 27)) #[.bool r.1.1, .slice Ar r.1.2.length cr, .slice Br r.2.length dr, .bool s.1.1, .slice As s.1.2.length cs, .slice Bs s.2.length ds] 82)
  rw [show ((w.alloc (.cells #[.bool r.1.1, .slice Ar r.1.2.length cr, .slice Br r.2.length dr] 27)).alloc (.cells #[.bool s.1.1, .slice As s.1.2.length cs, .slice Bs s.2.length ds] 27)).heap.size = w.heap.size + 1 + 1 by simp] at kp
  go_enter Tryz.func12, Tryz.ntmps12
  go_wp2_with fail
  refine (ok_any r s _ hzr hzs (HS.out.below bb0) (OQr.out _ bb0) (OQs.out _ bb0)).mono ?_
  rintro e w1 ⟨rfl, b1⟩
  have bb1 := Below.next bb0 b1
  replace kr := kr.below b1
  replace ks := ks.below b1
  replace kp := kp.below b1
  by_cases hok : (okQ r && okQ s) = true
  · rw [hok]
    have hok2 := (Bool.and_eq_true _ _ ▸ hok : okQ r = true ∧ okQ s = true)
    have HPr := Lib.hid (parts_of hok2.1)
    have HPs := Lib.hid (parts_of hok2.2)
    have hl1 : (leftS r s).2.length ≤ 1048576 := by rw [(leftS_eq HPr.out HPs.out).1]; have := ofZ_len (numQ r * denQ s); omega
    have hl2 : (leftS s r).2.length ≤ 1048576 := by rw [(leftS_eq HPs.out HPr.out).1]; have := ofZ_len (numQ s * denQ r); omega
    have HV := Lib.hid (show cmpS (leftS r s) (leftS s r) = cmpQ r s from cmpQ_make HPr.out HPs.out hok2.1 hok2.2)
    obtain ⟨L, hL⟩ : ∃ L, leftS r s = L := ⟨_, rfl⟩
    obtain ⟨R, hR⟩ : ∃ R, leftS s r = R := ⟨_, rfl⟩
    rw [hL, hR] at HV
    rw [hL] at hl1
    rw [hR] at hl2
    have EL := Lib.hid hL
    have ER := Lib.hid hR
    clear hok hok2 hL hR
    have kp_c0 := kp.here.cell 0 _ rfl
    have kp_c1 := kp.here.cell 1 _ rfl
    have kp_c2 := kp.here.cell 2 _ rfl
    have kp_c3 := kp.here.cell 3 _ rfl
    have kp_c4 := kp.here.cell 4 _ rfl
    have kp_c5 := kp.here.cell 5 _ rfl
    go_wp2_with fail
    have HC0 := Lib.hid (show Chg [] w1 w1.drew from (Chg.refl _ _).drew1)
    have HCr := Lib.hid (show Chg [] w1 w1 from Chg.refl _ _)
    have KL := Lib.hid (show ∀ W, Chg [] w1 W → W.cell? ⟨w.heap.size + 1 + 1, 0, none⟩ = some (.bool r.1.1) ∧ W.cell? ⟨w.heap.size + 1 + 1, 1, none⟩ = some (.slice Ar r.1.2.length cr) ∧ W.cell? ⟨w.heap.size + 1 + 1, 2, none⟩ = some (.slice Br r.2.length dr) ∧ W.cell? ⟨w.heap.size + 1 + 1, 3, none⟩ = some (.bool s.1.1) ∧ W.cell? ⟨w.heap.size + 1 + 1, 4, none⟩ = some (.slice As s.1.2.length cs) ∧ W.cell? ⟨w.heap.size + 1 + 1, 5, none⟩ = some (.slice Bs s.2.length ds) ∧ Hid (Chg [] w1 W) from fun W hc => ⟨(kp.chg hc (fun i hi hm => by simp at hm)).here.cell 0 _ rfl, (kp.chg hc (fun i hi hm => by simp at hm)).here.cell 1 _ rfl, (kp.chg hc (fun i hi hm => by simp at hm)).here.cell 2 _ rfl, (kp.chg hc (fun i hi hm => by simp at hm)).here.cell 3 _ rfl, (kp.chg hc (fun i hi hm => by simp at hm)).here.cell 4 _ rfl, (kp.chg hc (fun i hi hm => by simp at hm)).here.cell 5 _ rfl, Lib.hid hc⟩)
    have BBF := Lib.hid (show ∀ W, Chg [] w1 W → Below w.heap.size w W from fun W hc => below_chg bb1 hc bb1.size (fun i hi => by simp at hi))
    clear kp_c0 kp_c1 kp_c2 kp_c3 kp_c4 kp_c5
    go_region_held3 (fun W => W.cell? ⟨w.heap.size + 1 + 1, 0, none⟩ = some (.bool r.1.1) ∧ W.cell? ⟨w.heap.size + 1 + 1, 1, none⟩ = some (.slice Ar r.1.2.length cr) ∧ W.cell? ⟨w.heap.size + 1 + 1, 2, none⟩ = some (.slice Br r.2.length dr) ∧ W.cell? ⟨w.heap.size + 1 + 1, 3, none⟩ = some (.bool s.1.1) ∧ W.cell? ⟨w.heap.size + 1 + 1, 4, none⟩ = some (.slice As s.1.2.length cs) ∧ W.cell? ⟨w.heap.size + 1 + 1, 5, none⟩ = some (.slice Bs s.2.length ds) ∧ Hid (Chg [] w1 W))
      ((refine KL.out _ ?_; (first | exact HC4.out | exact HC3.out | exact HC2.out | exact HCr.out | exact HC0.out | exact HC4.out.drew1 | exact HC3.out.drew1 | exact HC2.out.drew1 | exact HCr.out.drew1 | exact HC0.out.drew1 | exact HC4.out.trans (Chg.of_below (below_al (Below.refl _ _) _)) | exact HC3.out.trans (Chg.of_below (below_al (Below.refl _ _) _)) | exact HC2.out.trans (Chg.of_below (below_al (Below.refl _ _) _)) | exact HCr.out.trans (Chg.of_below (below_al (Below.refl _ _) _)) | exact HC0.out.trans (Chg.of_below (below_al (Below.refl _ _) _)) | fail)))
      (first
        | (go_at_call 53; (have hBB := (‹_ ∧ _ ∧ _ ∧ _ ∧ _ ∧ _ ∧ Hid (Chg [] w1 _)›).2.2.2.2.2.2); (with_reducible refine ((left_any r s _ HPr.out HPs.out (OQr.out _ (BBF.out _ hBB.out)) (OQs.out _ (BBF.out _ hBB.out))).mono fun _ _ h => newVS_eq EL.out h).mono ?_); rintro e w2 ⟨ul, Sl, rfl, ol, ll, b2⟩; have HC2 := Lib.hid (hBB.out.trans (Chg.of_below b2)); obtain ⟨Al, cl, rfl⟩ := ownS_form ol.here; have HBZ2 := Lib.hid hBB.out.size; clear hBB)
        | (go_at_call 54; (have hBB := (‹_ ∧ _ ∧ _ ∧ _ ∧ _ ∧ _ ∧ Hid (Chg [] w1 _)›).2.2.2.2.2.2); (with_reducible refine ((right_any r s _ HPr.out HPs.out (OQr.out _ (BBF.out _ hBB.out)) (OQs.out _ (BBF.out _ hBB.out))).mono fun _ _ h => newVS_eq ER.out h).mono ?_); rintro e w3 ⟨ur, Sr, rfl, or, lr, b3⟩; have HC3 := Lib.hid (hBB.out.trans (Chg.of_below b3)); (have ol_3 := At.below (by first | exact ol | exact At.below ol (below_al (Below.refl _ _) _) | exact At.below (At.below ol (below_al (Below.refl _ _) _)) (below_al (Below.refl _ _) _) | exact At.move ol (fun _ _ => rfl) (Nat.le_refl _)) b3); obtain ⟨Ar_, cr_, rfl⟩ := ownS_form or.here; have HBZ3 := Lib.hid hBB.out.size; clear hBB)
        | (go_at_call 11; (have hBB := (‹_ ∧ _ ∧ _ ∧ _ ∧ _ ∧ _ ∧ Hid (Chg [] w1 _)›).2.2.2.2.2.2); (with_reducible refine (implIntCmp_any _ _ L R _ hl1 hl2 (At.here (by first | exact ol_3 | exact At.below ol_3 (below_al (Below.refl _ _) _) | exact At.below (At.below ol_3 (below_al (Below.refl _ _) _)) (below_al (Below.refl _ _) _) | exact At.move ol_3 (fun _ _ => rfl) (Nat.le_refl _))) (At.here (by first | exact or | exact At.below or (below_al (Below.refl _ _) _) | exact At.below (At.below or (below_al (Below.refl _ _) _)) (below_al (Below.refl _ _) _) | exact At.move or (fun _ _ => rfl) (Nat.le_refl _)))).mono ?_); rintro e w4 ⟨rfl, b4⟩; have HC4 := Lib.hid (hBB.out.trans (Chg.of_below b4)); (have ol_4 := At.below (by first | exact ol_3 | exact At.below ol_3 (below_al (Below.refl _ _) _) | exact At.below (At.below ol_3 (below_al (Below.refl _ _) _)) (below_al (Below.refl _ _) _) | exact At.move ol_3 (fun _ _ => rfl) (Nat.le_refl _)) b4); (have or_4 := At.below (by first | exact or | exact At.below or (below_al (Below.refl _ _) _) | exact At.below (At.below or (below_al (Below.refl _ _) _)) (below_al (Below.refl _ _) _) | exact At.move or (fun _ _ => rfl) (Nat.le_refl _)) b4); have HBZ4 := Lib.hid hBB.out.size; clear hBB))
    have bb4 := BBF.out _ HC4.out
    replace kr := kr.chg HC4.out (fun i hi hm => by simp at hm)
    replace ks := ks.chg HC4.out (fun i hi hm => by simp at hm)
    replace kp := kp.chg HC4.out (fun i hi hm => by simp at hm)
    have ol := ol_4
    have or := or_4
    go_wp2
    go_ret
    exact ⟨ret_int HV.out, bb4⟩
  · have hok' : (okQ r && okQ s) = false := by simpa using hok
    have HV := Lib.hid (show cmpQ r s = 0 by unfold cmpQ; rw [if_neg (fun h => hok (by rw [h.1, h.2]; rfl))])
    rw [hok']
    clear hok hok'
    go_wp2
    go_ret
    exact ⟨ret_int HV.out.symm, bb1⟩
set_option maxHeartbeats 2000000 in
set_option maxRecDepth 100000 in
theorem implRatSign_any (vr : Value) (r : QI) (w : World) (hzr : szQ r ≤ 1048576) (hr : OwnQ vr r w) (hsen : Sen w) :
    Calls Tryz.prog 15 #[vr] w (Postn (cmpQ r oneQ) w) := by
  have HS := Lib.hid hsen
  clear hsen
  have Hr := Lib.hid hr
  obtain ⟨Ar, cr, Br, dr, rfl⟩ := ownQ_form hr
  have OQr := Lib.hid (show ∀ W, Below w.heap.size w W → OwnQ (.agg #[.bool r.1.1, .slice Ar r.1.2.length cr, .slice Br r.2.length dr]) r W from fun W hb => OwnQ.below Hr.out hb)
  have OUr := Lib.hid (show ∀ W, Below w.heap.size w W → OwnI (.slice Ar r.1.2.length cr) r.1.2 W from fun W hb => (ownQ_open (OQr.out W hb)).2.1)
  have ODr := Lib.hid (show ∀ W, Below w.heap.size w W → OwnI (.slice Br r.2.length dr) r.2 W from fun W hb => (ownQ_open (OQr.out W hb)).2.2.1)
  have OSr := Lib.hid (show ∀ W, Below w.heap.size w W → OwnS (.agg #[.bool r.1.1, .slice Ar r.1.2.length cr]) r.1 W from fun W hb => OwnS.mk (OUr.out W hb))
  clear hr
  have bb0 : Below w.heap.size w (w.alloc (.cells #[.bool r.1.1, .slice Ar r.1.2.length cr, .slice Br r.2.length dr] 27)) := below_al (Below.refl _ _) _
  have kr := (box_new w #[.bool r.1.1, .slice Ar r.1.2.length cr, .slice Br r.2.length dr] 27)
  obtain ⟨W0, hW0⟩ : ∃ W0, W0 = (w.alloc (.cells #[.bool r.1.1, .slice Ar r.1.2.length cr, .slice Br r.2.length dr] 27)) := ⟨_, rfl⟩
  rw [← hW0] at bb0 kr
  have HW0 := Lib.hid hW0
  clear hW0
  obtain ⟨z, hz⟩ : ∃ z, cmpQ r oneQ = z := ⟨_, rfl⟩
  have EZ := Lib.hid hz
  rw [hz]
  clear hz
  go_enter Tryz.func15, Tryz.ntmps15
  have kr_c0 := kr.here.cell 0 _ rfl
  have kr_c1 := kr.here.cell 1 _ rfl
  have kr_c2 := kr.here.cell 2 _ rfl
  go_wp2_with fail
  rw [← HW0.out]
  have HC0 := Lib.hid (show Chg [] W0 W0.drew from (Chg.refl _ _).drew1)
  have HCr := Lib.hid (show Chg [] W0 W0 from Chg.refl _ _)
  have KL := Lib.hid (show ∀ W, Chg [] W0 W → W.cell? ⟨w.heap.size, 0, none⟩ = some (.bool r.1.1) ∧ W.cell? ⟨w.heap.size, 1, none⟩ = some (.slice Ar r.1.2.length cr) ∧ W.cell? ⟨w.heap.size, 2, none⟩ = some (.slice Br r.2.length dr) ∧ Hid (Chg [] W0 W) from fun W hc => ⟨(kr.chg hc (fun i hi hm => by simp at hm)).here.cell 0 _ rfl, (kr.chg hc (fun i hi hm => by simp at hm)).here.cell 1 _ rfl, (kr.chg hc (fun i hi hm => by simp at hm)).here.cell 2 _ rfl, Lib.hid hc⟩)
  have BBF := Lib.hid (show ∀ W, Chg [] W0 W → Below w.heap.size w W from fun W hc => below_chg bb0 hc bb0.size (fun i hi => by simp at hi))
  clear kr_c0 kr_c1 kr_c2
  go_region_held3 (fun W => W.cell? ⟨w.heap.size, 0, none⟩ = some (.bool r.1.1) ∧ W.cell? ⟨w.heap.size, 1, none⟩ = some (.slice Ar r.1.2.length cr) ∧ W.cell? ⟨w.heap.size, 2, none⟩ = some (.slice Br r.2.length dr) ∧ Hid (Chg [] W0 W))
    ((refine KL.out _ ?_; (first | exact HC2.out | exact HC1.out | exact HCr.out | exact HC0.out | exact HC2.out.drew1 | exact HC1.out.drew1 | exact HCr.out.drew1 | exact HC0.out.drew1 | exact HC2.out.trans (Chg.of_below (below_al (Below.refl _ _) _)) | exact HC1.out.trans (Chg.of_below (below_al (Below.refl _ _) _)) | exact HCr.out.trans (Chg.of_below (below_al (Below.refl _ _) _)) | exact HC0.out.trans (Chg.of_below (below_al (Below.refl _ _) _)) | fail)))
    (first
      | (go_at_call 58; (have hBB := (‹_ ∧ _ ∧ _ ∧ Hid (Chg [] W0 _)›).2.2.2); (with_reducible refine (implRatZero_any _).mono ?_); rintro e w1 ⟨uz, Sz, rfl, oz, lz, b1⟩; have HC1 := Lib.hid (hBB.out.trans (Chg.of_below b1)); obtain ⟨Az, cz, Bz, dz, rfl⟩ := ownQ_form oz.here; have HBZ1 := Lib.hid hBB.out.size; clear hBB)
      | (go_at_call 12; (have hBB := (‹_ ∧ _ ∧ _ ∧ Hid (Chg [] W0 _)›).2.2.2); (with_reducible refine ((implRatCmp_any _ _ r oneQ _ hzr (by decide) (OQr.out _ (BBF.out _ hBB.out)) (At.here (by first | exact oz | exact At.below oz (below_al (Below.refl _ _) _) | exact At.below (At.below oz (below_al (Below.refl _ _) _)) (below_al (Below.refl _ _) _) | exact At.move oz (fun _ _ => rfl) (Nat.le_refl _))) (HS.out.below (BBF.out _ hBB.out))).mono fun _ _ h => postn_eq EZ.out h).mono ?_); rintro e w2 ⟨rfl, b2⟩; have HC2 := Lib.hid (hBB.out.trans (Chg.of_below b2)); (have oz_2 := At.below (by first | exact oz | exact At.below oz (below_al (Below.refl _ _) _) | exact At.below (At.below oz (below_al (Below.refl _ _) _)) (below_al (Below.refl _ _) _) | exact At.move oz (fun _ _ => rfl) (Nat.le_refl _)) b2); have HBZ2 := Lib.hid hBB.out.size; clear hBB))
  have bb2 := BBF.out _ HC2.out
  replace kr := kr.chg HC2.out (fun i hi hm => by simp at hm)
  have oz := oz_2
  go_wp2
  go_ret
  exact ⟨rfl, bb2⟩
end Go.Proofs.YtclgelopcgahaaaGreatDoor

namespace Go.Proofs.YtclgelopcgahaaaGreatDoor
open Go.RowKit

set_option maxHeartbeats 400000 in
set_option maxRecDepth 100000 in
theorem implNatEven_any (v : Value) (a : List Int) (lo hi : Nat) (w : World) (hl : a.length ≤ 1048576) (hr : Row w lo hi v (intsV a)) :
    Calls Tryz.prog 119 #[v] w fun e w' => e = .returned (.bool (evenB a)) ∧ w = w' := by
  by_cases oa : natOkB a = true
  · have hd := (natOk_parts oa).1
    have hg : a.getD 0 0 = a.headD 0 := by cases a <;> rfl
    have hx : 0 ≤ a.headD 0 ∧ a.headD 0 ≤ 999999999 := by
      cases a with
      | nil => exact ⟨Int.le_refl _, by decide⟩
      | cons x r => exact hd.head
    have HV := Lib.hid (show evenB a = (a.headD 0 % 2 == 0) by unfold evenB; rw [oa, Bool.true_and, Bool.eq_iff_iff, decide_eq_true_eq, beq_iff_eq])
    have hx0 := hx.1
    have hx1 := hx.2
    clear hd hx
    go_enter Tryz.func119, Tryz.ntmps119
    go_wp2_with fail
    refine (implNatOk_same v a lo hi _ (by omega) hr).mono ?_
    rintro e w' ⟨rfl, rfl⟩
    rw [oa]
    go_wp2_with fail
    refine (limbAt_any v a 0 lo hi _ hl hr).mono ?_
    rintro e w' ⟨rfl, rfl⟩
    rw [if_neg (by decide), show (0 : Int).toNat = 0 from rfl, hg]
    generalize a.headD 0 = x at *
    go_wp2
    go_ret
    exact ⟨ret_bool HV.out.symm, rfl⟩
  · have oa' : natOkB a = false := by simpa using oa
    have HV := Lib.hid (show evenB a = false by unfold evenB; rw [oa', Bool.false_and])
    clear oa
    go_enter Tryz.func119, Tryz.ntmps119
    go_wp2_with fail
    refine (implNatOk_same v a lo hi _ (by omega) hr).mono ?_
    rintro e w' ⟨rfl, rfl⟩
    rw [oa']
    go_wp2
    go_ret
    exact ⟨ret_bool HV.out.symm, rfl⟩
end Go.Proofs.YtclgelopcgahaaaGreatDoor

namespace Go.Proofs.YtclgelopcgahaaaGreatDoor
open Go.RowKit

theorem addN_small {X Y : Nat} (h : ((X + Y : Nat) : Int) < bp 50) : addN (limbs X) (limbs Y) = limbs (X + Y) := by
  have hx : (limbs X).length ≤ 50 := limbs_length_le _ 50 (by omega)
  have hy : (limbs Y).length ≤ 50 := limbs_length_le _ 50 (by omega)
  have hs : (limbs (X + Y)).length ≤ 50 := limbs_length_le _ 50 h
  unfold addN
  rw [if_pos ⟨limbs_okL _ hx, limbs_okL _ hy⟩, limbs_val, limbs_val]
  unfold natRes
  rw [show ((X : Int) + (Y : Int)).toNat = X + Y by omega]
  unfold capL
  rw [if_neg (by omega)]
theorem nat_lt50 {X : Nat} (h : (limbs X).length ≤ 19) : ((X + X : Nat) : Int) < bp 50 ∧ ((X + 1 : Nat) : Int) < bp 50 := by
  have h1 := nval_lt (limbs X) (limbs_digN X)
  rw [limbs_val] at h1
  have h2 : bp (limbs X).length ≤ bp 19 := bp_mono h
  have h3 : bp 20 ≤ bp 50 := bp_mono (by omega)
  have h4 : bp 20 = 1000000000 * bp 19 := rfl
  have := bp_pos 19
  omega
theorem cmpN_limbs {X Y : Nat} (hx : (limbs X).length ≤ 50) (hy : (limbs Y).length ≤ 50) : cmpN (limbs X) (limbs Y) = cmpI X Y := by
  unfold cmpN
  rw [if_pos ⟨limbs_okL _ hx, limbs_okL _ hy⟩, limbs_val, limbs_val]
theorem divN_rat {r : QI} (h : okQ r = true) : divN r.1.2 r.2 = (limbs (topN r / denQ r), limbs (topN r % denQ r)) := by
  have p := okQ_parts h
  unfold divN
  rw [if_pos ⟨(okS_parts p.1).1, p.2.1, p.2.2.1⟩, quot_of h, rest_of h]
theorem twoRows_eq {a b c d : List Int} {w w' : World} {e : Ending} (h : TwoRows a b w e w') (h1 : a = c) (h2 : b = d) : TwoRows c d w e w' := by subst h1 h2; exact h
theorem newI_eq {a b : List Int} {w w' : World} {e : Ending} (h : NewInts a w e w') (h1 : a = b) : NewInts b w e w' := by subst h1; exact h
set_option maxHeartbeats 2000000 in
set_option maxRecDepth 100000 in
theorem overHalf_any (Aq Ar Ad : Option Addr) (cq cr cd : Nat) (neg : Bool) (Q R D : Nat) (w : World) (_ : (limbs Q).length ≤ 18) (hrl : (limbs R).length ≤ 18) (hdl : (limbs D).length ≤ 18) (_ : OwnI (.slice Aq (limbs Q).length cq) (limbs Q) w) (or_ : OwnI (.slice Ar (limbs R).length cr) (limbs R) w) (od : OwnI (.slice Ad (limbs D).length cd) (limbs D) w) :
    Calls Tryz.prog 116 #[.agg #[.bool neg, .slice Aq (limbs Q).length cq, .slice Ar (limbs R).length cr, .slice Ad (limbs D).length cd]] w (Postn (cmpI ((R : Int) + R + 0) D) w) := by
  have Hr := Lib.hid (show ∀ W, Below w.heap.size w W → OwnI (.slice Ar (limbs R).length cr) (limbs R) W from fun W hb => OwnI.belowI or_ hb)
  have Hd := Lib.hid (show ∀ W, Below w.heap.size w W → OwnI (.slice Ad (limbs D).length cd) (limbs D) W from fun W hb => OwnI.belowI od hb)
  clear or_ od
  have bb0 : Below w.heap.size w (w.alloc (.cells #[.bool neg, .slice Aq (limbs Q).length cq, .slice Ar (limbs R).length cr, .slice Ad (limbs D).length cd] 73)) := below_al (Below.refl _ _) _
  have ks := (box_new w #[.bool neg, .slice Aq (limbs Q).length cq, .slice Ar (limbs R).length cr, .slice Ad (limbs D).length cd] 73)
  obtain ⟨z, hz⟩ : ∃ z, cmpI ((R : Int) + R + 0) D = z := ⟨_, rfl⟩
  have EA := Lib.hid (addN_small (nat_lt50 (X := R) (by omega)).1)
  have h2l : (limbs (R + R)).length ≤ 50 := limbs_length_le _ 50 (nat_lt50 (X := R) (by omega)).1
  have EZ := Lib.hid (show cmpN (limbs (R + R)) (limbs D) = z by rw [cmpN_limbs h2l (by omega), ← hz, Int.natCast_add, Int.add_zero])
  rw [hz]
  clear hz
  have HCM := Lib.hid (show ∀ (u v : Value) (W : World), OwnI u (limbs (R + R)) W → OwnI v (limbs D) W → Calls Tryz.prog 85 #[u, v] W (Postn z W) from fun u v W h1 h3 => (implNatCmp_any u v (limbs (R + R)) (limbs D) 0 _ 0 _ W (by omega) (by omega) (Nat.le_refl _) (Nat.le_refl _) h1.row h3.row).mono fun _ _ h => postn_eq EZ.out h)
  obtain ⟨W0, hW0⟩ : ∃ W0, W0 = (w.alloc (.cells #[.bool neg, .slice Aq (limbs Q).length cq, .slice Ar (limbs R).length cr, .slice Ad (limbs D).length cd] 73)) := ⟨_, rfl⟩
  rw [← hW0] at bb0 ks
  have HW0 := Lib.hid hW0
  clear hW0
  go_enter Tryz.func116, Tryz.ntmps116
  have ks_c0 := ks.here.cell 0 _ rfl
  have ks_c1 := ks.here.cell 1 _ rfl
  have ks_c2 := ks.here.cell 2 _ rfl
  have ks_c3 := ks.here.cell 3 _ rfl
  go_wp2_with fail
  rw [← HW0.out]
  have HC0 := Lib.hid (show Chg [] W0 W0.drew from (Chg.refl _ _).drew1)
  have HCr := Lib.hid (show Chg [] W0 W0 from Chg.refl _ _)
  have KL := Lib.hid (show ∀ W, Chg [] W0 W → W.cell? ⟨w.heap.size, 0, none⟩ = some (.bool neg) ∧ W.cell? ⟨w.heap.size, 1, none⟩ = some (.slice Aq (limbs Q).length cq) ∧ W.cell? ⟨w.heap.size, 2, none⟩ = some (.slice Ar (limbs R).length cr) ∧ W.cell? ⟨w.heap.size, 3, none⟩ = some (.slice Ad (limbs D).length cd) ∧ Hid (Chg [] W0 W) from fun W hc => ⟨(ks.chg hc (fun i hi hm => by simp at hm)).here.cell 0 _ rfl, (ks.chg hc (fun i hi hm => by simp at hm)).here.cell 1 _ rfl, (ks.chg hc (fun i hi hm => by simp at hm)).here.cell 2 _ rfl, (ks.chg hc (fun i hi hm => by simp at hm)).here.cell 3 _ rfl, Lib.hid hc⟩)
  have BBF := Lib.hid (show ∀ W, Chg [] W0 W → Below w.heap.size w W from fun W hc => below_chg bb0 hc bb0.size (fun i hi => by simp at hi))
  clear ks_c0 ks_c1 ks_c2 ks_c3
  go_region_held3 (fun W => W.cell? ⟨w.heap.size, 0, none⟩ = some (.bool neg) ∧ W.cell? ⟨w.heap.size, 1, none⟩ = some (.slice Aq (limbs Q).length cq) ∧ W.cell? ⟨w.heap.size, 2, none⟩ = some (.slice Ar (limbs R).length cr) ∧ W.cell? ⟨w.heap.size, 3, none⟩ = some (.slice Ad (limbs D).length cd) ∧ Hid (Chg [] W0 W))
    ((refine KL.out _ ?_; (first | exact HC2.out | exact HC1.out | exact HCr.out | exact HC0.out | exact HC2.out.drew1 | exact HC1.out.drew1 | exact HCr.out.drew1 | exact HC0.out.drew1 | exact HC2.out.trans (Chg.of_below (below_al (Below.refl _ _) _)) | exact HC1.out.trans (Chg.of_below (below_al (Below.refl _ _) _)) | exact HCr.out.trans (Chg.of_below (below_al (Below.refl _ _) _)) | exact HC0.out.trans (Chg.of_below (below_al (Below.refl _ _) _)) | fail)))
    (first
      | (go_at_call 42; (have hBB := (‹_ ∧ _ ∧ _ ∧ _ ∧ Hid (Chg [] W0 _)›).2.2.2.2); (with_reducible refine ((implNatAdd_any _ _ (limbs R) (limbs R) 0 _ 0 _ _ (by omega) (by omega) (Nat.le_refl _) (Nat.le_refl _) (OwnI.row (Hr.out _ (BBF.out _ hBB.out))) (OwnI.row (Hr.out _ (BBF.out _ hBB.out)))).mono fun _ _ h => (newI_eq h EA.out).newV).mono ?_); rintro e w1 ⟨ua, Sa, rfl, oa, la, b1⟩; have HC1 := Lib.hid (hBB.out.trans (Chg.of_below b1)); obtain ⟨Ea, ea, rfl⟩ := own_len oa.here; have HBZ1 := Lib.hid hBB.out.size; clear hBB)
      | (go_at_call 85; (have hBB := (‹_ ∧ _ ∧ _ ∧ _ ∧ Hid (Chg [] W0 _)›).2.2.2.2); (with_reducible refine (HCM.out _ _ _ (At.here (by first | exact oa | exact At.below oa (below_al (Below.refl _ _) _) | exact At.below (At.below oa (below_al (Below.refl _ _) _)) (below_al (Below.refl _ _) _) | exact At.move oa (fun _ _ => rfl) (Nat.le_refl _))) (Hd.out _ (BBF.out _ hBB.out))).mono ?_); rintro e w2 ⟨rfl, b2⟩; have HC2 := Lib.hid (hBB.out.trans (Chg.of_below b2)); (have oa_2 := At.below (by first | exact oa | exact At.below oa (below_al (Below.refl _ _) _) | exact At.below (At.below oa (below_al (Below.refl _ _) _)) (below_al (Below.refl _ _) _) | exact At.move oa (fun _ _ => rfl) (Nat.le_refl _)) b2); have HBZ2 := Lib.hid hBB.out.size; clear hBB))
  have bb2 := BBF.out _ HC2.out
  replace ks := ks.chg HC2.out (fun i hi hm => by simp at hm)
  have oa := oa_2
  go_wp2
  go_ret
  exact ⟨rfl, bb2⟩
set_option maxHeartbeats 1000000 in
set_option maxRecDepth 100000 in
theorem farther_0 (Aq Ar Ad : Option Addr) (cq cr cd : Nat) (neg : Bool) (Q R D : Nat) (w : World) (_ : (limbs Q).length ≤ 18) (_ : (limbs R).length ≤ 18) (_ : (limbs D).length ≤ 18) (_ : OwnI (.slice Aq (limbs Q).length cq) (limbs Q) w) (_ : OwnI (.slice Ar (limbs R).length cr) (limbs R) w) (_ : OwnI (.slice Ad (limbs D).length cd) (limbs D) w) :
    Calls Tryz.prog 111 #[.agg #[.bool neg, .slice Aq (limbs Q).length cq, .slice Ar (limbs R).length cr, .slice Ad (limbs D).length cd]] w (Postb (awayB neg Q R D 0) w) := by
  have bb0 : Below w.heap.size w (w.alloc (.cells #[.bool neg, .slice Aq (limbs Q).length cq, .slice Ar (limbs R).length cr, .slice Ad (limbs D).length cd] 73)) := below_al (Below.refl _ _) _
  have ks := (box_new w #[.bool neg, .slice Aq (limbs Q).length cq, .slice Ar (limbs R).length cr, .slice Ad (limbs D).length cd] 73)
  go_enter Tryz.func111, Tryz.ntmps111
  go_wp2
  go_ret
  exact ⟨ret_bool (rfl), bb0⟩
set_option maxHeartbeats 1000000 in
set_option maxRecDepth 100000 in
theorem farther_1 (Aq Ar Ad : Option Addr) (cq cr cd : Nat) (neg : Bool) (Q R D : Nat) (w : World) (_ : (limbs Q).length ≤ 18) (_ : (limbs R).length ≤ 18) (_ : (limbs D).length ≤ 18) (_ : OwnI (.slice Aq (limbs Q).length cq) (limbs Q) w) (_ : OwnI (.slice Ar (limbs R).length cr) (limbs R) w) (_ : OwnI (.slice Ad (limbs D).length cd) (limbs D) w) :
    Calls Tryz.prog 112 #[.agg #[.bool neg, .slice Aq (limbs Q).length cq, .slice Ar (limbs R).length cr, .slice Ad (limbs D).length cd]] w (Postb (awayB neg Q R D 1) w) := by
  have bb0 : Below w.heap.size w (w.alloc (.cells #[.bool neg, .slice Aq (limbs Q).length cq, .slice Ar (limbs R).length cr, .slice Ad (limbs D).length cd] 73)) := below_al (Below.refl _ _) _
  have ks := (box_new w #[.bool neg, .slice Aq (limbs Q).length cq, .slice Ar (limbs R).length cr, .slice Ad (limbs D).length cd] 73)
  go_enter Tryz.func112, Tryz.ntmps112
  go_wp2
  go_ret
  exact ⟨ret_bool (rfl), bb0⟩
set_option maxHeartbeats 1000000 in
set_option maxRecDepth 100000 in
theorem farther_2 (Aq Ar Ad : Option Addr) (cq cr cd : Nat) (neg : Bool) (Q R D : Nat) (w : World) (_ : (limbs Q).length ≤ 18) (_ : (limbs R).length ≤ 18) (_ : (limbs D).length ≤ 18) (_ : OwnI (.slice Aq (limbs Q).length cq) (limbs Q) w) (_ : OwnI (.slice Ar (limbs R).length cr) (limbs R) w) (_ : OwnI (.slice Ad (limbs D).length cd) (limbs D) w) :
    Calls Tryz.prog 113 #[.agg #[.bool neg, .slice Aq (limbs Q).length cq, .slice Ar (limbs R).length cr, .slice Ad (limbs D).length cd]] w (Postb (awayB neg Q R D 2) w) := by
  have bb0 : Below w.heap.size w (w.alloc (.cells #[.bool neg, .slice Aq (limbs Q).length cq, .slice Ar (limbs R).length cr, .slice Ad (limbs D).length cd] 73)) := below_al (Below.refl _ _) _
  have ks := (box_new w #[.bool neg, .slice Aq (limbs Q).length cq, .slice Ar (limbs R).length cr, .slice Ad (limbs D).length cd] 73)
  go_enter Tryz.func113, Tryz.ntmps113
  have ks_c0 := ks.here.cell 0 _ rfl
  have ks_c1 := ks.here.cell 1 _ rfl
  have ks_c2 := ks.here.cell 2 _ rfl
  have ks_c3 := ks.here.cell 3 _ rfl
  go_wp2
  go_ret
  exact ⟨ret_bool (rfl), bb0⟩
set_option maxHeartbeats 1000000 in
set_option maxRecDepth 100000 in
theorem farther_3 (Aq Ar Ad : Option Addr) (cq cr cd : Nat) (neg : Bool) (Q R D : Nat) (w : World) (_ : (limbs Q).length ≤ 18) (_ : (limbs R).length ≤ 18) (_ : (limbs D).length ≤ 18) (_ : OwnI (.slice Aq (limbs Q).length cq) (limbs Q) w) (_ : OwnI (.slice Ar (limbs R).length cr) (limbs R) w) (_ : OwnI (.slice Ad (limbs D).length cd) (limbs D) w) :
    Calls Tryz.prog 114 #[.agg #[.bool neg, .slice Aq (limbs Q).length cq, .slice Ar (limbs R).length cr, .slice Ad (limbs D).length cd]] w (Postb (awayB neg Q R D 3) w) := by
  have bb0 : Below w.heap.size w (w.alloc (.cells #[.bool neg, .slice Aq (limbs Q).length cq, .slice Ar (limbs R).length cr, .slice Ad (limbs D).length cd] 73)) := below_al (Below.refl _ _) _
  have ks := (box_new w #[.bool neg, .slice Aq (limbs Q).length cq, .slice Ar (limbs R).length cr, .slice Ad (limbs D).length cd] 73)
  go_enter Tryz.func114, Tryz.ntmps114
  have ks_c0 := ks.here.cell 0 _ rfl
  have ks_c1 := ks.here.cell 1 _ rfl
  have ks_c2 := ks.here.cell 2 _ rfl
  have ks_c3 := ks.here.cell 3 _ rfl
  go_wp2
  go_ret
  exact ⟨ret_bool (rfl), bb0⟩
set_option maxHeartbeats 1000000 in
set_option maxRecDepth 100000 in
theorem farther_4 (Aq Ar Ad : Option Addr) (cq cr cd : Nat) (neg : Bool) (Q R D : Nat) (w : World) (hql : (limbs Q).length ≤ 18) (hrl : (limbs R).length ≤ 18) (hdl : (limbs D).length ≤ 18) (oq : OwnI (.slice Aq (limbs Q).length cq) (limbs Q) w) (or_ : OwnI (.slice Ar (limbs R).length cr) (limbs R) w) (od : OwnI (.slice Ad (limbs D).length cd) (limbs D) w) :
    Calls Tryz.prog 115 #[.agg #[.bool neg, .slice Aq (limbs Q).length cq, .slice Ar (limbs R).length cr, .slice Ad (limbs D).length cd]] w (Postb (awayB neg Q R D 4) w) := by
  obtain ⟨c, hc⟩ : ∃ c, cmpI ((R : Int) + R + 0) D = c := ⟨_, rfl⟩
  have HC := Lib.hid hc
  have HA := Lib.hid (away_cmp neg Q R D hc)
  have h3 : c = -1 ∨ c = 0 ∨ c = 1 := by rw [← hc]; exact cmp_three _ _
  have Hq := Lib.hid (show ∀ W, Below w.heap.size w W → OwnI (.slice Aq (limbs Q).length cq) (limbs Q) W from fun W hb => OwnI.belowI oq hb)
  have Hr := Lib.hid (show ∀ W, Below w.heap.size w W → OwnI (.slice Ar (limbs R).length cr) (limbs R) W from fun W hb => OwnI.belowI or_ hb)
  have Hd := Lib.hid (show ∀ W, Below w.heap.size w W → OwnI (.slice Ad (limbs D).length cd) (limbs D) W from fun W hb => OwnI.belowI od hb)
  clear hc oq or_ od
  have bb0 : Below w.heap.size w (w.alloc (.cells #[.bool neg, .slice Aq (limbs Q).length cq, .slice Ar (limbs R).length cr, .slice Ad (limbs D).length cd] 73)) := below_al (Below.refl _ _) _
  have ks := (box_new w #[.bool neg, .slice Aq (limbs Q).length cq, .slice Ar (limbs R).length cr, .slice Ad (limbs D).length cd] 73)
  go_enter Tryz.func115, Tryz.ntmps115
  have ks_c0 := ks.here.cell 0 _ rfl
  have ks_c1 := ks.here.cell 1 _ rfl
  have ks_c2 := ks.here.cell 2 _ rfl
  have ks_c3 := ks.here.cell 3 _ rfl
  go_wp2_with fail
  clear ks_c0 ks_c1 ks_c2 ks_c3
  refine ((overHalf_any Aq Ar Ad cq cr cd neg Q R D _ hql hrl hdl (Hq.out _ bb0) (Hr.out _ bb0) (Hd.out _ bb0)).mono fun _ _ h => postn_eq HC.out h).mono ?_
  rintro e w1 ⟨rfl, b1⟩
  have bb1 := Below.next bb0 b1
  replace ks := ks.below b1
  clear h3 ks
  go_wp2
  go_ret
  exact ⟨ret_bool (HA.out.1.symm), bb1⟩
set_option maxHeartbeats 1000000 in
set_option maxRecDepth 100000 in
theorem farther_5 (Aq Ar Ad : Option Addr) (cq cr cd : Nat) (neg : Bool) (Q R D : Nat) (w : World) (hql : (limbs Q).length ≤ 18) (hrl : (limbs R).length ≤ 18) (hdl : (limbs D).length ≤ 18) (oq : OwnI (.slice Aq (limbs Q).length cq) (limbs Q) w) (or_ : OwnI (.slice Ar (limbs R).length cr) (limbs R) w) (od : OwnI (.slice Ad (limbs D).length cd) (limbs D) w) :
    Calls Tryz.prog 117 #[.agg #[.bool neg, .slice Aq (limbs Q).length cq, .slice Ar (limbs R).length cr, .slice Ad (limbs D).length cd]] w (Postb (awayB neg Q R D 5) w) := by
  obtain ⟨c, hc⟩ : ∃ c, cmpI ((R : Int) + R + 0) D = c := ⟨_, rfl⟩
  have HC := Lib.hid hc
  have HA := Lib.hid (away_cmp neg Q R D hc)
  have h3 : c = -1 ∨ c = 0 ∨ c = 1 := by rw [← hc]; exact cmp_three _ _
  have Hq := Lib.hid (show ∀ W, Below w.heap.size w W → OwnI (.slice Aq (limbs Q).length cq) (limbs Q) W from fun W hb => OwnI.belowI oq hb)
  have Hr := Lib.hid (show ∀ W, Below w.heap.size w W → OwnI (.slice Ar (limbs R).length cr) (limbs R) W from fun W hb => OwnI.belowI or_ hb)
  have Hd := Lib.hid (show ∀ W, Below w.heap.size w W → OwnI (.slice Ad (limbs D).length cd) (limbs D) W from fun W hb => OwnI.belowI od hb)
  clear hc oq or_ od
  have bb0 : Below w.heap.size w (w.alloc (.cells #[.bool neg, .slice Aq (limbs Q).length cq, .slice Ar (limbs R).length cr, .slice Ad (limbs D).length cd] 73)) := below_al (Below.refl _ _) _
  have ks := (box_new w #[.bool neg, .slice Aq (limbs Q).length cq, .slice Ar (limbs R).length cr, .slice Ad (limbs D).length cd] 73)
  go_enter Tryz.func117, Tryz.ntmps117
  have ks_c0 := ks.here.cell 0 _ rfl
  have ks_c1 := ks.here.cell 1 _ rfl
  have ks_c2 := ks.here.cell 2 _ rfl
  have ks_c3 := ks.here.cell 3 _ rfl
  go_wp2_with fail
  clear ks_c0 ks_c1 ks_c2 ks_c3
  refine ((overHalf_any Aq Ar Ad cq cr cd neg Q R D _ hql hrl hdl (Hq.out _ bb0) (Hr.out _ bb0) (Hd.out _ bb0)).mono fun _ _ h => postn_eq HC.out h).mono ?_
  rintro e w1 ⟨rfl, b1⟩
  have bb1 := Below.next bb0 b1
  replace ks := ks.below b1
  clear h3 ks
  go_wp2
  go_ret
  exact ⟨ret_bool (HA.out.2.1.symm), bb1⟩
set_option maxHeartbeats 1000000 in
set_option maxRecDepth 100000 in
theorem farther_6 (Aq Ar Ad : Option Addr) (cq cr cd : Nat) (neg : Bool) (Q R D : Nat) (w : World) (hql : (limbs Q).length ≤ 18) (hrl : (limbs R).length ≤ 18) (hdl : (limbs D).length ≤ 18) (oq : OwnI (.slice Aq (limbs Q).length cq) (limbs Q) w) (or_ : OwnI (.slice Ar (limbs R).length cr) (limbs R) w) (od : OwnI (.slice Ad (limbs D).length cd) (limbs D) w) :
    Calls Tryz.prog 118 #[.agg #[.bool neg, .slice Aq (limbs Q).length cq, .slice Ar (limbs R).length cr, .slice Ad (limbs D).length cd]] w (Postb (awayB neg Q R D 6) w) := by
  obtain ⟨c, hc⟩ : ∃ c, cmpI ((R : Int) + R + 0) D = c := ⟨_, rfl⟩
  have HC := Lib.hid hc
  have HA := Lib.hid (away_cmp neg Q R D hc)
  have h3 : c = -1 ∨ c = 0 ∨ c = 1 := by rw [← hc]; exact cmp_three _ _
  have Hq := Lib.hid (show ∀ W, Below w.heap.size w W → OwnI (.slice Aq (limbs Q).length cq) (limbs Q) W from fun W hb => OwnI.belowI oq hb)
  have Hr := Lib.hid (show ∀ W, Below w.heap.size w W → OwnI (.slice Ar (limbs R).length cr) (limbs R) W from fun W hb => OwnI.belowI or_ hb)
  have Hd := Lib.hid (show ∀ W, Below w.heap.size w W → OwnI (.slice Ad (limbs D).length cd) (limbs D) W from fun W hb => OwnI.belowI od hb)
  clear hc oq or_ od
  have bb0 : Below w.heap.size w (w.alloc (.cells #[.bool neg, .slice Aq (limbs Q).length cq, .slice Ar (limbs R).length cr, .slice Ad (limbs D).length cd] 73)) := below_al (Below.refl _ _) _
  have ks := (box_new w #[.bool neg, .slice Aq (limbs Q).length cq, .slice Ar (limbs R).length cr, .slice Ad (limbs D).length cd] 73)
  go_enter Tryz.func118, Tryz.ntmps118
  have ks_c0 := ks.here.cell 0 _ rfl
  have ks_c1 := ks.here.cell 1 _ rfl
  have ks_c2 := ks.here.cell 2 _ rfl
  have ks_c3 := ks.here.cell 3 _ rfl
  go_wp2_with fail
  clear ks_c0 ks_c1 ks_c2 ks_c3
  refine ((overHalf_any Aq Ar Ad cq cr cd neg Q R D _ hql hrl hdl (Hq.out _ bb0) (Hr.out _ bb0) (Hd.out _ bb0)).mono fun _ _ h => postn_eq HC.out h).mono ?_
  rintro e w1 ⟨rfl, b1⟩
  have bb1 := Below.next bb0 b1
  replace ks := ks.below b1
  rcases h3 with rfl | rfl | rfl
  · skip
    have ks_c0 := ks.here.cell 0 _ rfl
    have ks_c1 := ks.here.cell 1 _ rfl
    have ks_c2 := ks.here.cell 2 _ rfl
    have ks_c3 := ks.here.cell 3 _ rfl
    go_wp2_with fail
    clear ks_c0 ks_c1 ks_c2 ks_c3
    refine ((overHalf_any Aq Ar Ad cq cr cd neg Q R D _ hql hrl hdl (Hq.out _ bb1) (Hr.out _ bb1) (Hd.out _ bb1)).mono fun _ _ h => postn_eq HC.out h).mono ?_
    rintro e w2 ⟨rfl, b2⟩
    have bb2 := Below.next bb1 b2
    replace ks := ks.below b2
    clear ks
    go_wp2
    go_ret
    exact ⟨ret_bool ((HA.out.2.2.trans (by simp)).symm), bb2⟩
  · have he : decide (Q % 2 = 1) = !decide (Q % 2 = 0) := by rcases Nat.mod_two_eq_zero_or_one Q with h | h <;> rw [h] <;> rfl
    have HV := Lib.hid (show awayB neg Q R D 6 = !decide (Q % 2 = 0) by rw [HA.out.2.2, he]; rfl)
    clear he HA
    have ks_c0 := ks.here.cell 0 _ rfl
    have ks_c1 := ks.here.cell 1 _ rfl
    have ks_c2 := ks.here.cell 2 _ rfl
    have ks_c3 := ks.here.cell 3 _ rfl
    go_wp2_with fail
    clear ks_c0 ks_c1 ks_c2 ks_c3
    refine ((overHalf_any Aq Ar Ad cq cr cd neg Q R D _ hql hrl hdl (Hq.out _ bb1) (Hr.out _ bb1) (Hd.out _ bb1)).mono fun _ _ h => postn_eq HC.out h).mono ?_
    rintro e w2 ⟨rfl, b2⟩
    have bb2 := Below.next bb1 b2
    replace ks := ks.below b2
    have ks_c0 := ks.here.cell 0 _ rfl
    have ks_c1 := ks.here.cell 1 _ rfl
    have ks_c2 := ks.here.cell 2 _ rfl
    have ks_c3 := ks.here.cell 3 _ rfl
    go_wp2_with fail
    clear ks_c0 ks_c1 ks_c2 ks_c3
    refine (implNatEven_any _ (limbs Q) 0 _ _ (by omega) (OwnI.row (Hq.out _ bb2))).mono ?_
    rintro e w_ ⟨rfl, rfl⟩
    rw [even_limbs (by omega)]
    generalize decide (Q % 2 = 0) = b at *
    clear ks
    cases b
    · skip
      go_wp2
      go_ret
      exact ⟨ret_bool (HV.out.symm), bb2⟩
    · skip
      go_wp2
      go_ret
      exact ⟨ret_bool (HV.out.symm), bb2⟩
  · skip
    clear ks
    go_wp2
    go_ret
    exact ⟨ret_bool ((HA.out.2.2.trans (by simp)).symm), bb1⟩
theorem farther_any (Aq Ar Ad : Option Addr) (cq cr cd : Nat) (neg : Bool) (Q R D : Nat) (w : World) (hql : (limbs Q).length ≤ 18) (hrl : (limbs R).length ≤ 18) (hdl : (limbs D).length ≤ 18) (oq : OwnI (.slice Aq (limbs Q).length cq) (limbs Q) w) (or_ : OwnI (.slice Ar (limbs R).length cr) (limbs R) w) (od : OwnI (.slice Ad (limbs D).length cd) (limbs D) w) (m : Int) (hm : modeB m = true) :
    Calls Tryz.prog (fnOf m) #[.agg #[.bool neg, .slice Aq (limbs Q).length cq, .slice Ar (limbs R).length cr, .slice Ad (limbs D).length cd]] w (Postb (awayB neg Q R D m) w) := by
  rcases modeB_cases hm with rfl | rfl | rfl | rfl | rfl | rfl | rfl
  · exact farther_0 Aq Ar Ad cq cr cd neg Q R D w hql hrl hdl oq or_ od
  · exact farther_1 Aq Ar Ad cq cr cd neg Q R D w hql hrl hdl oq or_ od
  · exact farther_2 Aq Ar Ad cq cr cd neg Q R D w hql hrl hdl oq or_ od
  · exact farther_3 Aq Ar Ad cq cr cd neg Q R D w hql hrl hdl oq or_ od
  · exact farther_4 Aq Ar Ad cq cr cd neg Q R D w hql hrl hdl oq or_ od
  · exact farther_5 Aq Ar Ad cq cr cd neg Q R D w hql hrl hdl oq or_ od
  · exact farther_6 Aq Ar Ad cq cr cd neg Q R D w hql hrl hdl oq or_ od
theorem fnOf_enters {m : Int} (hm : modeB m = true) : Enters Tryz.prog (fnOf m) := by
  rcases modeB_cases hm with rfl | rfl | rfl | rfl | rfl | rfl | rfl
  · exact (enters_of Tryz.func111 (by kernel_rfl) rfl : Enters Tryz.prog 111)
  · exact (enters_of Tryz.func112 (by kernel_rfl) rfl : Enters Tryz.prog 112)
  · exact (enters_of Tryz.func113 (by kernel_rfl) rfl : Enters Tryz.prog 113)
  · exact (enters_of Tryz.func114 (by kernel_rfl) rfl : Enters Tryz.prog 114)
  · exact (enters_of Tryz.func115 (by kernel_rfl) rfl : Enters Tryz.prog 115)
  · exact (enters_of Tryz.func117 (by kernel_rfl) rfl : Enters Tryz.prog 117)
  · exact (enters_of Tryz.func118 (by kernel_rfl) rfl : Enters Tryz.prog 118)
set_option maxHeartbeats 4000000 in
set_option maxRecDepth 100000 in
theorem implRatRound_any (vr : Value) (r : QI) (m : Int) (w : World) (hz : szQ r ≤ 1048576) (hr : OwnQ vr r w) (hsen : Sen w) :
    Calls Tryz.prog 8 #[vr, .int .i64 m] w (PostSb (roundR r m).1 (roundR r m).2 w) := by
  have HS := Lib.hid hsen
  clear hsen
  have Hr := Lib.hid hr
  obtain ⟨Ar, cr, Br, dr, rfl⟩ := ownQ_form hr
  have OQr := Lib.hid (show ∀ W, Below w.heap.size w W → OwnQ (.agg #[.bool r.1.1, .slice Ar r.1.2.length cr, .slice Br r.2.length dr]) r W from fun W hb => OwnQ.below Hr.out hb)
  have OUr := Lib.hid (show ∀ W, Below w.heap.size w W → OwnI (.slice Ar r.1.2.length cr) r.1.2 W from fun W hb => (ownQ_open (OQr.out W hb)).2.1)
  have ODr := Lib.hid (show ∀ W, Below w.heap.size w W → OwnI (.slice Br r.2.length dr) r.2 W from fun W hb => (ownQ_open (OQr.out W hb)).2.2.1)
  have OSr := Lib.hid (show ∀ W, Below w.heap.size w W → OwnS (.agg #[.bool r.1.1, .slice Ar r.1.2.length cr]) r.1 W from fun W hb => OwnS.mk (OUr.out W hb))
  clear hr
  have bb0 : Below w.heap.size w ((w.alloc (.cells #[.bool r.1.1, .slice Ar r.1.2.length cr, .slice Br r.2.length dr] 27)).alloc (.cells #[.bool false, .slice none 0 0] 25)) := below_al (below_al (Below.refl _ _) _) _
  have kr := (box_new w #[.bool r.1.1, .slice Ar r.1.2.length cr, .slice Br r.2.length dr] 27).below (below_al (Below.refl _ _) (.cells #[.bool false, .slice none 0 0] 25))
  have ko := (box_new (w.alloc (.cells #[.bool r.1.1, .slice Ar r.1.2.length cr, .slice Br r.2.length dr] 27)) #[.bool false, .slice none 0 0] 25)
  rw [show (w.alloc (.cells #[.bool r.1.1, .slice Ar r.1.2.length cr, .slice Br r.2.length dr] 27)).heap.size = w.heap.size + 1 by simp] at ko
  have HKO := Lib.hid (ko.lt (w.heap.size + 1) (by simp))
  by_cases hm : modeB m = true
  · have HM := Lib.hid hm
    have HF := Lib.hid (fun (Aq Ar Ad : Option Addr) (cq cr cd : Nat) (neg : Bool) (Q R D : Nat) (w : World) hql hrl hdl oq or_ od => farther_any Aq Ar Ad cq cr cd neg Q R D w hql hrl hdl oq or_ od m hm)
    have HRO := Lib.hid (roundingOf_mode m hm)
    have he := fnOf_enters hm
    unfold Enters at he
    clear hm
    generalize nameB m = nm at HRO
    generalize fnOf m = fk at HRO HF he
    go_enter Tryz.func8, Tryz.ntmps8
    go_wp2_with fail
    refine (HRO.out _).mono ?_
    rintro e w1 ⟨rfl, b1⟩
    have bb1 := Below.next bb0 b1
    replace kr := kr.below b1
    replace ko := ko.below b1
    have km := box_new (w1) #[.string nm, .func (.func fk) #[] #[]] 67
    have alm := below_al (Below.refl (w1).heap.size (w1)) (.cells #[.string nm, .func (.func fk) #[] #[]] 67)
    have bbm := Below.next bb1 alm
    replace kr := kr.below alm
    replace ko := ko.below alm
    have kr_c0 := kr.here.cell 0 _ rfl
    have kr_c1 := kr.here.cell 1 _ rfl
    have kr_c2 := kr.here.cell 2 _ rfl
    go_wp2_with fail
    clear kr_c0 kr_c1 kr_c2
    refine (implRatOk_any _ r _ hz (OQr.out _ bbm) (HS.out.below bbm)).mono ?_
    rintro e w2 ⟨rfl, b2⟩
    have bb2 := Below.next bbm b2
    replace kr := kr.below b2
    replace ko := ko.below b2
    replace km := km.below b2
    by_cases ok : okQ r = true
    · rw [ok]
      have HO := Lib.hid ok
      have HP := Lib.hid (parts_of ok)
      have HV0 := Lib.hid (show roundR r m = (roundS r m, true) by unfold roundR; rw [if_pos ⟨ok, HM.out⟩])
      clear ok
      obtain ⟨Q, hQ⟩ : ∃ Q, topN r / denQ r = Q := ⟨_, rfl⟩
      obtain ⟨R, hR⟩ : ∃ R, topN r % denQ r = R := ⟨_, rfl⟩
      have EQ := Lib.hid hQ
      have ER := Lib.hid hR
      have hql : (limbs Q).length ≤ 18 := by rw [← hQ]; exact quot_len HO.out
      have hrl : (limbs R).length ≤ 18 := by rw [← hR]; exact rest_len HO.out
      have hnl := HP.out.n50
      have hdl := HP.out.d50
      have E1 := Lib.hid (show (divN r.1.2 r.2).1 = limbs Q by rw [divN_rat HO.out, hQ])
      have E2 := Lib.hid (show (divN r.1.2 r.2).2 = limbs R by rw [divN_rat HO.out, hR])
      clear hQ hR
      have kr_c0 := kr.here.cell 0 _ rfl
      have kr_c1 := kr.here.cell 1 _ rfl
      have kr_c2 := kr.here.cell 2 _ rfl
      go_wp2_with fail
      clear kr_c0 kr_c1 kr_c2
      refine ((implNatDiv_any _ _ r.1.2 r.2 0 _ 0 _ _ (by omega) (by omega) (Nat.le_refl _) (Nat.le_refl _) (OUr.out _ bb2).row (ODr.out _ bb2).row (HS.out.below bb2)).mono fun _ _ h => twoRows_eq h E1.out E2.out).mono ?_
      rintro e w3 ⟨vq, vr_, rfl, oq0, or0, hqr, b3⟩
      obtain ⟨Aq, cq, rfl⟩ := own_len oq0
      obtain ⟨As, cs, rfl⟩ := own_len or0
      have oq := own_at' oq0
      have os := own_at' or0
      have lq := own_within oq0
      clear oq0 or0 hqr
      have bb3 := Below.next bb2 b3
      replace kr := kr.below b3
      replace ko := ko.below b3
      replace km := km.below b3
      by_cases h0 : R = 0
      · have HV := Lib.hid (show mkS r.1.1 (limbs Q) = roundS r m by rw [← EQ.out]; exact round_plain (.inl (ER.out.trans h0)))
        subst h0
        rw [show (limbs 0).length = 0 by rw [limbs_zero]; rfl] at *
        clear os
        obtain ⟨sg, hsg⟩ : ∃ sg, (r.1.1 && decide (0 < (limbs Q).length)) = sg := ⟨_, rfl⟩
        have ESG := Lib.hid hsg
        have EM := Lib.hid (show roundS r m = (sg, limbs Q) by rw [← HV.out]; unfold mkS capL; rw [if_neg (by omega), hsg])
        clear hsg
        have kr_c0 := kr.here.cell 0 _ rfl
        have kr_c1 := kr.here.cell 1 _ rfl
        have kr_c2 := kr.here.cell 2 _ rfl
        have kn := box_new (w3) #[.slice Aq (limbs Q).length cq, .bool r.1.1] 79
        have aln := below_al (Below.refl (w3).heap.size (w3)) (.cells #[.slice Aq (limbs Q).length cq, .bool r.1.1] 79)
        have bbn := Below.next bb3 aln
        replace kr := kr.below aln
        replace ko := ko.below aln
        replace km := km.below aln
        replace oq := oq.below aln
        go_wp2_with fail
        clear kr_c0 kr_c1 kr_c2
        refine (signed_same _ _ Aq cq (limbs Q) sg _ (by omega) ESG.out kn.here).mono ?_
        rintro e w4 ⟨rfl, b4⟩
        have bb4 := Below.next bbn b4
        replace kr := kr.below b4
        replace ko := ko.below b4
        replace km := km.below b4
        replace oq := oq.below b4
        replace kn := kn.below b4
        have of := oq.imp (fun _ h => (OwnS.mk h : OwnS (.agg #[.bool (sg, limbs Q).1, .slice Aq (limbs Q).length cq]) (sg, limbs Q) _))
        have lf := within_up lq (Nat.le_refl _) (show _ ≤ w4.heap.size by have := aln.size; have := b4.size; omega)
        have HW := Lib.hid (newSb_at (r := w.heap.size + 1) (b := true) of lf (by have := HKO.out; have := b1.size; have := alm.size; have := b2.size; have := b3.size; omega) (by omega) bb4)
        have cz0 := ko.here.cell 0 _ rfl
        have fz0 := Lib.frozen_of_heap ko.here 0
        have cz1 := ko.here.cell 1 _ rfl
        have fz1 := Lib.frozen_of_heap ko.here 1
        clear of ko kn km
        go_wp2
        refine bodyPost_ret (v := .tuple #[.agg #[.bool sg, .slice Aq _ cq], .bool true]) (by simp [results, Tryz.results8, go_sem, cz0, cz1]; first | exact ⟨rfl, rfl⟩ | rfl) rfl ?_
        rw [HV0.out, EM.out]
        exact HW.out
      · have hlen : ((limbs R).length : Int) > 0 := by have := mt (limbs_zero_iff R).1 h0; omega
        have H0 := Lib.hid h0
        clear h0
        have hdq : (limbs (denQ r)).length ≤ 18 := by have e := HP.out.d; rw [← e]; exact (okQ_parts HO.out).2.2.2.1
        have HLD := Lib.hid (show r.2.length = (limbs (denQ r)).length from congrArg List.length HP.out.d)
        have kr_c0 := kr.here.cell 0 _ rfl
        have kr_c1 := kr.here.cell 1 _ rfl
        have kr_c2 := kr.here.cell 2 _ rfl
        have km_c0 := km.here.cell 0 _ rfl
        have km_c1 := km.here.cell 1 _ rfl
        go_wp2_with fail
        clear kr_c0 kr_c1 kr_c2 km_c0 km_c1
        refine (show Calls _ fk #[.agg #[.bool r.1.1, .slice Aq (limbs Q).length cq, .slice As (limbs R).length cs, .slice Br r.2.length dr]] _ (Postb (awayB r.1.1 Q R (denQ r) m) _) from by rw [HLD.out]; exact HF.out Aq As Br cq cs dr r.1.1 Q R (denQ r) _ hql hrl hdq oq.here os.here (ownI_lim (ODr.out _ bb3) HP.out.d)).mono ?_
        rintro e w4 ⟨rfl, b4⟩
        have bb4 := Below.next bb3 b4
        replace kr := kr.below b4
        replace ko := ko.below b4
        replace km := km.below b4
        replace oq := oq.below b4
        replace os := os.below b4
        by_cases ha : awayB r.1.1 Q R (denQ r) m = true
        · have HV := Lib.hid (show mkS r.1.1 (limbs (Q + 1)) = roundS r m by rw [← EQ.out]; exact round_more (by rw [ER.out]; exact H0.out) (by rw [EQ.out, ER.out]; exact ha))
          rw [ha]
          clear ha
          have EA := Lib.hid (show addN (limbs Q) (limbs 1) = limbs (Q + 1) from addN_small (nat_lt50 (X := Q) (by omega)).2)
          have hq1 : (limbs (Q + 1)).length ≤ 20 := by rw [← one_more]; have h1 := (addL_val (limbs Q) [1] 0 (limbs_digN Q) dig_1 (by omega) (by omega)).2.2; have h2 := trimL_length (addL (limbs Q) [1] 0); simp only [List.length_cons, List.length_nil] at h1; omega
          have kr_c0 := kr.here.cell 0 _ rfl
          have kr_c1 := kr.here.cell 1 _ rfl
          have kr_c2 := kr.here.cell 2 _ rfl
          go_wp2_with fail
          clear kr_c0 kr_c1 kr_c2
          refine (implNatOf_any 1 _ (by decide)).mono ?_
          rintro e w5 ⟨vo, rfl, oo, b5⟩
          rw [show (1 : Int).toNat = 1 from rfl] at oo
          have bb5 := Below.next bb4 b5
          replace kr := kr.below b5
          replace ko := ko.below b5
          replace km := km.below b5
          replace oq := oq.below b5
          replace os := os.below b5
          go_wp2_with fail
          refine ((implNatAdd_any _ _ (limbs Q) (limbs 1) 0 _ _ _ _ (by omega) (by rw [one_limbs]; decide) (Nat.le_refl _) (Nat.le_refl _) oq.here.row (Row.of_own oo)).mono fun _ _ h => newI_eq h EA.out).mono ?_
          rintro e w6 ⟨vz, rfl, oz0, b6⟩
          obtain ⟨Az, cz, rfl⟩ := own_len oz0
          have oz := own_at' oz0
          have lz := own_within oz0
          clear oz0
          have bb6 := Below.next bb5 b6
          replace kr := kr.below b6
          replace ko := ko.below b6
          replace km := km.below b6
          replace oq := oq.below b6
          replace os := os.below b6
          clear oq os
          obtain ⟨sg, hsg⟩ : ∃ sg, (r.1.1 && decide (0 < (limbs (Q + 1)).length)) = sg := ⟨_, rfl⟩
          have ESG := Lib.hid hsg
          have EM := Lib.hid (show roundS r m = (sg, limbs (Q + 1)) by rw [← HV.out]; unfold mkS capL; rw [if_neg (by omega), hsg])
          clear hsg
          have kr_c0 := kr.here.cell 0 _ rfl
          have kr_c1 := kr.here.cell 1 _ rfl
          have kr_c2 := kr.here.cell 2 _ rfl
          have kn := box_new (w6) #[.slice Az (limbs (Q + 1)).length cz, .bool r.1.1] 79
          have aln := below_al (Below.refl (w6).heap.size (w6)) (.cells #[.slice Az (limbs (Q + 1)).length cz, .bool r.1.1] 79)
          have bbn := Below.next bb6 aln
          replace kr := kr.below aln
          replace ko := ko.below aln
          replace km := km.below aln
          replace oz := oz.below aln
          go_wp2_with fail
          clear kr_c0 kr_c1 kr_c2
          refine (signed_same _ _ Az cz (limbs (Q + 1)) sg _ (by omega) ESG.out kn.here).mono ?_
          rintro e w7 ⟨rfl, b7⟩
          have bb7 := Below.next bbn b7
          replace kr := kr.below b7
          replace ko := ko.below b7
          replace km := km.below b7
          replace oz := oz.below b7
          replace kn := kn.below b7
          have of := oz.imp (fun _ h => (OwnS.mk h : OwnS (.agg #[.bool (sg, limbs (Q + 1)).1, .slice Az (limbs (Q + 1)).length cz]) (sg, limbs (Q + 1)) _))
          have lf := within_up lz (Nat.le_refl _) (show _ ≤ w7.heap.size by have := aln.size; have := b7.size; omega)
          have HW := Lib.hid (newSb_at (r := w.heap.size + 1) (b := true) of lf (by have := HKO.out; have := b1.size; have := alm.size; have := b2.size; have := b3.size; have := b4.size; have := b5.size; have := b6.size; omega) (by omega) bb7)
          have cz0 := ko.here.cell 0 _ rfl
          have fz0 := Lib.frozen_of_heap ko.here 0
          have cz1 := ko.here.cell 1 _ rfl
          have fz1 := Lib.frozen_of_heap ko.here 1
          clear of ko kn km
          go_wp2
          refine bodyPost_ret (v := .tuple #[.agg #[.bool sg, .slice Az _ cz], .bool true]) (by simp [results, Tryz.results8, go_sem, cz0, cz1]; first | exact ⟨rfl, rfl⟩ | rfl) rfl ?_
          rw [HV0.out, EM.out]
          exact HW.out
        · have ha' : awayB r.1.1 Q R (denQ r) m = false := by simpa using ha
          have HV := Lib.hid (show mkS r.1.1 (limbs Q) = roundS r m by rw [← EQ.out]; exact round_plain (.inr (by rw [EQ.out, ER.out]; exact ha')))
          rw [ha']
          clear ha ha' os
          obtain ⟨sg, hsg⟩ : ∃ sg, (r.1.1 && decide (0 < (limbs Q).length)) = sg := ⟨_, rfl⟩
          have ESG := Lib.hid hsg
          have EM := Lib.hid (show roundS r m = (sg, limbs Q) by rw [← HV.out]; unfold mkS capL; rw [if_neg (by omega), hsg])
          clear hsg
          have kr_c0 := kr.here.cell 0 _ rfl
          have kr_c1 := kr.here.cell 1 _ rfl
          have kr_c2 := kr.here.cell 2 _ rfl
          have kn := box_new (w4) #[.slice Aq (limbs Q).length cq, .bool r.1.1] 79
          have aln := below_al (Below.refl (w4).heap.size (w4)) (.cells #[.slice Aq (limbs Q).length cq, .bool r.1.1] 79)
          have bbn := Below.next bb4 aln
          replace kr := kr.below aln
          replace ko := ko.below aln
          replace km := km.below aln
          replace oq := oq.below aln
          go_wp2_with fail
          clear kr_c0 kr_c1 kr_c2
          refine (signed_same _ _ Aq cq (limbs Q) sg _ (by omega) ESG.out kn.here).mono ?_
          rintro e w5 ⟨rfl, b5⟩
          have bb5 := Below.next bbn b5
          replace kr := kr.below b5
          replace ko := ko.below b5
          replace km := km.below b5
          replace oq := oq.below b5
          replace kn := kn.below b5
          have of := oq.imp (fun _ h => (OwnS.mk h : OwnS (.agg #[.bool (sg, limbs Q).1, .slice Aq (limbs Q).length cq]) (sg, limbs Q) _))
          have lf := within_up lq (Nat.le_refl _) (show _ ≤ w5.heap.size by have := b4.size; have := aln.size; have := b5.size; omega)
          have HW := Lib.hid (newSb_at (r := w.heap.size + 1) (b := true) of lf (by have := HKO.out; have := b1.size; have := alm.size; have := b2.size; have := b3.size; have := b4.size; omega) (by omega) bb5)
          have cz0 := ko.here.cell 0 _ rfl
          have fz0 := Lib.frozen_of_heap ko.here 0
          have cz1 := ko.here.cell 1 _ rfl
          have fz1 := Lib.frozen_of_heap ko.here 1
          clear of ko kn km
          go_wp2
          refine bodyPost_ret (v := .tuple #[.agg #[.bool sg, .slice Aq _ cq], .bool true]) (by simp [results, Tryz.results8, go_sem, cz0, cz1]; first | exact ⟨rfl, rfl⟩ | rfl) rfl ?_
          rw [HV0.out, EM.out]
          exact HW.out
    · have ok' : okQ r = false := by simpa using ok
      have HV := Lib.hid (show roundR r m = (zeroS, false) by unfold roundR; rw [if_neg (fun h => ok h.1)])
      rw [ok']
      clear ok ok'
      have cz0 := ko.here.cell 0 _ rfl
      have fz0 := Lib.frozen_of_heap ko.here 0
      have cz1 := ko.here.cell 1 _ rfl
      have fz1 := Lib.frozen_of_heap ko.here 1
      go_wp2
      refine bodyPost_ret (v := .tuple #[.agg #[.bool false, .slice none 0 0], .bool false]) (by simp [results, Tryz.results8, go_sem, cz0, cz1]) rfl ?_
      rw [HV.out]
      first | exact newSb_zero _ bb2 | exact newSb_zero _ (below_set2 bb2 (by omega))
  · have HRO := Lib.hid (roundingOf_none m hm)
    have HV := Lib.hid (show roundR r m = (zeroS, false) by unfold roundR; rw [if_neg (fun h => hm h.2)])
    clear hm
    go_enter Tryz.func8, Tryz.ntmps8
    go_wp2_with fail
    refine (HRO.out _).mono ?_
    rintro e w1 ⟨rfl, b1⟩
    have bb1 := Below.next bb0 b1
    replace kr := kr.below b1
    replace ko := ko.below b1
    have km := box_new (w1) #[.string ⟨#[]⟩, .nilFunc] 67
    have alm := below_al (Below.refl (w1).heap.size (w1)) (.cells #[.string ⟨#[]⟩, .nilFunc] 67)
    have bbm := Below.next bb1 alm
    replace kr := kr.below alm
    replace ko := ko.below alm
    have cz0 := ko.here.cell 0 _ rfl
    have fz0 := Lib.frozen_of_heap ko.here 0
    have cz1 := ko.here.cell 1 _ rfl
    have fz1 := Lib.frozen_of_heap ko.here 1
    go_wp2
    refine bodyPost_ret (v := .tuple #[.agg #[.bool false, .slice none 0 0], .bool false]) (by simp [results, Tryz.results8, go_sem, cz0, cz1]) rfl ?_
    rw [HV.out]
    first | exact newSb_zero _ bbm | exact newSb_zero _ (below_set2 bbm (by omega))
end Go.Proofs.YtclgelopcgahaaaGreatDoor
