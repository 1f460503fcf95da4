/-
  Chapter 6 of package impl: RatAdd, RatSub, RatMul and RatDiv.
-/
import Derived.Test.YtkkdlgiilhngcaaDoorRatParts
namespace Go.Proofs.YtkkdlgiilhngcaaDoor
open Go.RowKit

theorem szS_ofZ (z : Int) : szS (ofZ z) ≤ 1048576 := by have := ofZ_len z; unfold szS szI; omega
theorem part_sz_left {r s : QI} (hr : Parts r) (hs : Parts s) : szS (leftS r s) ≤ 1048576 := by rw [(leftS_eq hr hs).1]; exact szS_ofZ _
theorem part_sz_right {r s : QI} (hr : Parts r) (hs : Parts s) : szS (leftS s r) ≤ 1048576 := part_sz_left hs hr
theorem part_sz_numerators {r s : QI} (hr : Parts r) (hs : Parts s) : szS (topS r s) ≤ 1048576 := by rw [(topS_eq hr hs).1]; exact szS_ofZ _
theorem part_sz_denominators {r s : QI} (hr : Parts r) (hs : Parts s) : szS (denS r s) ≤ 1048576 := by
  have h := denS_eq hr hs
  rw [h.1]
  unfold szS szI
  simp only
  have := h.2.2
  omega
theorem part_sz_sum {r s : QI} (_ : Parts r) (_ : Parts s) : szS (addS (leftS r s) (leftS s r)) ≤ 1048576 := by unfold addS; split; exact szS_ofZ _; decide
theorem part_sz_difference {r s : QI} (_ : Parts r) (_ : Parts s) : szS (subS (leftS r s) (leftS s r)) ≤ 1048576 := by unfold subS; split; exact szS_ofZ _; decide
theorem negQ_ok {s : QI} (h : (negQ s).2 = true) : okQ s = true := by
  unfold negQ at h
  split at h
  · rename_i k; exact k
  · cases h
theorem subQ_none {r s : QI} (h : ¬ (okQ r = true ∧ okQ s = true)) : subQ r s = (zeroQ, false) := by
  unfold subQ
  split
  · rename_i k
    have ks := negQ_ok k
    unfold addQ
    rw [if_neg (fun e => h ⟨e.1, ks⟩)]
  · rfl
theorem At.imp_at {u d : Value} {n : Bool} {x : SI} {ys : List Int} {S T : List Nat} {w : World} (h : At (S ++ T) (fun w => OwnS (.agg #[.bool n, u]) x w ∧ OwnI d ys w) w) (hap : ∀ g, u.ownBlock = some g → d.ownBlock = some g → False) : At (S ++ T) (OwnQ (.agg #[.bool x.1, u, d]) (x, ys)) w :=
  h.imp fun _ k => ⟨u, d, rfl, ownS_open k.1, k.2, fun g h1 h2 => hap g h1 h2⟩
set_option maxHeartbeats 2000000 in
set_option maxRecDepth 100000 in
theorem combineRatAdd_any {Ar Br : Option Addr} {cr dr : Nat} {As Bs : Option Addr} {cs ds : Nat} (r s : QI) (w : World) (hzr : szQ r ≤ 1048576) (hzs : szQ s ≤ 1048576) (hsen : Sen w) (hr : OwnQ (.agg #[.bool r.1.1, .slice Ar r.1.2.length cr, .slice Br r.2.length dr]) r w) (hs : OwnQ (.agg #[.bool s.1.1, .slice As s.1.2.length cs, .slice Bs s.2.length ds]) s w) :
    Calls Tryd.prog 64 #[.agg #[.bool r.1.1, .slice Ar r.1.2.length cr, .slice Br r.2.length dr, .bool s.1.1, .slice As s.1.2.length cs, .slice Bs s.2.length ds], .func (.func 65) #[.agg #[.bool r.1.1, .slice Ar r.1.2.length cr, .slice Br r.2.length dr, .bool s.1.1, .slice As s.1.2.length cs, .slice Bs s.2.length ds]] #[], .func (.func 66) #[.agg #[.bool r.1.1, .slice Ar r.1.2.length cr, .slice Br r.2.length dr, .bool s.1.1, .slice As s.1.2.length cs, .slice Bs s.2.length ds]] #[]] w (PostQb (addQ r s).1 (addQ r s).2 w) := by
  have HS := Lib.hid hsen
  clear hsen
  have Hr := Lib.hid hr
  have OQr := Lib.hid (show ∀ W, Below w.heap.size w W → OwnQ (.agg #[.bool r.1.1, .slice Ar r.1.2.length cr, .slice Br r.2.length dr]) r W from fun W hb => OwnQ.below Hr.out hb)
  have OUr := Lib.hid (show ∀ W, Below w.heap.size w W → OwnI (.slice Ar r.1.2.length cr) r.1.2 W from fun W hb => (ownQ_open (OQr.out W hb)).2.1)
  have ODr := Lib.hid (show ∀ W, Below w.heap.size w W → OwnI (.slice Br r.2.length dr) r.2 W from fun W hb => (ownQ_open (OQr.out W hb)).2.2.1)
  have OSr := Lib.hid (show ∀ W, Below w.heap.size w W → OwnS (.agg #[.bool r.1.1, .slice Ar r.1.2.length cr]) r.1 W from fun W hb => OwnS.mk (OUr.out W hb))
  clear hr
  have Hs := Lib.hid hs
  have OQs := Lib.hid (show ∀ W, Below w.heap.size w W → OwnQ (.agg #[.bool s.1.1, .slice As s.1.2.length cs, .slice Bs s.2.length ds]) s W from fun W hb => OwnQ.below Hs.out hb)
  have OUs := Lib.hid (show ∀ W, Below w.heap.size w W → OwnI (.slice As s.1.2.length cs) s.1.2 W from fun W hb => (ownQ_open (OQs.out W hb)).2.1)
  have ODs := Lib.hid (show ∀ W, Below w.heap.size w W → OwnI (.slice Bs s.2.length ds) s.2 W from fun W hb => (ownQ_open (OQs.out W hb)).2.2.1)
  have OSs := Lib.hid (show ∀ W, Below w.heap.size w W → OwnS (.agg #[.bool s.1.1, .slice As s.1.2.length cs]) s.1 W from fun W hb => OwnS.mk (OUs.out W hb))
  clear hs
  have bb0 : Below w.heap.size w ((w.alloc (.cells #[.bool r.1.1, .slice Ar r.1.2.length cr, .slice Br r.2.length dr, .bool s.1.1, .slice As s.1.2.length cs, .slice Bs s.2.length ds] 71)).alloc (.cells #[.bool false, .slice none 0 0, .slice none 0 0] 31)) := below_al (below_al (Below.refl _ _) _) _
  have kp := (box_new w #[.bool r.1.1, .slice Ar r.1.2.length cr, .slice Br r.2.length dr, .bool s.1.1, .slice As s.1.2.length cs, .slice Bs s.2.length ds] 71).below (below_al (Below.refl _ _) (.cells #[.bool false, .slice none 0 0, .slice none 0 0] 31))
  have ko := (box_new (w.alloc (.cells #[.bool r.1.1, .slice Ar r.1.2.length cr, .slice Br r.2.length dr, .bool s.1.1, .slice As s.1.2.length cs, .slice Bs s.2.length ds] 71)) #[.bool false, .slice none 0 0, .slice none 0 0] 31)
  rw [show (w.alloc (.cells #[.bool r.1.1, .slice Ar r.1.2.length cr, .slice Br r.2.length dr, .bool s.1.1, .slice As s.1.2.length cs, .slice Bs s.2.length ds] 71)).heap.size = w.heap.size + 1 by simp] at ko
  have HKO := Lib.hid (ko.lt (w.heap.size + 1) (by simp))
  go_enter Tryd.func64, Tryd.ntmps64
  have kp_c0 := kp.here.cell 0 _ rfl
  have kp_c1 := kp.here.cell 1 _ rfl
  have kp_c2 := kp.here.cell 2 _ rfl
  have kp_c3 := kp.here.cell 3 _ rfl
  have kp_c4 := kp.here.cell 4 _ rfl
  have kp_c5 := kp.here.cell 5 _ rfl
  go_wp2_with fail
  clear kp_c0 kp_c1 kp_c2 kp_c3 kp_c4 kp_c5
  refine (ok_any r s _ hzr hzs (HS.out.below bb0) (OQr.out _ bb0) (OQs.out _ bb0)).mono ?_
  rintro e w1 ⟨rfl, b1⟩
  have bb1 := Below.next bb0 b1
  replace kp := kp.below b1
  replace ko := ko.below b1
  by_cases hok : (okQ r && okQ s) = true
  · rw [hok]
    have hok2 := (Bool.and_eq_true _ _ ▸ hok : okQ r = true ∧ okQ s = true)
    have HPr := Lib.hid (parts_of hok2.1)
    have HPs := Lib.hid (parts_of hok2.2)
    obtain ⟨N, hN⟩ : ∃ N, addS (leftS r s) (leftS s r) = N := ⟨_, rfl⟩
    obtain ⟨D, hD⟩ : ∃ D, denS r s = D := ⟨_, rfl⟩
    obtain ⟨Q, hQ⟩ : ∃ Q, makeQ N D = Q := ⟨_, rfl⟩
    have EN := Lib.hid hN
    have ED := Lib.hid hD
    have EQ := Lib.hid hQ
    have HV := Lib.hid (show addQ r s = Q by rw [← hQ, ← hN, ← hD]; exact (addQ_make HPr.out HPs.out hok2.1 hok2.2).symm)
    have hzN : szS N ≤ 1048576 := by rw [← hN]; exact part_sz_sum HPr.out HPs.out
    have hzD : szS D ≤ 1048576 := by rw [← hD]; exact part_sz_denominators HPr.out HPs.out
    clear hok hok2 hN hD hQ
    go_wp2_with fail
    refine ((sum_any r s _ HPr.out HPs.out (OQr.out _ bb1) (OQs.out _ bb1)).mono fun _ _ h => newVS_eq EN.out h).mono ?_
    rintro e w2 ⟨un, Sn, rfl, on, ln, b2⟩
    obtain ⟨An, cn, rfl⟩ := ownS_form on.here
    have bb2 := Below.next bb1 b2
    replace kp := kp.below b2
    replace ko := ko.below b2
    go_wp2_with fail
    refine ((denominators_any r s _ HPr.out HPs.out (OQr.out _ bb2) (OQs.out _ bb2)).mono fun _ _ h => newVS_eq ED.out h).mono ?_
    rintro e w3 ⟨ud, Sd, rfl, od, ld, b3⟩
    obtain ⟨Ad, cd, rfl⟩ := ownS_form od.here
    have bb3 := Below.next bb2 b3
    replace kp := kp.below b3
    replace ko := ko.below b3
    replace on := on.below b3
    have hz1 := b1.size
    have hz2 := b2.size
    have hz3 := b3.size
    go_wp2_with fail
    refine ((implRatMake_any _ _ N D _ hzN hzD on.here od.here (HS.out.below bb3)).mono fun _ _ h => postQb_eq EQ.out h).mono ?_
    rintro e w4 ⟨uf, Sf, rfl, of, lf, b4⟩
    obtain ⟨Af, cf, Bf, df, rfl⟩ := ownQ_form of.here
    have bb4 := Below.next bb3 b4
    replace kp := kp.below b4
    replace ko := ko.below b4
    replace on := on.below b4
    replace od := od.below b4
    clear on od
    have HW := Lib.hid (newQb_at (r := w.heap.size + 1) (b := Q.2) of lf (by have := HKO.out; omega) (by omega) bb4)
    have cz0 := ko.here.cell 0 _ rfl
    have fz0 := Lib.frozen_of_heap ko.here 0
    have cz1 := ko.here.cell 1 _ rfl
    have fz1 := Lib.frozen_of_heap ko.here 1
    have cz2 := ko.here.cell 2 _ rfl
    have fz2 := Lib.frozen_of_heap ko.here 2
    clear of ko
    go_wp2
    refine bodyPost_ret (v := .tuple #[.agg #[.bool _, .slice Af _ cf, .slice Bf _ df], .bool _]) (by simp [results, Tryd.results64, go_sem, cz0, cz1, cz2]; exact ⟨⟨rfl, rfl, rfl⟩, rfl⟩) rfl ?_
    rw [HV.out]
    exact HW.out
  · have hok' : (okQ r && okQ s) = false := by simpa using hok
    have HV := Lib.hid (show addQ r s = (zeroQ, false) by unfold addQ; rw [if_neg (fun h => hok (by rw [h.1, h.2]; rfl))])
    rw [hok']
    clear hok hok'
    have ko_c0 := ko.here.cell 0 _ rfl
    have ko_c1 := ko.here.cell 1 _ rfl
    have ko_c2 := ko.here.cell 2 _ rfl
    have cz0 := ko.here.cell 0 _ rfl
    have fz0 := Lib.frozen_of_heap ko.here 0
    have cz1 := ko.here.cell 1 _ rfl
    have fz1 := Lib.frozen_of_heap ko.here 1
    have cz2 := ko.here.cell 2 _ rfl
    have fz2 := Lib.frozen_of_heap ko.here 2
    go_wp2
    refine bodyPost_ret (v := .tuple #[.agg #[.bool false, .slice none 0 0, .slice none 0 0], .bool false]) (by simp [results, Tryd.results64, go_sem, cz0, cz1, cz2]) rfl ?_
    rw [HV.out]
    first | exact newQb_zero _ bb1 | exact newQb_zero _ (below_set3 bb1 (by omega))
set_option maxHeartbeats 2000000 in
set_option maxRecDepth 100000 in
theorem implRatAdd_any (vr vs : Value) (r s : QI) (w : World) (hzr : szQ r ≤ 1048576) (hzs : szQ s ≤ 1048576) (hr : OwnQ vr r w) (hs : OwnQ vs s w) (hsen : Sen w) :
    Calls Tryd.prog 28 #[vr, vs] w (PostQb (addQ r s).1 (addQ r s).2 w) := by
  have HS := Lib.hid hsen
  clear hsen
  have Hr := Lib.hid hr
  obtain ⟨Ar, cr, Br, dr, rfl⟩ := ownQ_form hr
  have OQr := Lib.hid (show ∀ W, Below w.heap.size w W → OwnQ (.agg #[.bool r.1.1, .slice Ar r.1.2.length cr, .slice Br r.2.length dr]) r W from fun W hb => OwnQ.below Hr.out hb)
  have OUr := Lib.hid (show ∀ W, Below w.heap.size w W → OwnI (.slice Ar r.1.2.length cr) r.1.2 W from fun W hb => (ownQ_open (OQr.out W hb)).2.1)
  have ODr := Lib.hid (show ∀ W, Below w.heap.size w W → OwnI (.slice Br r.2.length dr) r.2 W from fun W hb => (ownQ_open (OQr.out W hb)).2.2.1)
  have OSr := Lib.hid (show ∀ W, Below w.heap.size w W → OwnS (.agg #[.bool r.1.1, .slice Ar r.1.2.length cr]) r.1 W from fun W hb => OwnS.mk (OUr.out W hb))
  clear hr
  have Hs := Lib.hid hs
  obtain ⟨As, cs, Bs, ds, rfl⟩ := ownQ_form hs
  have OQs := Lib.hid (show ∀ W, Below w.heap.size w W → OwnQ (.agg #[.bool s.1.1, .slice As s.1.2.length cs, .slice Bs s.2.length ds]) s W from fun W hb => OwnQ.below Hs.out hb)
  have OUs := Lib.hid (show ∀ W, Below w.heap.size w W → OwnI (.slice As s.1.2.length cs) s.1.2 W from fun W hb => (ownQ_open (OQs.out W hb)).2.1)
  have ODs := Lib.hid (show ∀ W, Below w.heap.size w W → OwnI (.slice Bs s.2.length ds) s.2 W from fun W hb => (ownQ_open (OQs.out W hb)).2.2.1)
  have OSs := Lib.hid (show ∀ W, Below w.heap.size w W → OwnS (.agg #[.bool s.1.1, .slice As s.1.2.length cs]) s.1 W from fun W hb => OwnS.mk (OUs.out W hb))
  clear hs
  have hmf : ∀ (fn : Fn) (first cap : Array Value) (w : World), (Instr.makeFunc fn first cap).run Tryd.prog w = .ok (.func fn first cap) w := fun _ _ _ _ => rfl
  have bb0 : Below w.heap.size w ((((w.alloc (.cells #[.bool r.1.1, .slice Ar r.1.2.length cr, .slice Br r.2.length dr] 31)).alloc (.cells #[.bool s.1.1, .slice As s.1.2.length cs, .slice Bs s.2.length ds] 31)).alloc (.cells #[.bool false, .slice none 0 0, .slice none 0 0] 31)).alloc (.cells #[.bool r.1.1, .slice Ar r.1.2.length cr, .slice Br r.2.length dr, .bool s.1.1, .slice As s.1.2.length cs, .slice Bs s.2.length ds] 71)) := below_al (below_al (below_al (below_al (Below.refl _ _) _) _) _) _
  have kr := (box_new w #[.bool r.1.1, .slice Ar r.1.2.length cr, .slice Br r.2.length dr] 31).below (below_al (below_al (below_al (Below.refl _ _) (.cells #[.bool s.1.1, .slice As s.1.2.length cs, .slice Bs s.2.length ds] 31)) (.cells #[.bool false, .slice none 0 0, .slice none 0 0] 31)) (.cells #[.bool r.1.1, .slice Ar r.1.2.length cr, .slice Br r.2.length dr, .bool s.1.1, .slice As s.1.2.length cs, .slice Bs s.2.length ds] 71))
  have ks := (box_new (w.alloc (.cells #[.bool r.1.1, .slice Ar r.1.2.length cr, .slice Br r.2.length dr] 31)) #[.bool s.1.1, .slice As s.1.2.length cs, .slice Bs s.2.length ds] 31).below (below_al (below_al (Below.refl _ _) (.cells #[.bool false, .slice none 0 0, .slice none 0 0] 31)) (.cells #[.bool r.1.1, .slice Ar r.1.2.length cr, .slice Br r.2.length dr, .bool s.1.1, .slice As s.1.2.length cs, .slice Bs s.2.length ds] 71))
  rw [show (w.alloc (.cells #[.bool r.1.1, .slice Ar r.1.2.length cr, .slice Br r.2.length dr] 31)).heap.size = w.heap.size + 1 by simp] at ks
  have ko := (box_new ((w.alloc (.cells #[.bool r.1.1, .slice Ar r.1.2.length cr, .slice Br r.2.length dr] 31)).alloc (.cells #[.bool s.1.1, .slice As s.1.2.length cs, .slice Bs s.2.length ds] 31)) #[.bool false, .slice none 0 0, .slice none 0 0] 31).below (below_al (Below.refl _ _) (.cells #[.bool r.1.1, .slice Ar r.1.2.length cr, .slice Br r.2.length dr, .bool s.1.1, .slice As s.1.2.length cs, .slice Bs s.2.length ds] 71))
  rw [show ((w.alloc (.cells #[.bool r.1.1, .slice Ar r.1.2.length cr, .slice Br r.2.length dr] 31)).alloc (.cells #[.bool s.1.1, .slice As s.1.2.length cs, .slice Bs s.2.length ds] 31)).heap.size = w.heap.size + 1 + 1 by simp] at ko
  have kp := (box_new (((w.alloc (.cells #[.bool r.1.1, .slice Ar r.1.2.length cr, .slice Br r.2.length dr] 31)).alloc (.cells #[.bool s.1.1, .slice As s.1.2.length cs, .slice Bs s.2.length ds] 31)).alloc (.cells #[.bool false, .slice none 0 0, .slice none 0 0] 31)) #[.bool r.1.1, .slice Ar r.1.2.length cr, .slice Br r.2.length dr, .bool s.1.1, .slice As s.1.2.length cs, .slice Bs s.2.length ds] 71)
  rw [show (((w.alloc (.cells #[.bool r.1.1, .slice Ar r.1.2.length cr, .slice Br r.2.length dr] 31)).alloc (.cells #[.bool s.1.1, .slice As s.1.2.length cs, .slice Bs s.2.length ds] 31)).alloc (.cells #[.bool false, .slice none 0 0, .slice none 0 0] 31)).heap.size = w.heap.size + 1 + 1 + 1 by simp] at kp
  have HKO := Lib.hid (ko.lt (w.heap.size + 1 + 1) (by simp))
  obtain ⟨Q, hQ⟩ : ∃ Q, addQ r s = Q := ⟨_, rfl⟩
  have EQ := Lib.hid hQ
  rw [hQ]
  clear hQ
  go_enter Tryd.func28, Tryd.ntmps28
  have hz1 := HKO.out
  go_wp2_with fail
  refine ((combineRatAdd_any r s _ hzr hzs (HS.out.below bb0) (OQr.out _ bb0) (OQs.out _ bb0)).mono fun _ _ h => postQb_eq EQ.out h).mono ?_
  rintro e w1 ⟨uf, Sf, rfl, of, lf, b1⟩
  obtain ⟨Af, cf, Bf, df, rfl⟩ := ownQ_form of.here
  have bb1 := Below.next bb0 b1
  replace kr := kr.below b1
  replace ks := ks.below b1
  replace ko := ko.below b1
  replace kp := kp.below b1
  have HW := Lib.hid (newQb_at (r := w.heap.size + 1 + 1) (b := Q.2) of lf HKO.out (by omega) bb1)
  have cz0 := ko.here.cell 0 _ rfl
  have fz0 := Lib.frozen_of_heap ko.here 0
  have cz1 := ko.here.cell 1 _ rfl
  have fz1 := Lib.frozen_of_heap ko.here 1
  have cz2 := ko.here.cell 2 _ rfl
  have fz2 := Lib.frozen_of_heap ko.here 2
  clear of ko kp kr ks
  go_wp2
  refine bodyPost_ret (v := .tuple #[.agg #[.bool _, .slice Af _ cf, .slice Bf _ df], .bool _]) (by simp [results, Tryd.results28, go_sem, cz0, cz1, cz2]; exact ⟨⟨rfl, rfl, rfl⟩, rfl⟩) rfl ?_
  exact HW.out
set_option maxHeartbeats 2000000 in
set_option maxRecDepth 100000 in
theorem combineRatMul_any {Ar Br : Option Addr} {cr dr : Nat} {As Bs : Option Addr} {cs ds : Nat} (r s : QI) (w : World) (hzr : szQ r ≤ 1048576) (hzs : szQ s ≤ 1048576) (hsen : Sen w) (hr : OwnQ (.agg #[.bool r.1.1, .slice Ar r.1.2.length cr, .slice Br r.2.length dr]) r w) (hs : OwnQ (.agg #[.bool s.1.1, .slice As s.1.2.length cs, .slice Bs s.2.length ds]) s w) :
    Calls Tryd.prog 64 #[.agg #[.bool r.1.1, .slice Ar r.1.2.length cr, .slice Br r.2.length dr, .bool s.1.1, .slice As s.1.2.length cs, .slice Bs s.2.length ds], .func (.func 70) #[.agg #[.bool r.1.1, .slice Ar r.1.2.length cr, .slice Br r.2.length dr, .bool s.1.1, .slice As s.1.2.length cs, .slice Bs s.2.length ds]] #[], .func (.func 66) #[.agg #[.bool r.1.1, .slice Ar r.1.2.length cr, .slice Br r.2.length dr, .bool s.1.1, .slice As s.1.2.length cs, .slice Bs s.2.length ds]] #[]] w (PostQb (mulQ r s).1 (mulQ r s).2 w) := by
  have HS := Lib.hid hsen
  clear hsen
  have Hr := Lib.hid hr
  have OQr := Lib.hid (show ∀ W, Below w.heap.size w W → OwnQ (.agg #[.bool r.1.1, .slice Ar r.1.2.length cr, .slice Br r.2.length dr]) r W from fun W hb => OwnQ.below Hr.out hb)
  have OUr := Lib.hid (show ∀ W, Below w.heap.size w W → OwnI (.slice Ar r.1.2.length cr) r.1.2 W from fun W hb => (ownQ_open (OQr.out W hb)).2.1)
  have ODr := Lib.hid (show ∀ W, Below w.heap.size w W → OwnI (.slice Br r.2.length dr) r.2 W from fun W hb => (ownQ_open (OQr.out W hb)).2.2.1)
  have OSr := Lib.hid (show ∀ W, Below w.heap.size w W → OwnS (.agg #[.bool r.1.1, .slice Ar r.1.2.length cr]) r.1 W from fun W hb => OwnS.mk (OUr.out W hb))
  clear hr
  have Hs := Lib.hid hs
  have OQs := Lib.hid (show ∀ W, Below w.heap.size w W → OwnQ (.agg #[.bool s.1.1, .slice As s.1.2.length cs, .slice Bs s.2.length ds]) s W from fun W hb => OwnQ.below Hs.out hb)
  have OUs := Lib.hid (show ∀ W, Below w.heap.size w W → OwnI (.slice As s.1.2.length cs) s.1.2 W from fun W hb => (ownQ_open (OQs.out W hb)).2.1)
  have ODs := Lib.hid (show ∀ W, Below w.heap.size w W → OwnI (.slice Bs s.2.length ds) s.2 W from fun W hb => (ownQ_open (OQs.out W hb)).2.2.1)
  have OSs := Lib.hid (show ∀ W, Below w.heap.size w W → OwnS (.agg #[.bool s.1.1, .slice As s.1.2.length cs]) s.1 W from fun W hb => OwnS.mk (OUs.out W hb))
  clear hs
  have bb0 : Below w.heap.size w ((w.alloc (.cells #[.bool r.1.1, .slice Ar r.1.2.length cr, .slice Br r.2.length dr, .bool s.1.1, .slice As s.1.2.length cs, .slice Bs s.2.length ds] 71)).alloc (.cells #[.bool false, .slice none 0 0, .slice none 0 0] 31)) := below_al (below_al (Below.refl _ _) _) _
  have kp := (box_new w #[.bool r.1.1, .slice Ar r.1.2.length cr, .slice Br r.2.length dr, .bool s.1.1, .slice As s.1.2.length cs, .slice Bs s.2.length ds] 71).below (below_al (Below.refl _ _) (.cells #[.bool false, .slice none 0 0, .slice none 0 0] 31))
  have ko := (box_new (w.alloc (.cells #[.bool r.1.1, .slice Ar r.1.2.length cr, .slice Br r.2.length dr, .bool s.1.1, .slice As s.1.2.length cs, .slice Bs s.2.length ds] 71)) #[.bool false, .slice none 0 0, .slice none 0 0] 31)
  rw [show (w.alloc (.cells #[.bool r.1.1, .slice Ar r.1.2.length cr, .slice Br r.2.length dr, .bool s.1.1, .slice As s.1.2.length cs, .slice Bs s.2.length ds] 71)).heap.size = w.heap.size + 1 by simp] at ko
  have HKO := Lib.hid (ko.lt (w.heap.size + 1) (by simp))
  go_enter Tryd.func64, Tryd.ntmps64
  have kp_c0 := kp.here.cell 0 _ rfl
  have kp_c1 := kp.here.cell 1 _ rfl
  have kp_c2 := kp.here.cell 2 _ rfl
  have kp_c3 := kp.here.cell 3 _ rfl
  have kp_c4 := kp.here.cell 4 _ rfl
  have kp_c5 := kp.here.cell 5 _ rfl
  go_wp2_with fail
  clear kp_c0 kp_c1 kp_c2 kp_c3 kp_c4 kp_c5
  refine (ok_any r s _ hzr hzs (HS.out.below bb0) (OQr.out _ bb0) (OQs.out _ bb0)).mono ?_
  rintro e w1 ⟨rfl, b1⟩
  have bb1 := Below.next bb0 b1
  replace kp := kp.below b1
  replace ko := ko.below b1
  by_cases hok : (okQ r && okQ s) = true
  · rw [hok]
    have hok2 := (Bool.and_eq_true _ _ ▸ hok : okQ r = true ∧ okQ s = true)
    have HPr := Lib.hid (parts_of hok2.1)
    have HPs := Lib.hid (parts_of hok2.2)
    obtain ⟨N, hN⟩ : ∃ N, topS r s = N := ⟨_, rfl⟩
    obtain ⟨D, hD⟩ : ∃ D, denS r s = D := ⟨_, rfl⟩
    obtain ⟨Q, hQ⟩ : ∃ Q, makeQ N D = Q := ⟨_, rfl⟩
    have EN := Lib.hid hN
    have ED := Lib.hid hD
    have EQ := Lib.hid hQ
    have HV := Lib.hid (show mulQ r s = Q by rw [← hQ, ← hN, ← hD]; exact (mulQ_make HPr.out HPs.out hok2.1 hok2.2).symm)
    have hzN : szS N ≤ 1048576 := by rw [← hN]; exact part_sz_numerators HPr.out HPs.out
    have hzD : szS D ≤ 1048576 := by rw [← hD]; exact part_sz_denominators HPr.out HPs.out
    clear hok hok2 hN hD hQ
    go_wp2_with fail
    refine ((numerators_any r s _ HPr.out HPs.out (OQr.out _ bb1) (OQs.out _ bb1)).mono fun _ _ h => newVS_eq EN.out h).mono ?_
    rintro e w2 ⟨un, Sn, rfl, on, ln, b2⟩
    obtain ⟨An, cn, rfl⟩ := ownS_form on.here
    have bb2 := Below.next bb1 b2
    replace kp := kp.below b2
    replace ko := ko.below b2
    go_wp2_with fail
    refine ((denominators_any r s _ HPr.out HPs.out (OQr.out _ bb2) (OQs.out _ bb2)).mono fun _ _ h => newVS_eq ED.out h).mono ?_
    rintro e w3 ⟨ud, Sd, rfl, od, ld, b3⟩
    obtain ⟨Ad, cd, rfl⟩ := ownS_form od.here
    have bb3 := Below.next bb2 b3
    replace kp := kp.below b3
    replace ko := ko.below b3
    replace on := on.below b3
    have hz1 := b1.size
    have hz2 := b2.size
    have hz3 := b3.size
    go_wp2_with fail
    refine ((implRatMake_any _ _ N D _ hzN hzD on.here od.here (HS.out.below bb3)).mono fun _ _ h => postQb_eq EQ.out h).mono ?_
    rintro e w4 ⟨uf, Sf, rfl, of, lf, b4⟩
    obtain ⟨Af, cf, Bf, df, rfl⟩ := ownQ_form of.here
    have bb4 := Below.next bb3 b4
    replace kp := kp.below b4
    replace ko := ko.below b4
    replace on := on.below b4
    replace od := od.below b4
    clear on od
    have HW := Lib.hid (newQb_at (r := w.heap.size + 1) (b := Q.2) of lf (by have := HKO.out; omega) (by omega) bb4)
    have cz0 := ko.here.cell 0 _ rfl
    have fz0 := Lib.frozen_of_heap ko.here 0
    have cz1 := ko.here.cell 1 _ rfl
    have fz1 := Lib.frozen_of_heap ko.here 1
    have cz2 := ko.here.cell 2 _ rfl
    have fz2 := Lib.frozen_of_heap ko.here 2
    clear of ko
    go_wp2
    refine bodyPost_ret (v := .tuple #[.agg #[.bool _, .slice Af _ cf, .slice Bf _ df], .bool _]) (by simp [results, Tryd.results64, go_sem, cz0, cz1, cz2]; exact ⟨⟨rfl, rfl, rfl⟩, rfl⟩) rfl ?_
    rw [HV.out]
    exact HW.out
  · have hok' : (okQ r && okQ s) = false := by simpa using hok
    have HV := Lib.hid (show mulQ r s = (zeroQ, false) by unfold mulQ; rw [if_neg (fun h => hok (by rw [h.1, h.2]; rfl))])
    rw [hok']
    clear hok hok'
    have ko_c0 := ko.here.cell 0 _ rfl
    have ko_c1 := ko.here.cell 1 _ rfl
    have ko_c2 := ko.here.cell 2 _ rfl
    have cz0 := ko.here.cell 0 _ rfl
    have fz0 := Lib.frozen_of_heap ko.here 0
    have cz1 := ko.here.cell 1 _ rfl
    have fz1 := Lib.frozen_of_heap ko.here 1
    have cz2 := ko.here.cell 2 _ rfl
    have fz2 := Lib.frozen_of_heap ko.here 2
    go_wp2
    refine bodyPost_ret (v := .tuple #[.agg #[.bool false, .slice none 0 0, .slice none 0 0], .bool false]) (by simp [results, Tryd.results64, go_sem, cz0, cz1, cz2]) rfl ?_
    rw [HV.out]
    first | exact newQb_zero _ bb1 | exact newQb_zero _ (below_set3 bb1 (by omega))
set_option maxHeartbeats 2000000 in
set_option maxRecDepth 100000 in
theorem implRatMul_any (vr vs : Value) (r s : QI) (w : World) (hzr : szQ r ≤ 1048576) (hzs : szQ s ≤ 1048576) (hr : OwnQ vr r w) (hs : OwnQ vs s w) (hsen : Sen w) :
    Calls Tryd.prog 32 #[vr, vs] w (PostQb (mulQ r s).1 (mulQ r s).2 w) := by
  have HS := Lib.hid hsen
  clear hsen
  have Hr := Lib.hid hr
  obtain ⟨Ar, cr, Br, dr, rfl⟩ := ownQ_form hr
  have OQr := Lib.hid (show ∀ W, Below w.heap.size w W → OwnQ (.agg #[.bool r.1.1, .slice Ar r.1.2.length cr, .slice Br r.2.length dr]) r W from fun W hb => OwnQ.below Hr.out hb)
  have OUr := Lib.hid (show ∀ W, Below w.heap.size w W → OwnI (.slice Ar r.1.2.length cr) r.1.2 W from fun W hb => (ownQ_open (OQr.out W hb)).2.1)
  have ODr := Lib.hid (show ∀ W, Below w.heap.size w W → OwnI (.slice Br r.2.length dr) r.2 W from fun W hb => (ownQ_open (OQr.out W hb)).2.2.1)
  have OSr := Lib.hid (show ∀ W, Below w.heap.size w W → OwnS (.agg #[.bool r.1.1, .slice Ar r.1.2.length cr]) r.1 W from fun W hb => OwnS.mk (OUr.out W hb))
  clear hr
  have Hs := Lib.hid hs
  obtain ⟨As, cs, Bs, ds, rfl⟩ := ownQ_form hs
  have OQs := Lib.hid (show ∀ W, Below w.heap.size w W → OwnQ (.agg #[.bool s.1.1, .slice As s.1.2.length cs, .slice Bs s.2.length ds]) s W from fun W hb => OwnQ.below Hs.out hb)
  have OUs := Lib.hid (show ∀ W, Below w.heap.size w W → OwnI (.slice As s.1.2.length cs) s.1.2 W from fun W hb => (ownQ_open (OQs.out W hb)).2.1)
  have ODs := Lib.hid (show ∀ W, Below w.heap.size w W → OwnI (.slice Bs s.2.length ds) s.2 W from fun W hb => (ownQ_open (OQs.out W hb)).2.2.1)
  have OSs := Lib.hid (show ∀ W, Below w.heap.size w W → OwnS (.agg #[.bool s.1.1, .slice As s.1.2.length cs]) s.1 W from fun W hb => OwnS.mk (OUs.out W hb))
  clear hs
  have hmf : ∀ (fn : Fn) (first cap : Array Value) (w : World), (Instr.makeFunc fn first cap).run Tryd.prog w = .ok (.func fn first cap) w := fun _ _ _ _ => rfl
  have bb0 : Below w.heap.size w ((((w.alloc (.cells #[.bool r.1.1, .slice Ar r.1.2.length cr, .slice Br r.2.length dr] 31)).alloc (.cells #[.bool s.1.1, .slice As s.1.2.length cs, .slice Bs s.2.length ds] 31)).alloc (.cells #[.bool false, .slice none 0 0, .slice none 0 0] 31)).alloc (.cells #[.bool r.1.1, .slice Ar r.1.2.length cr, .slice Br r.2.length dr, .bool s.1.1, .slice As s.1.2.length cs, .slice Bs s.2.length ds] 71)) := below_al (below_al (below_al (below_al (Below.refl _ _) _) _) _) _
  have kr := (box_new w #[.bool r.1.1, .slice Ar r.1.2.length cr, .slice Br r.2.length dr] 31).below (below_al (below_al (below_al (Below.refl _ _) (.cells #[.bool s.1.1, .slice As s.1.2.length cs, .slice Bs s.2.length ds] 31)) (.cells #[.bool false, .slice none 0 0, .slice none 0 0] 31)) (.cells #[.bool r.1.1, .slice Ar r.1.2.length cr, .slice Br r.2.length dr, .bool s.1.1, .slice As s.1.2.length cs, .slice Bs s.2.length ds] 71))
  have ks := (box_new (w.alloc (.cells #[.bool r.1.1, .slice Ar r.1.2.length cr, .slice Br r.2.length dr] 31)) #[.bool s.1.1, .slice As s.1.2.length cs, .slice Bs s.2.length ds] 31).below (below_al (below_al (Below.refl _ _) (.cells #[.bool false, .slice none 0 0, .slice none 0 0] 31)) (.cells #[.bool r.1.1, .slice Ar r.1.2.length cr, .slice Br r.2.length dr, .bool s.1.1, .slice As s.1.2.length cs, .slice Bs s.2.length ds] 71))
  rw [show (w.alloc (.cells #[.bool r.1.1, .slice Ar r.1.2.length cr, .slice Br r.2.length dr] 31)).heap.size = w.heap.size + 1 by simp] at ks
  have ko := (box_new ((w.alloc (.cells #[.bool r.1.1, .slice Ar r.1.2.length cr, .slice Br r.2.length dr] 31)).alloc (.cells #[.bool s.1.1, .slice As s.1.2.length cs, .slice Bs s.2.length ds] 31)) #[.bool false, .slice none 0 0, .slice none 0 0] 31).below (below_al (Below.refl _ _) (.cells #[.bool r.1.1, .slice Ar r.1.2.length cr, .slice Br r.2.length dr, .bool s.1.1, .slice As s.1.2.length cs, .slice Bs s.2.length ds] 71))
  rw [show ((w.alloc (.cells #[.bool r.1.1, .slice Ar r.1.2.length cr, .slice Br r.2.length dr] 31)).alloc (.cells #[.bool s.1.1, .slice As s.1.2.length cs, .slice Bs s.2.length ds] 31)).heap.size = w.heap.size + 1 + 1 by simp] at ko
  have kp := (box_new (((w.alloc (.cells #[.bool r.1.1, .slice Ar r.1.2.length cr, .slice Br r.2.length dr] 31)).alloc (.cells #[.bool s.1.1, .slice As s.1.2.length cs, .slice Bs s.2.length ds] 31)).alloc (.cells #[.bool false, .slice none 0 0, .slice none 0 0] 31)) #[.bool r.1.1, .slice Ar r.1.2.length cr, .slice Br r.2.length dr, .bool s.1.1, .slice As s.1.2.length cs, .slice Bs s.2.length ds] 71)
  rw [show (((w.alloc (.cells #[.bool r.1.1, .slice Ar r.1.2.length cr, .slice Br r.2.length dr] 31)).alloc (.cells #[.bool s.1.1, .slice As s.1.2.length cs, .slice Bs s.2.length ds] 31)).alloc (.cells #[.bool false, .slice none 0 0, .slice none 0 0] 31)).heap.size = w.heap.size + 1 + 1 + 1 by simp] at kp
  have HKO := Lib.hid (ko.lt (w.heap.size + 1 + 1) (by simp))
  obtain ⟨Q, hQ⟩ : ∃ Q, mulQ r s = Q := ⟨_, rfl⟩
  have EQ := Lib.hid hQ
  rw [hQ]
  clear hQ
  go_enter Tryd.func32, Tryd.ntmps32
  have hz1 := HKO.out
  go_wp2_with fail
  refine ((combineRatMul_any r s _ hzr hzs (HS.out.below bb0) (OQr.out _ bb0) (OQs.out _ bb0)).mono fun _ _ h => postQb_eq EQ.out h).mono ?_
  rintro e w1 ⟨uf, Sf, rfl, of, lf, b1⟩
  obtain ⟨Af, cf, Bf, df, rfl⟩ := ownQ_form of.here
  have bb1 := Below.next bb0 b1
  replace kr := kr.below b1
  replace ks := ks.below b1
  replace ko := ko.below b1
  replace kp := kp.below b1
  have HW := Lib.hid (newQb_at (r := w.heap.size + 1 + 1) (b := Q.2) of lf HKO.out (by omega) bb1)
  have cz0 := ko.here.cell 0 _ rfl
  have fz0 := Lib.frozen_of_heap ko.here 0
  have cz1 := ko.here.cell 1 _ rfl
  have fz1 := Lib.frozen_of_heap ko.here 1
  have cz2 := ko.here.cell 2 _ rfl
  have fz2 := Lib.frozen_of_heap ko.here 2
  clear of ko kp kr ks
  go_wp2
  refine bodyPost_ret (v := .tuple #[.agg #[.bool _, .slice Af _ cf, .slice Bf _ df], .bool _]) (by simp [results, Tryd.results32, go_sem, cz0, cz1, cz2]; exact ⟨⟨rfl, rfl, rfl⟩, rfl⟩) rfl ?_
  exact HW.out
set_option maxHeartbeats 2000000 in
set_option maxRecDepth 100000 in
theorem combineRatDiv_any {Ar Br : Option Addr} {cr dr : Nat} {As Bs : Option Addr} {cs ds : Nat} (r s : QI) (w : World) (hzr : szQ r ≤ 1048576) (hzs : szQ s ≤ 1048576) (hsen : Sen w) (hr : OwnQ (.agg #[.bool r.1.1, .slice Ar r.1.2.length cr, .slice Br r.2.length dr]) r w) (hs : OwnQ (.agg #[.bool s.1.1, .slice As s.1.2.length cs, .slice Bs s.2.length ds]) s w) :
    Calls Tryd.prog 64 #[.agg #[.bool r.1.1, .slice Ar r.1.2.length cr, .slice Br r.2.length dr, .bool s.1.1, .slice As s.1.2.length cs, .slice Bs s.2.length ds], .func (.func 71) #[.agg #[.bool r.1.1, .slice Ar r.1.2.length cr, .slice Br r.2.length dr, .bool s.1.1, .slice As s.1.2.length cs, .slice Bs s.2.length ds]] #[], .func (.func 72) #[.agg #[.bool r.1.1, .slice Ar r.1.2.length cr, .slice Br r.2.length dr, .bool s.1.1, .slice As s.1.2.length cs, .slice Bs s.2.length ds]] #[]] w (PostQb (divQ r s).1 (divQ r s).2 w) := by
  have HS := Lib.hid hsen
  clear hsen
  have Hr := Lib.hid hr
  have OQr := Lib.hid (show ∀ W, Below w.heap.size w W → OwnQ (.agg #[.bool r.1.1, .slice Ar r.1.2.length cr, .slice Br r.2.length dr]) r W from fun W hb => OwnQ.below Hr.out hb)
  have OUr := Lib.hid (show ∀ W, Below w.heap.size w W → OwnI (.slice Ar r.1.2.length cr) r.1.2 W from fun W hb => (ownQ_open (OQr.out W hb)).2.1)
  have ODr := Lib.hid (show ∀ W, Below w.heap.size w W → OwnI (.slice Br r.2.length dr) r.2 W from fun W hb => (ownQ_open (OQr.out W hb)).2.2.1)
  have OSr := Lib.hid (show ∀ W, Below w.heap.size w W → OwnS (.agg #[.bool r.1.1, .slice Ar r.1.2.length cr]) r.1 W from fun W hb => OwnS.mk (OUr.out W hb))
  clear hr
  have Hs := Lib.hid hs
  have OQs := Lib.hid (show ∀ W, Below w.heap.size w W → OwnQ (.agg #[.bool s.1.1, .slice As s.1.2.length cs, .slice Bs s.2.length ds]) s W from fun W hb => OwnQ.below Hs.out hb)
  have OUs := Lib.hid (show ∀ W, Below w.heap.size w W → OwnI (.slice As s.1.2.length cs) s.1.2 W from fun W hb => (ownQ_open (OQs.out W hb)).2.1)
  have ODs := Lib.hid (show ∀ W, Below w.heap.size w W → OwnI (.slice Bs s.2.length ds) s.2 W from fun W hb => (ownQ_open (OQs.out W hb)).2.2.1)
  have OSs := Lib.hid (show ∀ W, Below w.heap.size w W → OwnS (.agg #[.bool s.1.1, .slice As s.1.2.length cs]) s.1 W from fun W hb => OwnS.mk (OUs.out W hb))
  clear hs
  have bb0 : Below w.heap.size w ((w.alloc (.cells #[.bool r.1.1, .slice Ar r.1.2.length cr, .slice Br r.2.length dr, .bool s.1.1, .slice As s.1.2.length cs, .slice Bs s.2.length ds] 71)).alloc (.cells #[.bool false, .slice none 0 0, .slice none 0 0] 31)) := below_al (below_al (Below.refl _ _) _) _
  have kp := (box_new w #[.bool r.1.1, .slice Ar r.1.2.length cr, .slice Br r.2.length dr, .bool s.1.1, .slice As s.1.2.length cs, .slice Bs s.2.length ds] 71).below (below_al (Below.refl _ _) (.cells #[.bool false, .slice none 0 0, .slice none 0 0] 31))
  have ko := (box_new (w.alloc (.cells #[.bool r.1.1, .slice Ar r.1.2.length cr, .slice Br r.2.length dr, .bool s.1.1, .slice As s.1.2.length cs, .slice Bs s.2.length ds] 71)) #[.bool false, .slice none 0 0, .slice none 0 0] 31)
  rw [show (w.alloc (.cells #[.bool r.1.1, .slice Ar r.1.2.length cr, .slice Br r.2.length dr, .bool s.1.1, .slice As s.1.2.length cs, .slice Bs s.2.length ds] 71)).heap.size = w.heap.size + 1 by simp] at ko
  have HKO := Lib.hid (ko.lt (w.heap.size + 1) (by simp))
  go_enter Tryd.func64, Tryd.ntmps64
  have kp_c0 := kp.here.cell 0 _ rfl
  have kp_c1 := kp.here.cell 1 _ rfl
  have kp_c2 := kp.here.cell 2 _ rfl
  have kp_c3 := kp.here.cell 3 _ rfl
  have kp_c4 := kp.here.cell 4 _ rfl
  have kp_c5 := kp.here.cell 5 _ rfl
  go_wp2_with fail
  clear kp_c0 kp_c1 kp_c2 kp_c3 kp_c4 kp_c5
  refine (ok_any r s _ hzr hzs (HS.out.below bb0) (OQr.out _ bb0) (OQs.out _ bb0)).mono ?_
  rintro e w1 ⟨rfl, b1⟩
  have bb1 := Below.next bb0 b1
  replace kp := kp.below b1
  replace ko := ko.below b1
  by_cases hok : (okQ r && okQ s) = true
  · rw [hok]
    have hok2 := (Bool.and_eq_true _ _ ▸ hok : okQ r = true ∧ okQ s = true)
    have HPr := Lib.hid (parts_of hok2.1)
    have HPs := Lib.hid (parts_of hok2.2)
    obtain ⟨N, hN⟩ : ∃ N, leftS r s = N := ⟨_, rfl⟩
    obtain ⟨D, hD⟩ : ∃ D, leftS s r = D := ⟨_, rfl⟩
    obtain ⟨Q, hQ⟩ : ∃ Q, makeQ N D = Q := ⟨_, rfl⟩
    have EN := Lib.hid hN
    have ED := Lib.hid hD
    have EQ := Lib.hid hQ
    have HV := Lib.hid (show divQ r s = Q by rw [← hQ, ← hN, ← hD]; exact (divQ_make HPr.out HPs.out hok2.1 hok2.2).symm)
    have hzN : szS N ≤ 1048576 := by rw [← hN]; exact part_sz_left HPr.out HPs.out
    have hzD : szS D ≤ 1048576 := by rw [← hD]; exact part_sz_right HPr.out HPs.out
    clear hok hok2 hN hD hQ
    go_wp2_with fail
    refine ((left_any r s _ HPr.out HPs.out (OQr.out _ bb1) (OQs.out _ bb1)).mono fun _ _ h => newVS_eq EN.out h).mono ?_
    rintro e w2 ⟨un, Sn, rfl, on, ln, b2⟩
    obtain ⟨An, cn, rfl⟩ := ownS_form on.here
    have bb2 := Below.next bb1 b2
    replace kp := kp.below b2
    replace ko := ko.below b2
    go_wp2_with fail
    refine ((right_any r s _ HPr.out HPs.out (OQr.out _ bb2) (OQs.out _ bb2)).mono fun _ _ h => newVS_eq ED.out h).mono ?_
    rintro e w3 ⟨ud, Sd, rfl, od, ld, b3⟩
    obtain ⟨Ad, cd, rfl⟩ := ownS_form od.here
    have bb3 := Below.next bb2 b3
    replace kp := kp.below b3
    replace ko := ko.below b3
    replace on := on.below b3
    have hz1 := b1.size
    have hz2 := b2.size
    have hz3 := b3.size
    go_wp2_with fail
    refine ((implRatMake_any _ _ N D _ hzN hzD on.here od.here (HS.out.below bb3)).mono fun _ _ h => postQb_eq EQ.out h).mono ?_
    rintro e w4 ⟨uf, Sf, rfl, of, lf, b4⟩
    obtain ⟨Af, cf, Bf, df, rfl⟩ := ownQ_form of.here
    have bb4 := Below.next bb3 b4
    replace kp := kp.below b4
    replace ko := ko.below b4
    replace on := on.below b4
    replace od := od.below b4
    clear on od
    have HW := Lib.hid (newQb_at (r := w.heap.size + 1) (b := Q.2) of lf (by have := HKO.out; omega) (by omega) bb4)
    have cz0 := ko.here.cell 0 _ rfl
    have fz0 := Lib.frozen_of_heap ko.here 0
    have cz1 := ko.here.cell 1 _ rfl
    have fz1 := Lib.frozen_of_heap ko.here 1
    have cz2 := ko.here.cell 2 _ rfl
    have fz2 := Lib.frozen_of_heap ko.here 2
    clear of ko
    go_wp2
    refine bodyPost_ret (v := .tuple #[.agg #[.bool _, .slice Af _ cf, .slice Bf _ df], .bool _]) (by simp [results, Tryd.results64, go_sem, cz0, cz1, cz2]; exact ⟨⟨rfl, rfl, rfl⟩, rfl⟩) rfl ?_
    rw [HV.out]
    exact HW.out
  · have hok' : (okQ r && okQ s) = false := by simpa using hok
    have HV := Lib.hid (show divQ r s = (zeroQ, false) by unfold divQ; rw [if_neg (fun h => hok (by rw [h.1, h.2]; rfl))])
    rw [hok']
    clear hok hok'
    have ko_c0 := ko.here.cell 0 _ rfl
    have ko_c1 := ko.here.cell 1 _ rfl
    have ko_c2 := ko.here.cell 2 _ rfl
    have cz0 := ko.here.cell 0 _ rfl
    have fz0 := Lib.frozen_of_heap ko.here 0
    have cz1 := ko.here.cell 1 _ rfl
    have fz1 := Lib.frozen_of_heap ko.here 1
    have cz2 := ko.here.cell 2 _ rfl
    have fz2 := Lib.frozen_of_heap ko.here 2
    go_wp2
    refine bodyPost_ret (v := .tuple #[.agg #[.bool false, .slice none 0 0, .slice none 0 0], .bool false]) (by simp [results, Tryd.results64, go_sem, cz0, cz1, cz2]) rfl ?_
    rw [HV.out]
    first | exact newQb_zero _ bb1 | exact newQb_zero _ (below_set3 bb1 (by omega))
set_option maxHeartbeats 2000000 in
set_option maxRecDepth 100000 in
theorem implRatDiv_any (vr vs : Value) (r s : QI) (w : World) (hzr : szQ r ≤ 1048576) (hzs : szQ s ≤ 1048576) (hr : OwnQ vr r w) (hs : OwnQ vs s w) (hsen : Sen w) :
    Calls Tryd.prog 34 #[vr, vs] w (PostQb (divQ r s).1 (divQ r s).2 w) := by
  have HS := Lib.hid hsen
  clear hsen
  have Hr := Lib.hid hr
  obtain ⟨Ar, cr, Br, dr, rfl⟩ := ownQ_form hr
  have OQr := Lib.hid (show ∀ W, Below w.heap.size w W → OwnQ (.agg #[.bool r.1.1, .slice Ar r.1.2.length cr, .slice Br r.2.length dr]) r W from fun W hb => OwnQ.below Hr.out hb)
  have OUr := Lib.hid (show ∀ W, Below w.heap.size w W → OwnI (.slice Ar r.1.2.length cr) r.1.2 W from fun W hb => (ownQ_open (OQr.out W hb)).2.1)
  have ODr := Lib.hid (show ∀ W, Below w.heap.size w W → OwnI (.slice Br r.2.length dr) r.2 W from fun W hb => (ownQ_open (OQr.out W hb)).2.2.1)
  have OSr := Lib.hid (show ∀ W, Below w.heap.size w W → OwnS (.agg #[.bool r.1.1, .slice Ar r.1.2.length cr]) r.1 W from fun W hb => OwnS.mk (OUr.out W hb))
  clear hr
  have Hs := Lib.hid hs
  obtain ⟨As, cs, Bs, ds, rfl⟩ := ownQ_form hs
  have OQs := Lib.hid (show ∀ W, Below w.heap.size w W → OwnQ (.agg #[.bool s.1.1, .slice As s.1.2.length cs, .slice Bs s.2.length ds]) s W from fun W hb => OwnQ.below Hs.out hb)
  have OUs := Lib.hid (show ∀ W, Below w.heap.size w W → OwnI (.slice As s.1.2.length cs) s.1.2 W from fun W hb => (ownQ_open (OQs.out W hb)).2.1)
  have ODs := Lib.hid (show ∀ W, Below w.heap.size w W → OwnI (.slice Bs s.2.length ds) s.2 W from fun W hb => (ownQ_open (OQs.out W hb)).2.2.1)
  have OSs := Lib.hid (show ∀ W, Below w.heap.size w W → OwnS (.agg #[.bool s.1.1, .slice As s.1.2.length cs]) s.1 W from fun W hb => OwnS.mk (OUs.out W hb))
  clear hs
  have hmf : ∀ (fn : Fn) (first cap : Array Value) (w : World), (Instr.makeFunc fn first cap).run Tryd.prog w = .ok (.func fn first cap) w := fun _ _ _ _ => rfl
  have bb0 : Below w.heap.size w ((((w.alloc (.cells #[.bool r.1.1, .slice Ar r.1.2.length cr, .slice Br r.2.length dr] 31)).alloc (.cells #[.bool s.1.1, .slice As s.1.2.length cs, .slice Bs s.2.length ds] 31)).alloc (.cells #[.bool false, .slice none 0 0, .slice none 0 0] 31)).alloc (.cells #[.bool r.1.1, .slice Ar r.1.2.length cr, .slice Br r.2.length dr, .bool s.1.1, .slice As s.1.2.length cs, .slice Bs s.2.length ds] 71)) := below_al (below_al (below_al (below_al (Below.refl _ _) _) _) _) _
  have kr := (box_new w #[.bool r.1.1, .slice Ar r.1.2.length cr, .slice Br r.2.length dr] 31).below (below_al (below_al (below_al (Below.refl _ _) (.cells #[.bool s.1.1, .slice As s.1.2.length cs, .slice Bs s.2.length ds] 31)) (.cells #[.bool false, .slice none 0 0, .slice none 0 0] 31)) (.cells #[.bool r.1.1, .slice Ar r.1.2.length cr, .slice Br r.2.length dr, .bool s.1.1, .slice As s.1.2.length cs, .slice Bs s.2.length ds] 71))
  have ks := (box_new (w.alloc (.cells #[.bool r.1.1, .slice Ar r.1.2.length cr, .slice Br r.2.length dr] 31)) #[.bool s.1.1, .slice As s.1.2.length cs, .slice Bs s.2.length ds] 31).below (below_al (below_al (Below.refl _ _) (.cells #[.bool false, .slice none 0 0, .slice none 0 0] 31)) (.cells #[.bool r.1.1, .slice Ar r.1.2.length cr, .slice Br r.2.length dr, .bool s.1.1, .slice As s.1.2.length cs, .slice Bs s.2.length ds] 71))
  rw [show (w.alloc (.cells #[.bool r.1.1, .slice Ar r.1.2.length cr, .slice Br r.2.length dr] 31)).heap.size = w.heap.size + 1 by simp] at ks
  have ko := (box_new ((w.alloc (.cells #[.bool r.1.1, .slice Ar r.1.2.length cr, .slice Br r.2.length dr] 31)).alloc (.cells #[.bool s.1.1, .slice As s.1.2.length cs, .slice Bs s.2.length ds] 31)) #[.bool false, .slice none 0 0, .slice none 0 0] 31).below (below_al (Below.refl _ _) (.cells #[.bool r.1.1, .slice Ar r.1.2.length cr, .slice Br r.2.length dr, .bool s.1.1, .slice As s.1.2.length cs, .slice Bs s.2.length ds] 71))
  rw [show ((w.alloc (.cells #[.bool r.1.1, .slice Ar r.1.2.length cr, .slice Br r.2.length dr] 31)).alloc (.cells #[.bool s.1.1, .slice As s.1.2.length cs, .slice Bs s.2.length ds] 31)).heap.size = w.heap.size + 1 + 1 by simp] at ko
  have kp := (box_new (((w.alloc (.cells #[.bool r.1.1, .slice Ar r.1.2.length cr, .slice Br r.2.length dr] 31)).alloc (.cells #[.bool s.1.1, .slice As s.1.2.length cs, .slice Bs s.2.length ds] 31)).alloc (.cells #[.bool false, .slice none 0 0, .slice none 0 0] 31)) #[.bool r.1.1, .slice Ar r.1.2.length cr, .slice Br r.2.length dr, .bool s.1.1, .slice As s.1.2.length cs, .slice Bs s.2.length ds] 71)
  rw [show (((w.alloc (.cells #[.bool r.1.1, .slice Ar r.1.2.length cr, .slice Br r.2.length dr] 31)).alloc (.cells #[.bool s.1.1, .slice As s.1.2.length cs, .slice Bs s.2.length ds] 31)).alloc (.cells #[.bool false, .slice none 0 0, .slice none 0 0] 31)).heap.size = w.heap.size + 1 + 1 + 1 by simp] at kp
  have HKO := Lib.hid (ko.lt (w.heap.size + 1 + 1) (by simp))
  obtain ⟨Q, hQ⟩ : ∃ Q, divQ r s = Q := ⟨_, rfl⟩
  have EQ := Lib.hid hQ
  rw [hQ]
  clear hQ
  go_enter Tryd.func34, Tryd.ntmps34
  have hz1 := HKO.out
  go_wp2_with fail
  refine ((combineRatDiv_any r s _ hzr hzs (HS.out.below bb0) (OQr.out _ bb0) (OQs.out _ bb0)).mono fun _ _ h => postQb_eq EQ.out h).mono ?_
  rintro e w1 ⟨uf, Sf, rfl, of, lf, b1⟩
  obtain ⟨Af, cf, Bf, df, rfl⟩ := ownQ_form of.here
  have bb1 := Below.next bb0 b1
  replace kr := kr.below b1
  replace ks := ks.below b1
  replace ko := ko.below b1
  replace kp := kp.below b1
  have HW := Lib.hid (newQb_at (r := w.heap.size + 1 + 1) (b := Q.2) of lf HKO.out (by omega) bb1)
  have cz0 := ko.here.cell 0 _ rfl
  have fz0 := Lib.frozen_of_heap ko.here 0
  have cz1 := ko.here.cell 1 _ rfl
  have fz1 := Lib.frozen_of_heap ko.here 1
  have cz2 := ko.here.cell 2 _ rfl
  have fz2 := Lib.frozen_of_heap ko.here 2
  clear of ko kp kr ks
  go_wp2
  refine bodyPost_ret (v := .tuple #[.agg #[.bool _, .slice Af _ cf, .slice Bf _ df], .bool _]) (by simp [results, Tryd.results34, go_sem, cz0, cz1, cz2]; exact ⟨⟨rfl, rfl, rfl⟩, rfl⟩) rfl ?_
  exact HW.out
end Go.Proofs.YtkkdlgiilhngcaaDoor
