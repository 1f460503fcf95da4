/-
  Chapter 6 of package impl: RatInt, RatZero, RatNeg, RatCmp and RatSign.
-/
import Derived.Test.YtkkdlgiilhngcaaDoorRatOps
import Derived.Test.YtkkdlgiilhngcaaDoorSignImpl4
namespace Go.Proofs.YtkkdlgiilhngcaaDoor
open Go.RowKit

set_option maxHeartbeats 1000000 in
set_option maxRecDepth 100000 in
theorem implRatZero_any (w : World) : Calls Tryd.prog 77 #[] w (NewV (fun v => OwnQ v oneQ) w) := by
  have bb0 : Below w.heap.size w (w.alloc (.cells #[.bool false, .slice none 0 0, .slice none 0 0] 31)) := below_al (Below.refl _ _) _
  have ko := box_new w #[.bool false, .slice none 0 0, .slice none 0 0] 31
  go_enter Tryd.func77, Tryd.ntmps77
  go_wp2_with fail
  refine (implNatOf_any 1 _ (by decide)).mono ?_
  rintro e w1 ⟨v1, rfl, o1, b1⟩
  rw [show (1 : Int).toNat = 1 from rfl, one_limbs] at o1
  obtain ⟨A1, c1, rfl⟩ := own_len o1
  have bb1 := Below.next bb0 b1
  replace ko := ko.below b1
  have HR := Lib.hid (newQ_ret (x := oneQ) (u := .slice none 0 0) (B := w.heap.size) (w := w) ko.here (World.ownsRow_nil _ _ _ _) o1 (fun g hg => by cases hg) (Nat.le_refl _) bb0.size (Nat.le_refl _) bb1)
  have cz0 := ko.here.cell 0 _ rfl
  have cz1 := ko.here.cell 1 _ rfl
  have cz2 := ko.here.cell 2 _ rfl
  have fz0 := Lib.frozen_of_heap ko.here 0
  have fz1 := Lib.frozen_of_heap ko.here 1
  have fz2 := Lib.frozen_of_heap ko.here 2
  clear ko o1
  go_wp2
  refine bodyPost_ret (v := .agg #[.bool false, .slice none 0 0, .slice A1 _ c1]) (by simp [results, Tryd.results77, go_sem, cz0, cz1, cz2]; rfl) rfl ?_
  exact HR.out
set_option maxHeartbeats 2000000 in
set_option maxRecDepth 100000 in
theorem implRatInt_any (va : Value) (a : SI) (w : World) (hza : szS a ≤ 1048576) (ha : OwnS va a w) (hsen : Sen w) :
    Calls Tryd.prog 26 #[va] w (PostQb (makeQ a (ofZ 1)).1 (makeQ a (ofZ 1)).2 w) := by
  have HS := Lib.hid hsen
  clear hsen
  have Ha := Lib.hid ha
  obtain ⟨Aa, ca, rfl⟩ := ownS_form ha
  have OSa := Lib.hid (show ∀ W, Below w.heap.size w W → OwnS (.agg #[.bool a.1, .slice Aa a.2.length ca]) a W from fun W hb => OwnS.below Ha.out hb)
  have OIa := Lib.hid (show ∀ W, Below w.heap.size w W → OwnI (.slice Aa a.2.length ca) a.2 W from fun W hb => ownS_open (OSa.out W hb))
  clear ha
  have bb0 : Below w.heap.size w ((w.alloc (.cells #[.bool a.1, .slice Aa a.2.length ca] 29)).alloc (.cells #[.bool false, .slice none 0 0, .slice none 0 0] 31)) := below_al (below_al (Below.refl _ _) _) _
  have ka := (box_new w #[.bool a.1, .slice Aa a.2.length ca] 29).below (below_al (Below.refl _ _) (.cells #[.bool false, .slice none 0 0, .slice none 0 0] 31))
  have ko := (box_new (w.alloc (.cells #[.bool a.1, .slice Aa a.2.length ca] 29)) #[.bool false, .slice none 0 0, .slice none 0 0] 31)
  rw [show (w.alloc (.cells #[.bool a.1, .slice Aa a.2.length ca] 29)).heap.size = w.heap.size + 1 by simp] at ko
  have HKO := Lib.hid (ko.lt (w.heap.size + 1) (by simp))
  obtain ⟨Q, hQ⟩ : ∃ Q, makeQ a (ofZ 1) = Q := ⟨_, rfl⟩
  have EQ := Lib.hid hQ
  rw [hQ]
  clear hQ
  obtain ⟨W0, hW0⟩ : ∃ W0, W0 = ((w.alloc (.cells #[.bool a.1, .slice Aa a.2.length ca] 29)).alloc (.cells #[.bool false, .slice none 0 0, .slice none 0 0] 31)) := ⟨_, rfl⟩
  rw [← hW0] at bb0 ka ko HKO
  have HW0 := Lib.hid hW0
  clear hW0
  have hz0 := HKO.out
  go_enter Tryd.func26, Tryd.ntmps26
  have ka_c0 := ka.here.cell 0 _ rfl
  have ka_c1 := ka.here.cell 1 _ rfl
  go_wp2_with fail
  rw [← HW0.out]
  have HC0 := Lib.hid (show Chg [w.heap.size + 1] W0 W0.drew from (Chg.refl _ _).drew1)
  have HCr := Lib.hid (show Chg [w.heap.size + 1] W0 W0 from Chg.refl _ _)
  have KL := Lib.hid (show ∀ W, Chg [w.heap.size + 1] W0 W → W.cell? ⟨w.heap.size, 0, none⟩ = some (.bool a.1) ∧ W.cell? ⟨w.heap.size, 1, none⟩ = some (.slice Aa a.2.length ca) ∧ Hid (Chg [w.heap.size + 1] W0 W) from fun W hc => ⟨(ka.chg hc (fun i hi hm => by simp at hi hm; omega)).here.cell 0 _ rfl, (ka.chg hc (fun i hi hm => by simp at hi hm; omega)).here.cell 1 _ rfl, Lib.hid hc⟩)
  have BBF := Lib.hid (show ∀ W, Chg [w.heap.size + 1] W0 W → Below w.heap.size w W from fun W hc => below_chg bb0 hc bb0.size (fun i hi => by simp at hi; omega))
  clear ka_c0 ka_c1
  go_region_held3 (fun W => W.cell? ⟨w.heap.size, 0, none⟩ = some (.bool a.1) ∧ W.cell? ⟨w.heap.size, 1, none⟩ = some (.slice Aa a.2.length ca) ∧ Hid (Chg [w.heap.size + 1] W0 W))
    ((refine KL.out _ ?_; (first | exact HC2.out | exact HC1.out | exact HCr.out | exact HC0.out | exact HC2.out.drew1 | exact HC1.out.drew1 | exact HCr.out.drew1 | exact HC0.out.drew1 | exact HC2.out.trans (Chg.of_below (below_al (Below.refl _ _) _)) | exact HC1.out.trans (Chg.of_below (below_al (Below.refl _ _) _)) | exact HCr.out.trans (Chg.of_below (below_al (Below.refl _ _) _)) | exact HC0.out.trans (Chg.of_below (below_al (Below.refl _ _) _)) | exact (Chg.setCell HC2.out (by simp) _) | exact (Chg.setCell (Chg.setCell HC2.out (by simp) _) (by simp) _) | exact (Chg.setCell (Chg.setCell (Chg.setCell HC2.out (by simp) _) (by simp) _) (by simp) _) | fail)))
    (first
      | (go_at_call 60; (have hBB := (‹_ ∧ _ ∧ Hid (Chg [w.heap.size + 1] W0 _)›).2.2); (with_reducible refine ((implIntOf_any 1 _ (by decide) (by decide)).mono fun _ _ h => NewS.newV h).mono ?_); rintro e w1 ⟨ui, Si, rfl, oi, li, b1⟩; have HC1 := Lib.hid (hBB.out.trans (Chg.of_below b1)); (have ko_1 := At.below (by first | exact ko | exact At.below ko (below_al (Below.refl _ _) _) | exact At.below (At.below ko (below_al (Below.refl _ _) _)) (below_al (Below.refl _ _) _) | exact At.move ko (fun _ _ => rfl) (Nat.le_refl _)) b1); obtain ⟨Ai, ci, rfl⟩ := ownS_form oi.here; have HBZ1 := Lib.hid hBB.out.size; clear hBB)
      | (go_at_call 20; (have hBB := (‹_ ∧ _ ∧ Hid (Chg [w.heap.size + 1] W0 _)›).2.2); (with_reducible refine ((implRatMake_any _ _ a (ofZ 1) _ hza one_szS (OSa.out _ (BBF.out _ hBB.out)) (At.here (by first | exact oi | exact At.below oi (below_al (Below.refl _ _) _) | exact At.below (At.below oi (below_al (Below.refl _ _) _)) (below_al (Below.refl _ _) _) | exact At.move oi (fun _ _ => rfl) (Nat.le_refl _))) (HS.out.below (BBF.out _ hBB.out))).mono fun _ _ h => postQb_eq EQ.out h).mono ?_); rintro e w2 ⟨uf, Sf, rfl, of, lf, b2⟩; have HC2 := Lib.hid (hBB.out.trans (Chg.of_below b2)); (have ko_2 := At.below (by first | exact ko_1 | exact At.below ko_1 (below_al (Below.refl _ _) _) | exact At.below (At.below ko_1 (below_al (Below.refl _ _) _)) (below_al (Below.refl _ _) _) | exact At.move ko_1 (fun _ _ => rfl) (Nat.le_refl _)) b2); (have oi_2 := At.below (by first | exact oi | exact At.below oi (below_al (Below.refl _ _) _) | exact At.below (At.below oi (below_al (Below.refl _ _) _)) (below_al (Below.refl _ _) _) | exact At.move oi (fun _ _ => rfl) (Nat.le_refl _)) b2); obtain ⟨Af, cf, Bf, df, rfl⟩ := ownQ_form of.here; have cz0 := ko_2.here.cell 0 _ rfl; have fz0 := Lib.frozen_of_heap ko_2.here 0; have cz1 := ko_2.here.cell 1 _ rfl; have fz1 := Lib.frozen_of_heap ko_2.here 1; have cz2 := ko_2.here.cell 2 _ rfl; have fz2 := Lib.frozen_of_heap ko_2.here 2; have HBZ2 := Lib.hid hBB.out.size; clear hBB))
  have bb2 := BBF.out _ HC2.out
  replace ka := ka.chg HC2.out (fun i hi hm => by simp at hi hm; omega)
  replace ko := ko_2
  have oi := oi_2
  have HW := Lib.hid (newQb_at (r := w.heap.size + 1) (b := Q.2) of lf (by have := HBZ2.out; omega) (by omega) bb2)
  clear of ko ka oi
  go_wp2
  refine bodyPost_ret (v := .tuple #[.agg #[.bool _, .slice Af _ cf, .slice Bf _ df], .bool _]) (by simp [results, Tryd.results26, go_sem, cz0, cz1, cz2]; exact ⟨⟨rfl, rfl, rfl⟩, rfl⟩) rfl ?_
  exact HW.out
set_option maxHeartbeats 2000000 in
set_option maxRecDepth 100000 in
theorem implRatNeg_any (vr : Value) (r : QI) (w : World) (hzr : szQ r ≤ 1048576) (hr : OwnQ vr r w) (hsen : Sen w) :
    Calls Tryd.prog 30 #[vr] w (PostQb (negQ r).1 (negQ r).2 w) := by
  have HS := Lib.hid hsen
  clear hsen
  have Hr := Lib.hid hr
  obtain ⟨Ar, cr, Br, dr, rfl⟩ := ownQ_form hr
  have OQr := Lib.hid (show ∀ W, Below w.heap.size w W → OwnQ (.agg #[.bool r.1.1, .slice Ar r.1.2.length cr, .slice Br r.2.length dr]) r W from fun W hb => OwnQ.below Hr.out hb)
  have OUr := Lib.hid (show ∀ W, Below w.heap.size w W → OwnI (.slice Ar r.1.2.length cr) r.1.2 W from fun W hb => (ownQ_open (OQr.out W hb)).2.1)
  have ODr := Lib.hid (show ∀ W, Below w.heap.size w W → OwnI (.slice Br r.2.length dr) r.2 W from fun W hb => (ownQ_open (OQr.out W hb)).2.2.1)
  have OSr := Lib.hid (show ∀ W, Below w.heap.size w W → OwnS (.agg #[.bool r.1.1, .slice Ar r.1.2.length cr]) r.1 W from fun W hb => OwnS.mk (OUr.out W hb))
  clear hr
  have hlr := szQ_len hzr
  have hl1r := hlr.1
  have hl2r := hlr.2
  clear hlr
  have bb0 : Below w.heap.size w ((w.alloc (.cells #[.bool r.1.1, .slice Ar r.1.2.length cr, .slice Br r.2.length dr] 31)).alloc (.cells #[.bool false, .slice none 0 0, .slice none 0 0] 31)) := below_al (below_al (Below.refl _ _) _) _
  have kr := (box_new w #[.bool r.1.1, .slice Ar r.1.2.length cr, .slice Br r.2.length dr] 31).below (below_al (Below.refl _ _) (.cells #[.bool false, .slice none 0 0, .slice none 0 0] 31))
  have ko := (box_new (w.alloc (.cells #[.bool r.1.1, .slice Ar r.1.2.length cr, .slice Br r.2.length dr] 31)) #[.bool false, .slice none 0 0, .slice none 0 0] 31)
  rw [show (w.alloc (.cells #[.bool r.1.1, .slice Ar r.1.2.length cr, .slice Br r.2.length dr] 31)).heap.size = w.heap.size + 1 by simp] at ko
  have HKO := Lib.hid (ko.lt (w.heap.size + 1) (by simp))
  go_enter Tryd.func30, Tryd.ntmps30
  have kr_c0 := kr.here.cell 0 _ rfl
  have kr_c1 := kr.here.cell 1 _ rfl
  have kr_c2 := kr.here.cell 2 _ rfl
  go_wp2_with fail
  clear kr_c0 kr_c1 kr_c2
  refine (implRatOk_any _ r _ hzr (OQr.out _ bb0) (HS.out.below bb0)).mono ?_
  rintro e w1 ⟨rfl, b1⟩
  have bb1 := Below.next bb0 b1
  replace kr := kr.below b1
  replace ko := ko.below b1
  by_cases okr : okQ r = true
  · rw [okr]
    have HV := Lib.hid (show negQ r = ((negS r.1, r.2), true) by unfold negQ; rw [if_pos okr])
    clear okr
    obtain ⟨N, hN⟩ : ∃ N, negS r.1 = N := ⟨_, rfl⟩
    rw [hN] at HV
    have EN := Lib.hid hN
    clear hN
    have hko := ko.lt (w.heap.size + 1) (by simp)
    have kr_c0 := kr.here.cell 0 _ rfl
    have kr_c1 := kr.here.cell 1 _ rfl
    have kr_c2 := kr.here.cell 2 _ rfl
    go_wp2_with fail
    have HC0 := Lib.hid (show Chg [w.heap.size + 1] w1 w1.drew from (Chg.refl _ _).drew1)
    have HCr := Lib.hid (show Chg [w.heap.size + 1] w1 w1 from Chg.refl _ _)
    have KL := Lib.hid (show ∀ W, Chg [w.heap.size + 1] w1 W → W.cell? ⟨w.heap.size, 0, none⟩ = some (.bool r.1.1) ∧ W.cell? ⟨w.heap.size, 1, none⟩ = some (.slice Ar r.1.2.length cr) ∧ W.cell? ⟨w.heap.size, 2, none⟩ = some (.slice Br r.2.length dr) ∧ Hid (Chg [w.heap.size + 1] w1 W) from fun W hc => ⟨(kr.chg hc (fun i hi hm => by simp at hi hm; omega)).here.cell 0 _ rfl, (kr.chg hc (fun i hi hm => by simp at hi hm; omega)).here.cell 1 _ rfl, (kr.chg hc (fun i hi hm => by simp at hi hm; omega)).here.cell 2 _ rfl, Lib.hid hc⟩)
    have BBF := Lib.hid (show ∀ W, Chg [w.heap.size + 1] w1 W → Below w.heap.size w W from fun W hc => below_chg bb1 hc bb1.size (fun i hi => by simp at hi; omega))
    clear kr_c0 kr_c1 kr_c2
    go_region_held3 (fun W => W.cell? ⟨w.heap.size, 0, none⟩ = some (.bool r.1.1) ∧ W.cell? ⟨w.heap.size, 1, none⟩ = some (.slice Ar r.1.2.length cr) ∧ W.cell? ⟨w.heap.size, 2, none⟩ = some (.slice Br r.2.length dr) ∧ Hid (Chg [w.heap.size + 1] w1 W))
      ((refine KL.out _ ?_; (first | exact HC3.out | exact HC2.out | exact HCr.out | exact HC0.out | exact HC3.out.drew1 | exact HC2.out.drew1 | exact HCr.out.drew1 | exact HC0.out.drew1 | exact HC3.out.trans (Chg.of_below (below_al (Below.refl _ _) _)) | exact HC2.out.trans (Chg.of_below (below_al (Below.refl _ _) _)) | exact HCr.out.trans (Chg.of_below (below_al (Below.refl _ _) _)) | exact HC0.out.trans (Chg.of_below (below_al (Below.refl _ _) _)) | exact (Chg.setCell HC3.out (by simp) _) | exact (Chg.setCell (Chg.setCell HC3.out (by simp) _) (by simp) _) | exact (Chg.setCell (Chg.setCell (Chg.setCell HC3.out (by simp) _) (by simp) _) (by simp) _) | fail)))
      (first
        | (go_at_call 68; (have hBB := (‹_ ∧ _ ∧ _ ∧ Hid (Chg [w.heap.size + 1] w1 _)›).2.2.2); (with_reducible refine ((implIntNeg_any _ r.1 _ hl1r (OSr.out _ (BBF.out _ hBB.out))).mono fun _ _ h => newVS_eq EN.out (NewS.newV h)).mono ?_); rintro e w2 ⟨un, Sn, rfl, on, ln, b2⟩; have HC2 := Lib.hid (hBB.out.trans (Chg.of_below b2)); (have ko_2 := At.below (by first | exact ko | exact At.below ko (below_al (Below.refl _ _) _) | exact At.below (At.below ko (below_al (Below.refl _ _) _)) (below_al (Below.refl _ _) _) | exact At.move ko (fun _ _ => rfl) (Nat.le_refl _)) b2); obtain ⟨An, cn, rfl⟩ := ownS_form on.here; have HBZ2 := Lib.hid hBB.out.size; clear hBB)
        | (go_at_call 69; (have hBB := (‹_ ∧ _ ∧ _ ∧ Hid (Chg [w.heap.size + 1] w1 _)›).2.2.2); (with_reducible refine ((cloneI_any _ r.2 0 _ _ hl2r (ODr.out _ (BBF.out _ hBB.out)).row).mono fun _ _ h => h.newV).mono ?_); rintro e w3 ⟨ud, Sd, rfl, od, ld, b3⟩; have HC3 := Lib.hid (hBB.out.trans (Chg.of_below b3)); (have ko_3 := At.below (by first | exact ko_2 | exact At.below ko_2 (below_al (Below.refl _ _) _) | exact At.below (At.below ko_2 (below_al (Below.refl _ _) _)) (below_al (Below.refl _ _) _) | exact At.move ko_2 (fun _ _ => rfl) (Nat.le_refl _)) b3); (have on_3 := At.below (by first | exact on | exact At.below on (below_al (Below.refl _ _) _) | exact At.below (At.below on (below_al (Below.refl _ _) _)) (below_al (Below.refl _ _) _) | exact At.move on (fun _ _ => rfl) (Nat.le_refl _)) b3); obtain ⟨Ad, cd, rfl⟩ := own_len od.here; have cz0 := ko_3.here.cell 0 _ rfl; have fz0 := Lib.frozen_of_heap ko_3.here 0; have cz1 := ko_3.here.cell 1 _ rfl; have fz1 := Lib.frozen_of_heap ko_3.here 1; have cz2 := ko_3.here.cell 2 _ rfl; have fz2 := Lib.frozen_of_heap ko_3.here 2; have HBZ3 := Lib.hid hBB.out.size; clear hBB))
    have bb3 := BBF.out _ HC3.out
    replace kr := kr.chg HC3.out (fun i hi hm => by simp at hi hm; omega)
    replace ko := ko_3
    have on := on_3
    have hq := At.both on od
    have of : At (Sn ++ Sd) (OwnQ (.agg #[.bool N.1, .slice An N.2.length cn, .slice Ad r.2.length cd]) (N, r.2)) w3 := hq.imp_at fun g h1 h2 => by have := ln _ (at_ints_mem on (fun _ h => ownS_open h) g h1); have := ld _ (at_ints_mem od (fun _ h => h) g h2); have := HBZ3.out; omega
    have HW := Lib.hid (newQb_at (r := w.heap.size + 1) (b := true) (B := w1.heap.size) of (fun g hg => by
      have := HBZ3.out
      have := HBZ2.out
      skip
      rcases List.mem_append.1 hg with hg | hg
      · exact ⟨by have := (ln g hg).1; omega, on.lt g hg⟩
      · exact ⟨by have := (ld g hg).1; omega, od.lt g hg⟩) hko (by omega) bb3)
    clear of ko kr on od hq
    go_wp2
    refine bodyPost_ret (v := .tuple #[.agg #[.bool _, .slice An _ cn, .slice Ad _ cd], .bool true]) (by simp [results, Tryd.results30, go_sem, cz0, cz1, cz2]; exact ⟨rfl, rfl, rfl⟩) rfl ?_
    rw [HV.out]
    exact HW.out
  · have okr' : okQ r = false := by simpa using okr
    have HV := Lib.hid (show negQ r = (zeroQ, false) by unfold negQ; rw [if_neg okr])
    rw [okr']
    clear okr okr'
    have ko_c0 := ko.here.cell 0 _ rfl
    have ko_c1 := ko.here.cell 1 _ rfl
    have ko_c2 := ko.here.cell 2 _ rfl
    have cz0 := ko.here.cell 0 _ rfl
    have fz0 := Lib.frozen_of_heap ko.here 0
    have cz1 := ko.here.cell 1 _ rfl
    have fz1 := Lib.frozen_of_heap ko.here 1
    have cz2 := ko.here.cell 2 _ rfl
    have fz2 := Lib.frozen_of_heap ko.here 2
    go_wp2
    refine bodyPost_ret (v := .tuple #[.agg #[.bool false, .slice none 0 0, .slice none 0 0], .bool false]) (by simp [results, Tryd.results30, go_sem, cz0, cz1, cz2]) rfl ?_
    rw [HV.out]
    first | exact newQb_zero _ bb1 | exact newQb_zero _ (below_set3 bb1 (by omega))
set_option maxHeartbeats 2000000 in
set_option maxRecDepth 100000 in
theorem implRatCmp_any (vr vs : Value) (r s : QI) (w : World) (hzr : szQ r ≤ 1048576) (hzs : szQ s ≤ 1048576) (hr : OwnQ vr r w) (hs : OwnQ vs s w) (hsen : Sen w) :
    Calls Tryd.prog 36 #[vr, vs] w (Postn (cmpQ r s) w) := by
  have HS := Lib.hid hsen
  clear hsen
  have Hr := Lib.hid hr
  obtain ⟨Ar, cr, Br, dr, rfl⟩ := ownQ_form hr
  have OQr := Lib.hid (show ∀ W, Below w.heap.size w W → OwnQ (.agg #[.bool r.1.1, .slice Ar r.1.2.length cr, .slice Br r.2.length dr]) r W from fun W hb => OwnQ.below Hr.out hb)
  have OUr := Lib.hid (show ∀ W, Below w.heap.size w W → OwnI (.slice Ar r.1.2.length cr) r.1.2 W from fun W hb => (ownQ_open (OQr.out W hb)).2.1)
  have ODr := Lib.hid (show ∀ W, Below w.heap.size w W → OwnI (.slice Br r.2.length dr) r.2 W from fun W hb => (ownQ_open (OQr.out W hb)).2.2.1)
  have OSr := Lib.hid (show ∀ W, Below w.heap.size w W → OwnS (.agg #[.bool r.1.1, .slice Ar r.1.2.length cr]) r.1 W from fun W hb => OwnS.mk (OUr.out W hb))
  clear hr
  have Hs := Lib.hid hs
  obtain ⟨As, cs, Bs, ds, rfl⟩ := ownQ_form hs
  have OQs := Lib.hid (show ∀ W, Below w.heap.size w W → OwnQ (.agg #[.bool s.1.1, .slice As s.1.2.length cs, .slice Bs s.2.length ds]) s W from fun W hb => OwnQ.below Hs.out hb)
  have OUs := Lib.hid (show ∀ W, Below w.heap.size w W → OwnI (.slice As s.1.2.length cs) s.1.2 W from fun W hb => (ownQ_open (OQs.out W hb)).2.1)
  have ODs := Lib.hid (show ∀ W, Below w.heap.size w W → OwnI (.slice Bs s.2.length ds) s.2 W from fun W hb => (ownQ_open (OQs.out W hb)).2.2.1)
  have OSs := Lib.hid (show ∀ W, Below w.heap.size w W → OwnS (.agg #[.bool s.1.1, .slice As s.1.2.length cs]) s.1 W from fun W hb => OwnS.mk (OUs.out W hb))
  clear hs
  have bb0 : Below w.heap.size w (((w.alloc (.cells #[.bool r.1.1, .slice Ar r.1.2.length cr, .slice Br r.2.length dr] 31)).alloc (.cells #[.bool s.1.1, .slice As s.1.2.length cs, .slice Bs s.2.length ds] 31)).alloc (.cells #[.bool r.1.1, .slice Ar r.1.2.length cr, .slice Br r.2.length dr, .bool s.1.1, .slice As s.1.2.length cs, .slice Bs s.2.length ds] 71)) := below_al (below_al (below_al (Below.refl _ _) _) _) _
  have kr := (box_new w #[.bool r.1.1, .slice Ar r.1.2.length cr, .slice Br r.2.length dr] 31).below (below_al (below_al (Below.refl _ _) (.cells #[.bool s.1.1, .slice As s.1.2.length cs, .slice Bs s.2.length ds] 31)) (.cells #[.bool r.1.1, .slice Ar r.1.2.length cr, .slice Br r.2.length dr, .bool s.1.1, .slice As s.1.2.length cs, .slice Bs s.2.length ds] 71))
  have ks := (box_new (w.alloc (.cells #[.bool r.1.1, .slice Ar r.1.2.length cr, .slice Br r.2.length dr] 31)) #[.bool s.1.1, .slice As s.1.2.length cs, .slice Bs s.2.length ds] 31).below (below_al (Below.refl _ _) (.cells #[.bool r.1.1, .slice Ar r.1.2.length cr, .slice Br r.2.length dr, .bool s.1.1, .slice As s.1.2.length cs, .slice Bs s.2.length ds] 71))
  rw [show (w.alloc (.cells #[.bool r.1.1, .slice Ar r.1.2.length cr, .slice Br r.2.length dr] 31)).heap.size = w.heap.size + 1 by simp] at ks
  have kp := (box_new ((w.alloc (.cells #[.bool r.1.1, .slice Ar r.1.2.length cr, .slice Br r.2.length dr] 31)).alloc (.cells #[.bool s.1.1, .slice As s.1.2.length cs, .slice Bs s.2.length ds] 31)) #[.bool r.1.1, .slice Ar r.1.2.length cr, .slice Br r.2.length dr, .bool s.1.1, .slice As s.1.2.length cs, .slice Bs s.2.length ds] 71)
  rw [show ((w.alloc (.cells #[.bool r.1.1, .slice Ar r.1.2.length cr, .slice Br r.2.length dr] 31)).alloc (.cells #[.bool s.1.1, .slice As s.1.2.length cs, .slice Bs s.2.length ds] 31)).heap.size = w.heap.size + 1 + 1 by simp] at kp
  go_enter Tryd.func36, Tryd.ntmps36
  go_wp2_with fail
  refine (ok_any r s _ hzr hzs (HS.out.below bb0) (OQr.out _ bb0) (OQs.out _ bb0)).mono ?_
  rintro e w1 ⟨rfl, b1⟩
  have bb1 := Below.next bb0 b1
  replace kr := kr.below b1
  replace ks := ks.below b1
  replace kp := kp.below b1
  by_cases hok : (okQ r && okQ s) = true
  · rw [hok]
    have hok2 := (Bool.and_eq_true _ _ ▸ hok : okQ r = true ∧ okQ s = true)
    have HPr := Lib.hid (parts_of hok2.1)
    have HPs := Lib.hid (parts_of hok2.2)
    have hl1 : (leftS r s).2.length ≤ 1048576 := by rw [(leftS_eq HPr.out HPs.out).1]; have := ofZ_len (numQ r * denQ s); omega
    have hl2 : (leftS s r).2.length ≤ 1048576 := by rw [(leftS_eq HPs.out HPr.out).1]; have := ofZ_len (numQ s * denQ r); omega
    have HV := Lib.hid (show cmpS (leftS r s) (leftS s r) = cmpQ r s from cmpQ_make HPr.out HPs.out hok2.1 hok2.2)
    obtain ⟨L, hL⟩ : ∃ L, leftS r s = L := ⟨_, rfl⟩
    obtain ⟨R, hR⟩ : ∃ R, leftS s r = R := ⟨_, rfl⟩
    rw [hL, hR] at HV
    rw [hL] at hl1
    rw [hR] at hl2
    have EL := Lib.hid hL
    have ER := Lib.hid hR
    clear hok hok2 hL hR
    have kp_c0 := kp.here.cell 0 _ rfl
    have kp_c1 := kp.here.cell 1 _ rfl
    have kp_c2 := kp.here.cell 2 _ rfl
    have kp_c3 := kp.here.cell 3 _ rfl
    have kp_c4 := kp.here.cell 4 _ rfl
    have kp_c5 := kp.here.cell 5 _ rfl
    go_wp2_with fail
    have HC0 := Lib.hid (show Chg [] w1 w1.drew from (Chg.refl _ _).drew1)
    have HCr := Lib.hid (show Chg [] w1 w1 from Chg.refl _ _)
    have KL := Lib.hid (show ∀ W, Chg [] w1 W → W.cell? ⟨w.heap.size + 1 + 1, 0, none⟩ = some (.bool r.1.1) ∧ W.cell? ⟨w.heap.size + 1 + 1, 1, none⟩ = some (.slice Ar r.1.2.length cr) ∧ W.cell? ⟨w.heap.size + 1 + 1, 2, none⟩ = some (.slice Br r.2.length dr) ∧ W.cell? ⟨w.heap.size + 1 + 1, 3, none⟩ = some (.bool s.1.1) ∧ W.cell? ⟨w.heap.size + 1 + 1, 4, none⟩ = some (.slice As s.1.2.length cs) ∧ W.cell? ⟨w.heap.size + 1 + 1, 5, none⟩ = some (.slice Bs s.2.length ds) ∧ Hid (Chg [] w1 W) from fun W hc => ⟨(kp.chg hc (fun i hi hm => by simp at hm)).here.cell 0 _ rfl, (kp.chg hc (fun i hi hm => by simp at hm)).here.cell 1 _ rfl, (kp.chg hc (fun i hi hm => by simp at hm)).here.cell 2 _ rfl, (kp.chg hc (fun i hi hm => by simp at hm)).here.cell 3 _ rfl, (kp.chg hc (fun i hi hm => by simp at hm)).here.cell 4 _ rfl, (kp.chg hc (fun i hi hm => by simp at hm)).here.cell 5 _ rfl, Lib.hid hc⟩)
    have BBF := Lib.hid (show ∀ W, Chg [] w1 W → Below w.heap.size w W from fun W hc => below_chg bb1 hc bb1.size (fun i hi => by simp at hi))
    clear kp_c0 kp_c1 kp_c2 kp_c3 kp_c4 kp_c5
    go_region_held3 (fun W => W.cell? ⟨w.heap.size + 1 + 1, 0, none⟩ = some (.bool r.1.1) ∧ W.cell? ⟨w.heap.size + 1 + 1, 1, none⟩ = some (.slice Ar r.1.2.length cr) ∧ W.cell? ⟨w.heap.size + 1 + 1, 2, none⟩ = some (.slice Br r.2.length dr) ∧ W.cell? ⟨w.heap.size + 1 + 1, 3, none⟩ = some (.bool s.1.1) ∧ W.cell? ⟨w.heap.size + 1 + 1, 4, none⟩ = some (.slice As s.1.2.length cs) ∧ W.cell? ⟨w.heap.size + 1 + 1, 5, none⟩ = some (.slice Bs s.2.length ds) ∧ Hid (Chg [] w1 W))
      ((refine KL.out _ ?_; (first | exact HC4.out | exact HC3.out | exact HC2.out | exact HCr.out | exact HC0.out | exact HC4.out.drew1 | exact HC3.out.drew1 | exact HC2.out.drew1 | exact HCr.out.drew1 | exact HC0.out.drew1 | exact HC4.out.trans (Chg.of_below (below_al (Below.refl _ _) _)) | exact HC3.out.trans (Chg.of_below (below_al (Below.refl _ _) _)) | exact HC2.out.trans (Chg.of_below (below_al (Below.refl _ _) _)) | exact HCr.out.trans (Chg.of_below (below_al (Below.refl _ _) _)) | exact HC0.out.trans (Chg.of_below (below_al (Below.refl _ _) _)) | fail)))
      (first
        | (go_at_call 71; (have hBB := (‹_ ∧ _ ∧ _ ∧ _ ∧ _ ∧ _ ∧ Hid (Chg [] w1 _)›).2.2.2.2.2.2); (with_reducible refine ((left_any r s _ HPr.out HPs.out (OQr.out _ (BBF.out _ hBB.out)) (OQs.out _ (BBF.out _ hBB.out))).mono fun _ _ h => newVS_eq EL.out h).mono ?_); rintro e w2 ⟨ul, Sl, rfl, ol, ll, b2⟩; have HC2 := Lib.hid (hBB.out.trans (Chg.of_below b2)); obtain ⟨Al, cl, rfl⟩ := ownS_form ol.here; have HBZ2 := Lib.hid hBB.out.size; clear hBB)
        | (go_at_call 72; (have hBB := (‹_ ∧ _ ∧ _ ∧ _ ∧ _ ∧ _ ∧ Hid (Chg [] w1 _)›).2.2.2.2.2.2); (with_reducible refine ((right_any r s _ HPr.out HPs.out (OQr.out _ (BBF.out _ hBB.out)) (OQs.out _ (BBF.out _ hBB.out))).mono fun _ _ h => newVS_eq ER.out h).mono ?_); rintro e w3 ⟨ur, Sr, rfl, or, lr, b3⟩; have HC3 := Lib.hid (hBB.out.trans (Chg.of_below b3)); (have ol_3 := At.below (by first | exact ol | exact At.below ol (below_al (Below.refl _ _) _) | exact At.below (At.below ol (below_al (Below.refl _ _) _)) (below_al (Below.refl _ _) _) | exact At.move ol (fun _ _ => rfl) (Nat.le_refl _)) b3); obtain ⟨Ar_, cr_, rfl⟩ := ownS_form or.here; have HBZ3 := Lib.hid hBB.out.size; clear hBB)
        | (go_at_call 75; (have hBB := (‹_ ∧ _ ∧ _ ∧ _ ∧ _ ∧ _ ∧ Hid (Chg [] w1 _)›).2.2.2.2.2.2); (with_reducible refine (implIntCmp_any _ _ L R _ hl1 hl2 (At.here (by first | exact ol_3 | exact At.below ol_3 (below_al (Below.refl _ _) _) | exact At.below (At.below ol_3 (below_al (Below.refl _ _) _)) (below_al (Below.refl _ _) _) | exact At.move ol_3 (fun _ _ => rfl) (Nat.le_refl _))) (At.here (by first | exact or | exact At.below or (below_al (Below.refl _ _) _) | exact At.below (At.below or (below_al (Below.refl _ _) _)) (below_al (Below.refl _ _) _) | exact At.move or (fun _ _ => rfl) (Nat.le_refl _)))).mono ?_); rintro e w4 ⟨rfl, b4⟩; have HC4 := Lib.hid (hBB.out.trans (Chg.of_below b4)); (have ol_4 := At.below (by first | exact ol_3 | exact At.below ol_3 (below_al (Below.refl _ _) _) | exact At.below (At.below ol_3 (below_al (Below.refl _ _) _)) (below_al (Below.refl _ _) _) | exact At.move ol_3 (fun _ _ => rfl) (Nat.le_refl _)) b4); (have or_4 := At.below (by first | exact or | exact At.below or (below_al (Below.refl _ _) _) | exact At.below (At.below or (below_al (Below.refl _ _) _)) (below_al (Below.refl _ _) _) | exact At.move or (fun _ _ => rfl) (Nat.le_refl _)) b4); have HBZ4 := Lib.hid hBB.out.size; clear hBB))
    have bb4 := BBF.out _ HC4.out
    replace kr := kr.chg HC4.out (fun i hi hm => by simp at hm)
    replace ks := ks.chg HC4.out (fun i hi hm => by simp at hm)
    replace kp := kp.chg HC4.out (fun i hi hm => by simp at hm)
    have ol := ol_4
    have or := or_4
    go_wp2
    go_ret
    exact ⟨ret_int HV.out, bb4⟩
  · have hok' : (okQ r && okQ s) = false := by simpa using hok
    have HV := Lib.hid (show cmpQ r s = 0 by unfold cmpQ; rw [if_neg (fun h => hok (by rw [h.1, h.2]; rfl))])
    rw [hok']
    clear hok hok'
    go_wp2
    go_ret
    exact ⟨ret_int HV.out.symm, bb1⟩
set_option maxHeartbeats 2000000 in
set_option maxRecDepth 100000 in
theorem implRatSign_any (vr : Value) (r : QI) (w : World) (hzr : szQ r ≤ 1048576) (hr : OwnQ vr r w) (hsen : Sen w) :
    Calls Tryd.prog 38 #[vr] w (Postn (cmpQ r oneQ) w) := by
  have HS := Lib.hid hsen
  clear hsen
  have Hr := Lib.hid hr
  obtain ⟨Ar, cr, Br, dr, rfl⟩ := ownQ_form hr
  have OQr := Lib.hid (show ∀ W, Below w.heap.size w W → OwnQ (.agg #[.bool r.1.1, .slice Ar r.1.2.length cr, .slice Br r.2.length dr]) r W from fun W hb => OwnQ.below Hr.out hb)
  have OUr := Lib.hid (show ∀ W, Below w.heap.size w W → OwnI (.slice Ar r.1.2.length cr) r.1.2 W from fun W hb => (ownQ_open (OQr.out W hb)).2.1)
  have ODr := Lib.hid (show ∀ W, Below w.heap.size w W → OwnI (.slice Br r.2.length dr) r.2 W from fun W hb => (ownQ_open (OQr.out W hb)).2.2.1)
  have OSr := Lib.hid (show ∀ W, Below w.heap.size w W → OwnS (.agg #[.bool r.1.1, .slice Ar r.1.2.length cr]) r.1 W from fun W hb => OwnS.mk (OUr.out W hb))
  clear hr
  have bb0 : Below w.heap.size w (w.alloc (.cells #[.bool r.1.1, .slice Ar r.1.2.length cr, .slice Br r.2.length dr] 31)) := below_al (Below.refl _ _) _
  have kr := (box_new w #[.bool r.1.1, .slice Ar r.1.2.length cr, .slice Br r.2.length dr] 31)
  obtain ⟨W0, hW0⟩ : ∃ W0, W0 = (w.alloc (.cells #[.bool r.1.1, .slice Ar r.1.2.length cr, .slice Br r.2.length dr] 31)) := ⟨_, rfl⟩
  rw [← hW0] at bb0 kr
  have HW0 := Lib.hid hW0
  clear hW0
  obtain ⟨z, hz⟩ : ∃ z, cmpQ r oneQ = z := ⟨_, rfl⟩
  have EZ := Lib.hid hz
  rw [hz]
  clear hz
  go_enter Tryd.func38, Tryd.ntmps38
  have kr_c0 := kr.here.cell 0 _ rfl
  have kr_c1 := kr.here.cell 1 _ rfl
  have kr_c2 := kr.here.cell 2 _ rfl
  go_wp2_with fail
  rw [← HW0.out]
  have HC0 := Lib.hid (show Chg [] W0 W0.drew from (Chg.refl _ _).drew1)
  have HCr := Lib.hid (show Chg [] W0 W0 from Chg.refl _ _)
  have KL := Lib.hid (show ∀ W, Chg [] W0 W → W.cell? ⟨w.heap.size, 0, none⟩ = some (.bool r.1.1) ∧ W.cell? ⟨w.heap.size, 1, none⟩ = some (.slice Ar r.1.2.length cr) ∧ W.cell? ⟨w.heap.size, 2, none⟩ = some (.slice Br r.2.length dr) ∧ Hid (Chg [] W0 W) from fun W hc => ⟨(kr.chg hc (fun i hi hm => by simp at hm)).here.cell 0 _ rfl, (kr.chg hc (fun i hi hm => by simp at hm)).here.cell 1 _ rfl, (kr.chg hc (fun i hi hm => by simp at hm)).here.cell 2 _ rfl, Lib.hid hc⟩)
  have BBF := Lib.hid (show ∀ W, Chg [] W0 W → Below w.heap.size w W from fun W hc => below_chg bb0 hc bb0.size (fun i hi => by simp at hi))
  clear kr_c0 kr_c1 kr_c2
  go_region_held3 (fun W => W.cell? ⟨w.heap.size, 0, none⟩ = some (.bool r.1.1) ∧ W.cell? ⟨w.heap.size, 1, none⟩ = some (.slice Ar r.1.2.length cr) ∧ W.cell? ⟨w.heap.size, 2, none⟩ = some (.slice Br r.2.length dr) ∧ Hid (Chg [] W0 W))
    ((refine KL.out _ ?_; (first | exact HC2.out | exact HC1.out | exact HCr.out | exact HC0.out | exact HC2.out.drew1 | exact HC1.out.drew1 | exact HCr.out.drew1 | exact HC0.out.drew1 | exact HC2.out.trans (Chg.of_below (below_al (Below.refl _ _) _)) | exact HC1.out.trans (Chg.of_below (below_al (Below.refl _ _) _)) | exact HCr.out.trans (Chg.of_below (below_al (Below.refl _ _) _)) | exact HC0.out.trans (Chg.of_below (below_al (Below.refl _ _) _)) | fail)))
    (first
      | (go_at_call 77; (have hBB := (‹_ ∧ _ ∧ _ ∧ Hid (Chg [] W0 _)›).2.2.2); (with_reducible refine (implRatZero_any _).mono ?_); rintro e w1 ⟨uz, Sz, rfl, oz, lz, b1⟩; have HC1 := Lib.hid (hBB.out.trans (Chg.of_below b1)); obtain ⟨Az, cz, Bz, dz, rfl⟩ := ownQ_form oz.here; have HBZ1 := Lib.hid hBB.out.size; clear hBB)
      | (go_at_call 36; (have hBB := (‹_ ∧ _ ∧ _ ∧ Hid (Chg [] W0 _)›).2.2.2); (with_reducible refine ((implRatCmp_any _ _ r oneQ _ hzr (by decide) (OQr.out _ (BBF.out _ hBB.out)) (At.here (by first | exact oz | exact At.below oz (below_al (Below.refl _ _) _) | exact At.below (At.below oz (below_al (Below.refl _ _) _)) (below_al (Below.refl _ _) _) | exact At.move oz (fun _ _ => rfl) (Nat.le_refl _))) (HS.out.below (BBF.out _ hBB.out))).mono fun _ _ h => postn_eq EZ.out h).mono ?_); rintro e w2 ⟨rfl, b2⟩; have HC2 := Lib.hid (hBB.out.trans (Chg.of_below b2)); (have oz_2 := At.below (by first | exact oz | exact At.below oz (below_al (Below.refl _ _) _) | exact At.below (At.below oz (below_al (Below.refl _ _) _)) (below_al (Below.refl _ _) _) | exact At.move oz (fun _ _ => rfl) (Nat.le_refl _)) b2); have HBZ2 := Lib.hid hBB.out.size; clear hBB))
  have bb2 := BBF.out _ HC2.out
  replace kr := kr.chg HC2.out (fun i hi hm => by simp at hm)
  have oz := oz_2
  go_wp2
  go_ret
  exact ⟨rfl, bb2⟩
end Go.Proofs.YtkkdlgiilhngcaaDoor
