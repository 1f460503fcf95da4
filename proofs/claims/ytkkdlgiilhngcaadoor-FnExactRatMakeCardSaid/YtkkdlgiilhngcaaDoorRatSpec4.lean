/-
  Chapter 6 of package spec: RatMake, RatInt, RatZero, RatCmp and RatSign.
-/
import Derived.Test.YtkkdlgiilhngcaaDoorRatSpec2
import Derived.Deep.DeepCutAuto
import Derived.Laws.OwnMore
namespace Go.Proofs.YtkkdlgiilhngcaaDoor
open Go.RowKit

set_option maxHeartbeats 1000000 in
set_option maxRecDepth 100000 in
theorem specRatZero_any (w : World) : Calls Tryd.prog 76 #[] w (NewV (fun v => OwnQ v oneQ) w) := by
  have hs : (w.alloc (.cells #[.bool false, .slice none 0 0, .slice (some ⟨w.heap.size + 1, 0, none⟩) 1 1] 31)).heap.size = w.heap.size + 1 := by simp
  have od : ((w.alloc (.cells #[.bool false, .slice none 0 0, .slice (some ⟨w.heap.size + 1, 0, none⟩) 1 1] 31)).alloc (.cells #[.int .i64 1] 3)).ownsRow w.heap.size 3 1 (.slice (some ⟨w.heap.size + 1, 0, none⟩) 1 1) 1 [.int .i64 1] := by
    have h := World.ownsRow_lit (base := w.heap.size) (e := 3) (size := 1) (w.alloc (.cells #[.bool false, .slice none 0 0, .slice (some ⟨w.heap.size + 1, 0, none⟩) 1 1] 31)) #[.int .i64 1] 1 (by omega) (by unfold maxLen; omega) rfl
    rw [hs] at h
    exact h
  have bb := below_al (below_al (Below.refl w.heap.size w) (.cells #[.bool false, .slice none 0 0, .slice (some ⟨w.heap.size + 1, 0, none⟩) 1 1] 31)) (.cells #[.int .i64 1] 3)
  have HR := Lib.hid (show NewV (fun v => OwnQ v oneQ) w (.returned (.agg #[.bool false, .slice none 0 0, .slice (some ⟨w.heap.size + 1, 0, none⟩) 1 1])) _ from
    ⟨_, _, rfl, partsQ_at (x := oneQ) (World.ownsRow_nil _ 0 _ _) od (fun g hg => by cases hg), (fun g hg => by
      rcases List.mem_append.1 hg with hg | hg
      · cases hg
      · exact own_within od g hg), bb⟩)
  clear od bb hs
  go_enter Tryd.func76, Tryd.ntmps76
  go_wp2
  refine bodyPost_ret (v := .agg #[.bool false, .slice none 0 0, .slice (some ⟨w.heap.size + 1, 0, none⟩) 1 1]) (by simp [results, Tryd.results76, go_sem]) rfl ?_
  exact HR.out
set_option maxHeartbeats 2000000 in
set_option maxRecDepth 100000 in
theorem specRatMake_any (va vb : Value) (a b : SI) (w : World) (hza : szS a ≤ 1048576) (hzb : szS b ≤ 1048576) (ha : OwnS va a w) (hb : OwnS vb b w) :
    Calls Tryd.prog 18 #[va, vb] w (PostQb (makeQ a b).1 (makeQ a b).2 w) := by
  have Ha := Lib.hid ha
  obtain ⟨Aa, ca, rfl⟩ := ownS_form ha
  have OSa := Lib.hid (show ∀ W, Below w.heap.size w W → OwnS (.agg #[.bool a.1, .slice Aa a.2.length ca]) a W from fun W hb => OwnS.below Ha.out hb)
  have OIa := Lib.hid (show ∀ W, Below w.heap.size w W → OwnI (.slice Aa a.2.length ca) a.2 W from fun W hb => ownS_open (OSa.out W hb))
  clear ha
  have Hb := Lib.hid hb
  obtain ⟨Ab, cb, rfl⟩ := ownS_form hb
  have OSb := Lib.hid (show ∀ W, Below w.heap.size w W → OwnS (.agg #[.bool b.1, .slice Ab b.2.length cb]) b W from fun W hb => OwnS.below Hb.out hb)
  have OIb := Lib.hid (show ∀ W, Below w.heap.size w W → OwnI (.slice Ab b.2.length cb) b.2 W from fun W hb => ownS_open (OSb.out W hb))
  clear hb
  have hla : a.2.length ≤ 1048576 := by unfold szS szI at hza; omega
  have hlb : b.2.length ≤ 1048576 := by unfold szS szI at hzb; omega
  clear hza hzb
  have bb0 : Below w.heap.size w (((w.alloc (.cells #[.bool a.1, .slice Aa a.2.length ca] 29)).alloc (.cells #[.bool b.1, .slice Ab b.2.length cb] 29)).alloc (.cells #[.bool false, .slice none 0 0, .slice none 0 0] 31)) := below_al (below_al (below_al (Below.refl _ _) _) _) _
  have ka := (box_new w #[.bool a.1, .slice Aa a.2.length ca] 29).below (below_al (below_al (Below.refl _ _) (.cells #[.bool b.1, .slice Ab b.2.length cb] 29)) (.cells #[.bool false, .slice none 0 0, .slice none 0 0] 31))
  have kb := (box_new (w.alloc (.cells #[.bool a.1, .slice Aa a.2.length ca] 29)) #[.bool b.1, .slice Ab b.2.length cb] 29).below (below_al (Below.refl _ _) (.cells #[.bool false, .slice none 0 0, .slice none 0 0] 31))
  rw [show (w.alloc (.cells #[.bool a.1, .slice Aa a.2.length ca] 29)).heap.size = w.heap.size + 1 by simp] at kb
  have ko := (box_new ((w.alloc (.cells #[.bool a.1, .slice Aa a.2.length ca] 29)).alloc (.cells #[.bool b.1, .slice Ab b.2.length cb] 29)) #[.bool false, .slice none 0 0, .slice none 0 0] 31)
  rw [show ((w.alloc (.cells #[.bool a.1, .slice Aa a.2.length ca] 29)).alloc (.cells #[.bool b.1, .slice Ab b.2.length cb] 29)).heap.size = w.heap.size + 1 + 1 by simp] at ko
  go_enter Tryd.func18, Tryd.ntmps18
  have ka_c0 := ka.here.cell 0 _ rfl
  have ka_c1 := ka.here.cell 1 _ rfl
  go_wp2_with fail
  clear ka_c0 ka_c1
  refine (specIntOk_any _ a _ hla (OwnS.rd (OSa.out _ bb0))).mono ?_
  rintro e w1 ⟨rfl, b1⟩
  have bb1 := Below.next bb0 b1
  replace ka := ka.below b1
  replace kb := kb.below b1
  replace ko := ko.below b1
  by_cases oka : okS a = true
  · rw [oka]
    have HOa := Lib.hid oka
    clear oka
    have kb_c0 := kb.here.cell 0 _ rfl
    have kb_c1 := kb.here.cell 1 _ rfl
    go_wp2_with fail
    clear kb_c0 kb_c1
    refine (specIntOk_any _ b _ hlb (OwnS.rd (OSb.out _ bb1))).mono ?_
    rintro e w2 ⟨rfl, b2⟩
    have bb2 := Below.next bb1 b2
    replace ka := ka.below b2
    replace kb := kb.below b2
    replace ko := ko.below b2
    by_cases okb : okS b = true
    · rw [okb]
      have HOb := Lib.hid okb
      clear okb
      have HKO := Lib.hid (ko.lt (w.heap.size + 1 + 1) (by simp))
      have Ea := Lib.hid (natOk_limbs (okS_parts HOa.out).1)
      have Eb := Lib.hid (natOk_limbs (okS_parts HOb.out).1)
      obtain ⟨Na, hNa⟩ : ∃ Na, (nval a.2).toNat = Na := ⟨_, rfl⟩
      have Ea := Lib.hid (show a.2 = limbs Na by rw [← hNa]; exact natOk_limbs (okS_parts HOa.out).1)
      have La := Lib.hid (show (limbs Na).length ≤ 50 by rw [← Ea.out]; exact (natOk_parts (okS_parts HOa.out).1).2.1)
      obtain ⟨Nb, hNb⟩ : ∃ Nb, (nval b.2).toNat = Nb := ⟨_, rfl⟩
      have Eb := Lib.hid (show b.2 = limbs Nb by rw [← hNb]; exact natOk_limbs (okS_parts HOb.out).1)
      have Lb := Lib.hid (show (limbs Nb).length ≤ 50 by rw [← Eb.out]; exact (natOk_parts (okS_parts HOb.out).1).2.1)
      have HV := Lib.hid (show makeQ a b = lowQ (!(a.1 == b.1)) Na Nb by unfold makeQ; rw [if_pos ⟨HOa.out, HOb.out⟩, hNa, hNb]; rfl)
      clear hNa hNb
      have ka_c0 := ka.here.cell 0 _ rfl
      have ka_c1 := ka.here.cell 1 _ rfl
      have kb_c0 := kb.here.cell 0 _ rfl
      have kb_c1 := kb.here.cell 1 _ rfl
      go_wp2_with fail
      clear ka_c0 ka_c1 kb_c0 kb_c1
      refine (lowX_any _ _ _ a.2 b.2 Na Nb _ La.out Lb.out Ea.out Eb.out (OIa.out _ bb2) (OIb.out _ bb2)).mono ?_
      rintro e w3 ⟨uf, Sf, rfl, of, lf, b3⟩
      obtain ⟨Af, cf, Bf, df, rfl⟩ := ownQ_form of.here
      have bb3 := Below.next bb2 b3
      replace ka := ka.below b3
      replace kb := kb.below b3
      replace ko := ko.below b3
      have HW := Lib.hid (newQb_at (r := w.heap.size + 1 + 1) (b := (lowQ (!(a.1 == b.1)) Na Nb).2) of lf (by have := HKO.out; omega) (by omega) bb3)
      have cz0 := ko.here.cell 0 _ rfl
      have fz0 := Lib.frozen_of_heap ko.here 0
      have cz1 := ko.here.cell 1 _ rfl
      have fz1 := Lib.frozen_of_heap ko.here 1
      have cz2 := ko.here.cell 2 _ rfl
      have fz2 := Lib.frozen_of_heap ko.here 2
      clear of ko
      go_wp2
      refine bodyPost_ret (v := .tuple #[.agg #[.bool _, .slice Af _ cf, .slice Bf _ df], .bool _]) (by simp [results, Tryd.results18, go_sem, cz0, cz1, cz2]; exact ⟨⟨rfl, rfl, rfl⟩, rfl⟩) rfl ?_
      rw [HV.out]
      exact HW.out
    · have okb' : okS b = false := by simpa using okb
      have HV := Lib.hid (show makeQ a b = (zeroQ, false) by unfold makeQ; rw [if_neg (fun h => okb h.2)])
      rw [okb']
      clear okb okb'
      have ko_c0 := ko.here.cell 0 _ rfl
      have ko_c1 := ko.here.cell 1 _ rfl
      have ko_c2 := ko.here.cell 2 _ rfl
      have cz0 := ko.here.cell 0 _ rfl
      have fz0 := Lib.frozen_of_heap ko.here 0
      have cz1 := ko.here.cell 1 _ rfl
      have fz1 := Lib.frozen_of_heap ko.here 1
      have cz2 := ko.here.cell 2 _ rfl
      have fz2 := Lib.frozen_of_heap ko.here 2
      go_wp2
      refine bodyPost_ret (v := .tuple #[.agg #[.bool false, .slice none 0 0, .slice none 0 0], .bool false]) (by simp [results, Tryd.results18, go_sem, cz0, cz1, cz2]) rfl ?_
      rw [HV.out]
      first | exact newQb_zero _ bb2 | exact newQb_zero _ (below_set3 bb2 (by omega))
  · have oka' : okS a = false := by simpa using oka
    have HV := Lib.hid (show makeQ a b = (zeroQ, false) by unfold makeQ; rw [if_neg (fun h => oka h.1)])
    rw [oka']
    clear oka oka'
    have ko_c0 := ko.here.cell 0 _ rfl
    have ko_c1 := ko.here.cell 1 _ rfl
    have ko_c2 := ko.here.cell 2 _ rfl
    have cz0 := ko.here.cell 0 _ rfl
    have fz0 := Lib.frozen_of_heap ko.here 0
    have cz1 := ko.here.cell 1 _ rfl
    have fz1 := Lib.frozen_of_heap ko.here 1
    have cz2 := ko.here.cell 2 _ rfl
    have fz2 := Lib.frozen_of_heap ko.here 2
    go_wp2
    refine bodyPost_ret (v := .tuple #[.agg #[.bool false, .slice none 0 0, .slice none 0 0], .bool false]) (by simp [results, Tryd.results18, go_sem, cz0, cz1, cz2]) rfl ?_
    rw [HV.out]
    first | exact newQb_zero _ bb1 | exact newQb_zero _ (below_set3 bb1 (by omega))
set_option maxHeartbeats 2000000 in
set_option maxRecDepth 100000 in
theorem specRatInt_any (va : Value) (a : SI) (w : World) (hza : szS a ≤ 1048576) (ha : OwnS va a w) :
    Calls Tryd.prog 25 #[va] w (PostQb (makeQ a (ofZ 1)).1 (makeQ a (ofZ 1)).2 w) := by
  have Ha := Lib.hid ha
  obtain ⟨Aa, ca, rfl⟩ := ownS_form ha
  have OSa := Lib.hid (show ∀ W, Below w.heap.size w W → OwnS (.agg #[.bool a.1, .slice Aa a.2.length ca]) a W from fun W hb => OwnS.below Ha.out hb)
  have OIa := Lib.hid (show ∀ W, Below w.heap.size w W → OwnI (.slice Aa a.2.length ca) a.2 W from fun W hb => ownS_open (OSa.out W hb))
  clear ha
  have bb0 : Below w.heap.size w ((w.alloc (.cells #[.bool a.1, .slice Aa a.2.length ca] 29)).alloc (.cells #[.bool false, .slice none 0 0, .slice none 0 0] 31)) := below_al (below_al (Below.refl _ _) _) _
  have ka := (box_new w #[.bool a.1, .slice Aa a.2.length ca] 29).below (below_al (Below.refl _ _) (.cells #[.bool false, .slice none 0 0, .slice none 0 0] 31))
  have ko := (box_new (w.alloc (.cells #[.bool a.1, .slice Aa a.2.length ca] 29)) #[.bool false, .slice none 0 0, .slice none 0 0] 31)
  rw [show (w.alloc (.cells #[.bool a.1, .slice Aa a.2.length ca] 29)).heap.size = w.heap.size + 1 by simp] at ko
  have HKO := Lib.hid (ko.lt (w.heap.size + 1) (by simp))
  obtain ⟨Q, hQ⟩ : ∃ Q, makeQ a (ofZ 1) = Q := ⟨_, rfl⟩
  have EQ := Lib.hid hQ
  rw [hQ]
  clear hQ
  obtain ⟨W0, hW0⟩ : ∃ W0, W0 = ((w.alloc (.cells #[.bool a.1, .slice Aa a.2.length ca] 29)).alloc (.cells #[.bool false, .slice none 0 0, .slice none 0 0] 31)) := ⟨_, rfl⟩
  rw [← hW0] at bb0 ka ko HKO
  have HW0 := Lib.hid hW0
  clear hW0
  have hz0 := HKO.out
  go_enter Tryd.func25, Tryd.ntmps25
  have ka_c0 := ka.here.cell 0 _ rfl
  have ka_c1 := ka.here.cell 1 _ rfl
  go_wp2_with fail
  rw [← HW0.out]
  have HC0 := Lib.hid (show Chg [w.heap.size + 1] W0 W0.drew from (Chg.refl _ _).drew1)
  have HCr := Lib.hid (show Chg [w.heap.size + 1] W0 W0 from Chg.refl _ _)
  have KL := Lib.hid (show ∀ W, Chg [w.heap.size + 1] W0 W → W.cell? ⟨w.heap.size, 0, none⟩ = some (.bool a.1) ∧ W.cell? ⟨w.heap.size, 1, none⟩ = some (.slice Aa a.2.length ca) ∧ Hid (Chg [w.heap.size + 1] W0 W) from fun W hc => ⟨(ka.chg hc (fun i hi hm => by simp at hi hm; omega)).here.cell 0 _ rfl, (ka.chg hc (fun i hi hm => by simp at hi hm; omega)).here.cell 1 _ rfl, Lib.hid hc⟩)
  have BBF := Lib.hid (show ∀ W, Chg [w.heap.size + 1] W0 W → Below w.heap.size w W from fun W hc => below_chg bb0 hc bb0.size (fun i hi => by simp at hi; omega))
  clear ka_c0 ka_c1
  go_region_held3 (fun W => W.cell? ⟨w.heap.size, 0, none⟩ = some (.bool a.1) ∧ W.cell? ⟨w.heap.size, 1, none⟩ = some (.slice Aa a.2.length ca) ∧ Hid (Chg [w.heap.size + 1] W0 W))
    ((refine KL.out _ ?_; (first | exact HC2.out | exact HC1.out | exact HCr.out | exact HC0.out | exact HC2.out.drew1 | exact HC1.out.drew1 | exact HCr.out.drew1 | exact HC0.out.drew1 | exact HC2.out.trans (Chg.of_below (below_al (Below.refl _ _) _)) | exact HC1.out.trans (Chg.of_below (below_al (Below.refl _ _) _)) | exact HCr.out.trans (Chg.of_below (below_al (Below.refl _ _) _)) | exact HC0.out.trans (Chg.of_below (below_al (Below.refl _ _) _)) | exact (Chg.setCell HC2.out (by simp) _) | exact (Chg.setCell (Chg.setCell HC2.out (by simp) _) (by simp) _) | exact (Chg.setCell (Chg.setCell (Chg.setCell HC2.out (by simp) _) (by simp) _) (by simp) _) | fail)))
    (first
      | (go_at_call 59; (have hBB := (‹_ ∧ _ ∧ Hid (Chg [w.heap.size + 1] W0 _)›).2.2); (with_reducible refine ((specIntOf_any 1 _ (by decide) (by decide)).mono fun _ _ h => NewS.newV h).mono ?_); rintro e w1 ⟨ui, Si, rfl, oi, li, b1⟩; have HC1 := Lib.hid (hBB.out.trans (Chg.of_below b1)); (have ko_1 := At.below (by first | exact ko | exact At.below ko (below_al (Below.refl _ _) _) | exact At.below (At.below ko (below_al (Below.refl _ _) _)) (below_al (Below.refl _ _) _) | exact At.move ko (fun _ _ => rfl) (Nat.le_refl _)) b1); obtain ⟨Ai, ci, rfl⟩ := ownS_form oi.here; have HBZ1 := Lib.hid hBB.out.size; clear hBB)
      | (go_at_call 18; (have hBB := (‹_ ∧ _ ∧ Hid (Chg [w.heap.size + 1] W0 _)›).2.2); (with_reducible refine ((specRatMake_any _ _ a (ofZ 1) _ hza one_szS (OSa.out _ (BBF.out _ hBB.out)) (At.here (by first | exact oi | exact At.below oi (below_al (Below.refl _ _) _) | exact At.below (At.below oi (below_al (Below.refl _ _) _)) (below_al (Below.refl _ _) _) | exact At.move oi (fun _ _ => rfl) (Nat.le_refl _)))).mono fun _ _ h => postQb_eq EQ.out h).mono ?_); rintro e w2 ⟨uf, Sf, rfl, of, lf, b2⟩; have HC2 := Lib.hid (hBB.out.trans (Chg.of_below b2)); (have ko_2 := At.below (by first | exact ko_1 | exact At.below ko_1 (below_al (Below.refl _ _) _) | exact At.below (At.below ko_1 (below_al (Below.refl _ _) _)) (below_al (Below.refl _ _) _) | exact At.move ko_1 (fun _ _ => rfl) (Nat.le_refl _)) b2); (have oi_2 := At.below (by first | exact oi | exact At.below oi (below_al (Below.refl _ _) _) | exact At.below (At.below oi (below_al (Below.refl _ _) _)) (below_al (Below.refl _ _) _) | exact At.move oi (fun _ _ => rfl) (Nat.le_refl _)) b2); obtain ⟨Af, cf, Bf, df, rfl⟩ := ownQ_form of.here; have cz0 := ko_2.here.cell 0 _ rfl; have fz0 := Lib.frozen_of_heap ko_2.here 0; have cz1 := ko_2.here.cell 1 _ rfl; have fz1 := Lib.frozen_of_heap ko_2.here 1; have cz2 := ko_2.here.cell 2 _ rfl; have fz2 := Lib.frozen_of_heap ko_2.here 2; have HBZ2 := Lib.hid hBB.out.size; clear hBB))
  have bb2 := BBF.out _ HC2.out
  replace ka := ka.chg HC2.out (fun i hi hm => by simp at hi hm; omega)
  replace ko := ko_2
  have oi := oi_2
  have HW := Lib.hid (newQb_at (r := w.heap.size + 1) (b := Q.2) of lf (by have := HBZ2.out; omega) (by omega) bb2)
  clear of ko ka oi
  go_wp2
  refine bodyPost_ret (v := .tuple #[.agg #[.bool _, .slice Af _ cf, .slice Bf _ df], .bool _]) (by simp [results, Tryd.results25, go_sem, cz0, cz1, cz2]; exact ⟨⟨rfl, rfl, rfl⟩, rfl⟩) rfl ?_
  exact HW.out
set_option maxHeartbeats 2000000 in
set_option maxRecDepth 100000 in
theorem specRatCmp_any (vr : Value) (vs : Value) (r s : QI) (w : World) (hzr : szQ r ≤ 1048576) (hzs : szQ s ≤ 1048576) (hr : OwnQ vr r w) (hs : OwnQ vs s w) :
    Calls Tryd.prog 35 #[vr, vs] w (Postn (cmpQ r s) w) := by
  have Hr := Lib.hid hr
  obtain ⟨Ar, cr, Br, dr, rfl⟩ := ownQ_form hr
  have OQr := Lib.hid (show ∀ W, Below w.heap.size w W → OwnQ (.agg #[.bool r.1.1, .slice Ar r.1.2.length cr, .slice Br r.2.length dr]) r W from fun W hb => OwnQ.below Hr.out hb)
  have OUr := Lib.hid (show ∀ W, Below w.heap.size w W → OwnI (.slice Ar r.1.2.length cr) r.1.2 W from fun W hb => (ownQ_open (OQr.out W hb)).2.1)
  have ODr := Lib.hid (show ∀ W, Below w.heap.size w W → OwnI (.slice Br r.2.length dr) r.2 W from fun W hb => (ownQ_open (OQr.out W hb)).2.2.1)
  have OSr := Lib.hid (show ∀ W, Below w.heap.size w W → OwnS (.agg #[.bool r.1.1, .slice Ar r.1.2.length cr]) r.1 W from fun W hb => OwnS.mk (OUr.out W hb))
  clear hr
  have Hs := Lib.hid hs
  obtain ⟨As, cs, Bs, ds, rfl⟩ := ownQ_form hs
  have OQs := Lib.hid (show ∀ W, Below w.heap.size w W → OwnQ (.agg #[.bool s.1.1, .slice As s.1.2.length cs, .slice Bs s.2.length ds]) s W from fun W hb => OwnQ.below Hs.out hb)
  have OUs := Lib.hid (show ∀ W, Below w.heap.size w W → OwnI (.slice As s.1.2.length cs) s.1.2 W from fun W hb => (ownQ_open (OQs.out W hb)).2.1)
  have ODs := Lib.hid (show ∀ W, Below w.heap.size w W → OwnI (.slice Bs s.2.length ds) s.2 W from fun W hb => (ownQ_open (OQs.out W hb)).2.2.1)
  have OSs := Lib.hid (show ∀ W, Below w.heap.size w W → OwnS (.agg #[.bool s.1.1, .slice As s.1.2.length cs]) s.1 W from fun W hb => OwnS.mk (OUs.out W hb))
  clear hs
  have hlr := szQ_len hzr
  have hl1r := hlr.1
  have hl2r := hlr.2
  clear hlr
  have hls := szQ_len hzs
  have hl1s := hls.1
  have hl2s := hls.2
  clear hls
  have bb0 : Below w.heap.size w ((w.alloc (.cells #[.bool r.1.1, .slice Ar r.1.2.length cr, .slice Br r.2.length dr] 31)).alloc (.cells #[.bool s.1.1, .slice As s.1.2.length cs, .slice Bs s.2.length ds] 31)) := below_al (below_al (Below.refl _ _) _) _
  have kr := (box_new w #[.bool r.1.1, .slice Ar r.1.2.length cr, .slice Br r.2.length dr] 31).below (below_al (Below.refl _ _) (.cells #[.bool s.1.1, .slice As s.1.2.length cs, .slice Bs s.2.length ds] 31))
  have ks := (box_new (w.alloc (.cells #[.bool r.1.1, .slice Ar r.1.2.length cr, .slice Br r.2.length dr] 31)) #[.bool s.1.1, .slice As s.1.2.length cs, .slice Bs s.2.length ds] 31)
  rw [show (w.alloc (.cells #[.bool r.1.1, .slice Ar r.1.2.length cr, .slice Br r.2.length dr] 31)).heap.size = w.heap.size + 1 by simp] at ks
  go_enter Tryd.func35, Tryd.ntmps35
  have kr_c0 := kr.here.cell 0 _ rfl
  have kr_c1 := kr.here.cell 1 _ rfl
  have kr_c2 := kr.here.cell 2 _ rfl
  go_wp2_with fail
  clear kr_c0 kr_c1 kr_c2
  refine (specRatOk_any _ r _ hzr (OQr.out _ bb0)).mono ?_
  rintro e w1 ⟨rfl, b1⟩
  have bb1 := Below.next bb0 b1
  replace kr := kr.below b1
  replace ks := ks.below b1
  by_cases okr : okQ r = true
  · rw [okr]
    have HOr := Lib.hid okr
    clear okr
    have ks_c0 := ks.here.cell 0 _ rfl
    have ks_c1 := ks.here.cell 1 _ rfl
    have ks_c2 := ks.here.cell 2 _ rfl
    go_wp2_with fail
    clear ks_c0 ks_c1 ks_c2
    refine (specRatOk_any _ s _ hzs (OQs.out _ bb1)).mono ?_
    rintro e w2 ⟨rfl, b2⟩
    have bb2 := Below.next bb1 b2
    replace kr := kr.below b2
    replace ks := ks.below b2
    by_cases oks : okQ s = true
    · rw [oks]
      have HOs := Lib.hid oks
      clear oks
      have Pr := parts_of HOr.out
      have Ps := parts_of HOs.out
      have HPr := Lib.hid Pr
      have HPs := Lib.hid Ps
      have hnr := Pr.n50
      have hns := Ps.n50
      have hdr := Pr.d50
      have hds := Ps.d50
      clear Pr Ps
      obtain ⟨X1, hEX1⟩ : ∃ X1, (nval (r.1.2) * nval (s.2)).toNat = X1 := ⟨_, rfl⟩
      have EX1 := Lib.hid hEX1
      have PX1 := Lib.hid (show X1 = topN r * denQ s by rw [← hEX1, mul_toNat (okS_parts HPr.out.okn).1 HPs.out.okd]; rfl)
      have LX1 := Lib.hid (show (limbs X1).length ≤ 36 by rw [PX1.out]; exact prod_len HPr.out.nlt HPs.out.dlt)
      clear hEX1
      obtain ⟨X2, hEX2⟩ : ∃ X2, (nval (s.1.2) * nval (r.2)).toNat = X2 := ⟨_, rfl⟩
      have EX2 := Lib.hid hEX2
      have PX2 := Lib.hid (show X2 = topN s * denQ r by rw [← hEX2, mul_toNat (okS_parts HPs.out.okn).1 HPr.out.okd]; rfl)
      have LX2 := Lib.hid (show (limbs X2).length ≤ 36 by rw [PX2.out]; exact prod_len HPs.out.nlt HPr.out.dlt)
      clear hEX2
      obtain ⟨P1, hEP1⟩ : ∃ P1, mkS r.1.1 (limbs X1) = P1 := ⟨_, rfl⟩
      have EP1 := Lib.hid hEP1
      have VP1 := Lib.hid (show okS P1 = true ∧ valS P1 = numQ r * denQ s ∧ P1.2.length ≤ 50 ∧ -(bp 36) < valS P1 ∧ valS P1 < bp 36 by
        rw [← hEP1, PX1.out]
        have h1 := cross_ofZ (n := r.1.1) (X := topN r) (Y := denQ s)
        have h2 := cross_val (n := r.1.1) HPr.out.nlt HPs.out.dlt
        have h3 := cross_lt (n := r.1.1) HPr.out.nlt HPs.out.dlt
        have h4 : valS (mkS r.1.1 (limbs (topN r * denQ s))) = numQ r * denQ s := by rw [h2, HPr.out.top]
        exact ⟨h1.2.1, h4, h1.2.2, by rw [h2]; exact h3.1, by rw [h2]; exact h3.2⟩)
      clear hEP1
      obtain ⟨P2, hEP2⟩ : ∃ P2, mkS s.1.1 (limbs X2) = P2 := ⟨_, rfl⟩
      have EP2 := Lib.hid hEP2
      have VP2 := Lib.hid (show okS P2 = true ∧ valS P2 = numQ s * denQ r ∧ P2.2.length ≤ 50 ∧ -(bp 36) < valS P2 ∧ valS P2 < bp 36 by
        rw [← hEP2, PX2.out]
        have h1 := cross_ofZ (n := s.1.1) (X := topN s) (Y := denQ r)
        have h2 := cross_val (n := s.1.1) HPs.out.nlt HPr.out.dlt
        have h3 := cross_lt (n := s.1.1) HPs.out.nlt HPr.out.dlt
        have h4 : valS (mkS s.1.1 (limbs (topN s * denQ r))) = numQ s * denQ r := by rw [h2, HPs.out.top]
        exact ⟨h1.2.1, h4, h1.2.2, by rw [h2]; exact h3.1, by rw [h2]; exact h3.2⟩)
      clear hEP2
      have HV := Lib.hid (show cmpQ r s = cmpS P1 P2 by unfold cmpQ cmpS; rw [if_pos ⟨HOr.out, HOs.out⟩, if_pos ⟨VP1.out.1, VP2.out.1⟩, VP1.out.2.1, VP2.out.2.1])
      have kr_c0 := kr.here.cell 0 _ rfl
      have kr_c1 := kr.here.cell 1 _ rfl
      have kr_c2 := kr.here.cell 2 _ rfl
      have ks_c0 := ks.here.cell 0 _ rfl
      have ks_c1 := ks.here.cell 1 _ rfl
      have ks_c2 := ks.here.cell 2 _ rfl
      go_wp2_with fail
      have HC0 := Lib.hid (show Chg [] w2 w2.drew from (Chg.refl _ _).drew1)
      have HCr := Lib.hid (show Chg [] w2 w2 from Chg.refl _ _)
      have KL := Lib.hid (show ∀ W, Chg [] w2 W → W.cell? ⟨w.heap.size, 0, none⟩ = some (.bool r.1.1) ∧ W.cell? ⟨w.heap.size, 1, none⟩ = some (.slice Ar r.1.2.length cr) ∧ W.cell? ⟨w.heap.size, 2, none⟩ = some (.slice Br r.2.length dr) ∧ W.cell? ⟨w.heap.size + 1, 0, none⟩ = some (.bool s.1.1) ∧ W.cell? ⟨w.heap.size + 1, 1, none⟩ = some (.slice As s.1.2.length cs) ∧ W.cell? ⟨w.heap.size + 1, 2, none⟩ = some (.slice Bs s.2.length ds) ∧ Hid (Chg [] w2 W) from fun W hc => ⟨(kr.chg hc (fun i hi hm => by simp at hm)).here.cell 0 _ rfl, (kr.chg hc (fun i hi hm => by simp at hm)).here.cell 1 _ rfl, (kr.chg hc (fun i hi hm => by simp at hm)).here.cell 2 _ rfl, (ks.chg hc (fun i hi hm => by simp at hm)).here.cell 0 _ rfl, (ks.chg hc (fun i hi hm => by simp at hm)).here.cell 1 _ rfl, (ks.chg hc (fun i hi hm => by simp at hm)).here.cell 2 _ rfl, Lib.hid hc⟩)
      have BBF := Lib.hid (show ∀ W, Chg [] w2 W → Below w.heap.size w W from fun W hc => below_chg bb2 hc bb2.size (fun i hi => by simp at hi))
      clear kr_c0 kr_c1 kr_c2 ks_c0 ks_c1 ks_c2
      go_region_held3 (fun W => W.cell? ⟨w.heap.size, 0, none⟩ = some (.bool r.1.1) ∧ W.cell? ⟨w.heap.size, 1, none⟩ = some (.slice Ar r.1.2.length cr) ∧ W.cell? ⟨w.heap.size, 2, none⟩ = some (.slice Br r.2.length dr) ∧ W.cell? ⟨w.heap.size + 1, 0, none⟩ = some (.bool s.1.1) ∧ W.cell? ⟨w.heap.size + 1, 1, none⟩ = some (.slice As s.1.2.length cs) ∧ W.cell? ⟨w.heap.size + 1, 2, none⟩ = some (.slice Bs s.2.length ds) ∧ Hid (Chg [] w2 W))
        ((refine KL.out _ ?_; (first | exact HC7.out | exact HC6.out | exact HC5.out | exact HC4.out | exact HC3.out | exact HCr.out | exact HC0.out | exact HC7.out.drew1 | exact HC6.out.drew1 | exact HC5.out.drew1 | exact HC4.out.drew1 | exact HC3.out.drew1 | exact HCr.out.drew1 | exact HC0.out.drew1 | exact HC7.out.trans (Chg.of_below (below_al (Below.refl _ _) _)) | exact HC6.out.trans (Chg.of_below (below_al (Below.refl _ _) _)) | exact HC5.out.trans (Chg.of_below (below_al (Below.refl _ _) _)) | exact HC4.out.trans (Chg.of_below (below_al (Below.refl _ _) _)) | exact HC3.out.trans (Chg.of_below (below_al (Below.refl _ _) _)) | exact HCr.out.trans (Chg.of_below (below_al (Below.refl _ _) _)) | exact HC0.out.trans (Chg.of_below (below_al (Below.refl _ _) _)) | fail)))
        (first
          | (go_at_call 62; (have hBB := (‹_ ∧ _ ∧ _ ∧ _ ∧ _ ∧ _ ∧ Hid (Chg [] w2 _)›).2.2.2.2.2.2); (with_reducible refine (mulX_any _ _ (r.1.2) (s.2) X1 _ hnr hds ((okS_parts HPr.out.okn).1) (HPs.out.okd) EX1.out (OUr.out _ (BBF.out _ hBB.out)) (ODs.out _ (BBF.out _ hBB.out))).mono ?_); rintro e w3 ⟨um1, Sm1, rfl, om1, lm1, b3⟩; have HC3 := Lib.hid (hBB.out.trans (Chg.of_below b3)); obtain ⟨Em1, em1, rfl⟩ := own_len om1.here; have HBZ3 := Lib.hid hBB.out.size; clear hBB)
          | (go_at_call 61; (have hBB := (‹_ ∧ _ ∧ _ ∧ _ ∧ _ ∧ _ ∧ Hid (Chg [] w2 _)›).2.2.2.2.2.2); (with_reducible refine (makeX_any _ _ X1 P1 _ (Nat.le_trans LX1.out (by decide)) EP1.out (At.here (by first | exact om1 | exact At.below om1 (below_al (Below.refl _ _) _) | exact At.below (At.below om1 (below_al (Below.refl _ _) _)) (below_al (Below.refl _ _) _) | exact At.move om1 (fun _ _ => rfl) (Nat.le_refl _)))).mono ?_); rintro e w4 ⟨uf1, Sf1, rfl, of1, lf1, b4⟩; have HC4 := Lib.hid (hBB.out.trans (Chg.of_below b4)); (have om1_4 := At.below (by first | exact om1 | exact At.below om1 (below_al (Below.refl _ _) _) | exact At.below (At.below om1 (below_al (Below.refl _ _) _)) (below_al (Below.refl _ _) _) | exact At.move om1 (fun _ _ => rfl) (Nat.le_refl _)) b4); obtain ⟨Af1, cf1, rfl⟩ := ownS_form of1.here; have HBZ4 := Lib.hid hBB.out.size; clear hBB)
          | (go_at_call 62; (have hBB := (‹_ ∧ _ ∧ _ ∧ _ ∧ _ ∧ _ ∧ Hid (Chg [] w2 _)›).2.2.2.2.2.2); (with_reducible refine (mulX_any _ _ (s.1.2) (r.2) X2 _ hns hdr ((okS_parts HPs.out.okn).1) (HPr.out.okd) EX2.out (OUs.out _ (BBF.out _ hBB.out)) (ODr.out _ (BBF.out _ hBB.out))).mono ?_); rintro e w5 ⟨um2, Sm2, rfl, om2, lm2, b5⟩; have HC5 := Lib.hid (hBB.out.trans (Chg.of_below b5)); (have om1_5 := At.below (by first | exact om1_4 | exact At.below om1_4 (below_al (Below.refl _ _) _) | exact At.below (At.below om1_4 (below_al (Below.refl _ _) _)) (below_al (Below.refl _ _) _) | exact At.move om1_4 (fun _ _ => rfl) (Nat.le_refl _)) b5); (have of1_5 := At.below (by first | exact of1 | exact At.below of1 (below_al (Below.refl _ _) _) | exact At.below (At.below of1 (below_al (Below.refl _ _) _)) (below_al (Below.refl _ _) _) | exact At.move of1 (fun _ _ => rfl) (Nat.le_refl _)) b5); obtain ⟨Em2, em2, rfl⟩ := own_len om2.here; have HBZ5 := Lib.hid hBB.out.size; clear hBB)
          | (go_at_call 61; (have hBB := (‹_ ∧ _ ∧ _ ∧ _ ∧ _ ∧ _ ∧ Hid (Chg [] w2 _)›).2.2.2.2.2.2); (with_reducible refine (makeX_any _ _ X2 P2 _ (Nat.le_trans LX2.out (by decide)) EP2.out (At.here (by first | exact om2 | exact At.below om2 (below_al (Below.refl _ _) _) | exact At.below (At.below om2 (below_al (Below.refl _ _) _)) (below_al (Below.refl _ _) _) | exact At.move om2 (fun _ _ => rfl) (Nat.le_refl _)))).mono ?_); rintro e w6 ⟨uf2, Sf2, rfl, of2, lf2, b6⟩; have HC6 := Lib.hid (hBB.out.trans (Chg.of_below b6)); (have om1_6 := At.below (by first | exact om1_5 | exact At.below om1_5 (below_al (Below.refl _ _) _) | exact At.below (At.below om1_5 (below_al (Below.refl _ _) _)) (below_al (Below.refl _ _) _) | exact At.move om1_5 (fun _ _ => rfl) (Nat.le_refl _)) b6); (have of1_6 := At.below (by first | exact of1_5 | exact At.below of1_5 (below_al (Below.refl _ _) _) | exact At.below (At.below of1_5 (below_al (Below.refl _ _) _)) (below_al (Below.refl _ _) _) | exact At.move of1_5 (fun _ _ => rfl) (Nat.le_refl _)) b6); (have om2_6 := At.below (by first | exact om2 | exact At.below om2 (below_al (Below.refl _ _) _) | exact At.below (At.below om2 (below_al (Below.refl _ _) _)) (below_al (Below.refl _ _) _) | exact At.move om2 (fun _ _ => rfl) (Nat.le_refl _)) b6); obtain ⟨Af2, cf2, rfl⟩ := ownS_form of2.here; have HBZ6 := Lib.hid hBB.out.size; clear hBB)
          | (go_at_call 73; (have hBB := (‹_ ∧ _ ∧ _ ∧ _ ∧ _ ∧ _ ∧ Hid (Chg [] w2 _)›).2.2.2.2.2.2); (with_reducible refine (specIntCmp_any _ _ P1 P2 _ (Nat.le_trans VP1.out.2.2.1 (by decide)) (Nat.le_trans VP2.out.2.2.1 (by decide)) (At.here (by first | exact of1_6 | exact At.below of1_6 (below_al (Below.refl _ _) _) | exact At.below (At.below of1_6 (below_al (Below.refl _ _) _)) (below_al (Below.refl _ _) _) | exact At.move of1_6 (fun _ _ => rfl) (Nat.le_refl _))) (At.here (by first | exact of2 | exact At.below of2 (below_al (Below.refl _ _) _) | exact At.below (At.below of2 (below_al (Below.refl _ _) _)) (below_al (Below.refl _ _) _) | exact At.move of2 (fun _ _ => rfl) (Nat.le_refl _)))).mono ?_); rintro e w7 ⟨rfl, b7⟩; have HC7 := Lib.hid (hBB.out.trans (Chg.of_below b7)); (have om1_7 := At.below (by first | exact om1_6 | exact At.below om1_6 (below_al (Below.refl _ _) _) | exact At.below (At.below om1_6 (below_al (Below.refl _ _) _)) (below_al (Below.refl _ _) _) | exact At.move om1_6 (fun _ _ => rfl) (Nat.le_refl _)) b7); (have of1_7 := At.below (by first | exact of1_6 | exact At.below of1_6 (below_al (Below.refl _ _) _) | exact At.below (At.below of1_6 (below_al (Below.refl _ _) _)) (below_al (Below.refl _ _) _) | exact At.move of1_6 (fun _ _ => rfl) (Nat.le_refl _)) b7); (have om2_7 := At.below (by first | exact om2_6 | exact At.below om2_6 (below_al (Below.refl _ _) _) | exact At.below (At.below om2_6 (below_al (Below.refl _ _) _)) (below_al (Below.refl _ _) _) | exact At.move om2_6 (fun _ _ => rfl) (Nat.le_refl _)) b7); (have of2_7 := At.below (by first | exact of2 | exact At.below of2 (below_al (Below.refl _ _) _) | exact At.below (At.below of2 (below_al (Below.refl _ _) _)) (below_al (Below.refl _ _) _) | exact At.move of2 (fun _ _ => rfl) (Nat.le_refl _)) b7); have HBZ7 := Lib.hid hBB.out.size; clear hBB))
      have bb7 := BBF.out _ HC7.out
      replace kr := kr.chg HC7.out (fun i hi hm => by simp at hm)
      replace ks := ks.chg HC7.out (fun i hi hm => by simp at hm)
      have om1 := om1_7
      have of1 := of1_7
      have om2 := om2_7
      have of2 := of2_7
      go_wp2
      go_ret
      exact ⟨ret_int HV.out.symm, bb7⟩
    · have oks' : okQ s = false := by simpa using oks
      have HV := Lib.hid (show cmpQ r s = 0 by unfold cmpQ; rw [if_neg (fun h => oks h.2)])
      rw [oks']
      clear oks oks'
      go_wp2
      go_ret
      exact ⟨ret_int HV.out.symm, bb2⟩
  · have okr' : okQ r = false := by simpa using okr
    have HV := Lib.hid (show cmpQ r s = 0 by unfold cmpQ; rw [if_neg (fun h => okr h.1)])
    rw [okr']
    clear okr okr'
    go_wp2
    go_ret
    exact ⟨ret_int HV.out.symm, bb1⟩
set_option maxHeartbeats 2000000 in
set_option maxRecDepth 100000 in
theorem specRatSign_any (vr : Value) (r : QI) (w : World) (hzr : szQ r ≤ 1048576) (hr : OwnQ vr r w) :
    Calls Tryd.prog 37 #[vr] w (Postn (cmpQ r oneQ) w) := by
  have Hr := Lib.hid hr
  obtain ⟨Ar, cr, Br, dr, rfl⟩ := ownQ_form hr
  have OQr := Lib.hid (show ∀ W, Below w.heap.size w W → OwnQ (.agg #[.bool r.1.1, .slice Ar r.1.2.length cr, .slice Br r.2.length dr]) r W from fun W hb => OwnQ.below Hr.out hb)
  have OUr := Lib.hid (show ∀ W, Below w.heap.size w W → OwnI (.slice Ar r.1.2.length cr) r.1.2 W from fun W hb => (ownQ_open (OQr.out W hb)).2.1)
  have ODr := Lib.hid (show ∀ W, Below w.heap.size w W → OwnI (.slice Br r.2.length dr) r.2 W from fun W hb => (ownQ_open (OQr.out W hb)).2.2.1)
  have OSr := Lib.hid (show ∀ W, Below w.heap.size w W → OwnS (.agg #[.bool r.1.1, .slice Ar r.1.2.length cr]) r.1 W from fun W hb => OwnS.mk (OUr.out W hb))
  clear hr
  have bb0 : Below w.heap.size w (w.alloc (.cells #[.bool r.1.1, .slice Ar r.1.2.length cr, .slice Br r.2.length dr] 31)) := below_al (Below.refl _ _) _
  have kr := (box_new w #[.bool r.1.1, .slice Ar r.1.2.length cr, .slice Br r.2.length dr] 31)
  obtain ⟨W0, hW0⟩ : ∃ W0, W0 = (w.alloc (.cells #[.bool r.1.1, .slice Ar r.1.2.length cr, .slice Br r.2.length dr] 31)) := ⟨_, rfl⟩
  rw [← hW0] at bb0 kr
  have HW0 := Lib.hid hW0
  clear hW0
  obtain ⟨z, hz⟩ : ∃ z, cmpQ r oneQ = z := ⟨_, rfl⟩
  have EZ := Lib.hid hz
  rw [hz]
  clear hz
  go_enter Tryd.func37, Tryd.ntmps37
  have kr_c0 := kr.here.cell 0 _ rfl
  have kr_c1 := kr.here.cell 1 _ rfl
  have kr_c2 := kr.here.cell 2 _ rfl
  go_wp2_with fail
  rw [← HW0.out]
  have HC0 := Lib.hid (show Chg [] W0 W0.drew from (Chg.refl _ _).drew1)
  have HCr := Lib.hid (show Chg [] W0 W0 from Chg.refl _ _)
  have KL := Lib.hid (show ∀ W, Chg [] W0 W → W.cell? ⟨w.heap.size, 0, none⟩ = some (.bool r.1.1) ∧ W.cell? ⟨w.heap.size, 1, none⟩ = some (.slice Ar r.1.2.length cr) ∧ W.cell? ⟨w.heap.size, 2, none⟩ = some (.slice Br r.2.length dr) ∧ Hid (Chg [] W0 W) from fun W hc => ⟨(kr.chg hc (fun i hi hm => by simp at hm)).here.cell 0 _ rfl, (kr.chg hc (fun i hi hm => by simp at hm)).here.cell 1 _ rfl, (kr.chg hc (fun i hi hm => by simp at hm)).here.cell 2 _ rfl, Lib.hid hc⟩)
  have BBF := Lib.hid (show ∀ W, Chg [] W0 W → Below w.heap.size w W from fun W hc => below_chg bb0 hc bb0.size (fun i hi => by simp at hi))
  clear kr_c0 kr_c1 kr_c2
  go_region_held3 (fun W => W.cell? ⟨w.heap.size, 0, none⟩ = some (.bool r.1.1) ∧ W.cell? ⟨w.heap.size, 1, none⟩ = some (.slice Ar r.1.2.length cr) ∧ W.cell? ⟨w.heap.size, 2, none⟩ = some (.slice Br r.2.length dr) ∧ Hid (Chg [] W0 W))
    ((refine KL.out _ ?_; (first | exact HC2.out | exact HC1.out | exact HCr.out | exact HC0.out | exact HC2.out.drew1 | exact HC1.out.drew1 | exact HCr.out.drew1 | exact HC0.out.drew1 | exact HC2.out.trans (Chg.of_below (below_al (Below.refl _ _) _)) | exact HC1.out.trans (Chg.of_below (below_al (Below.refl _ _) _)) | exact HCr.out.trans (Chg.of_below (below_al (Below.refl _ _) _)) | exact HC0.out.trans (Chg.of_below (below_al (Below.refl _ _) _)) | fail)))
    (first
      | (go_at_call 76; (have hBB := (‹_ ∧ _ ∧ _ ∧ Hid (Chg [] W0 _)›).2.2.2); (with_reducible refine (specRatZero_any _).mono ?_); rintro e w1 ⟨uz, Sz, rfl, oz, lz, b1⟩; have HC1 := Lib.hid (hBB.out.trans (Chg.of_below b1)); obtain ⟨Az, cz, Bz, dz, rfl⟩ := ownQ_form oz.here; have HBZ1 := Lib.hid hBB.out.size; clear hBB)
      | (go_at_call 35; (have hBB := (‹_ ∧ _ ∧ _ ∧ Hid (Chg [] W0 _)›).2.2.2); (with_reducible refine ((specRatCmp_any _ _ r oneQ _ hzr (by decide) (OQr.out _ (BBF.out _ hBB.out)) (At.here (by first | exact oz | exact At.below oz (below_al (Below.refl _ _) _) | exact At.below (At.below oz (below_al (Below.refl _ _) _)) (below_al (Below.refl _ _) _) | exact At.move oz (fun _ _ => rfl) (Nat.le_refl _)))).mono fun _ _ h => postn_eq EZ.out h).mono ?_); rintro e w2 ⟨rfl, b2⟩; have HC2 := Lib.hid (hBB.out.trans (Chg.of_below b2)); (have oz_2 := At.below (by first | exact oz | exact At.below oz (below_al (Below.refl _ _) _) | exact At.below (At.below oz (below_al (Below.refl _ _) _)) (below_al (Below.refl _ _) _) | exact At.move oz (fun _ _ => rfl) (Nat.le_refl _)) b2); have HBZ2 := Lib.hid hBB.out.size; clear hBB))
  have bb2 := BBF.out _ HC2.out
  replace kr := kr.chg HC2.out (fun i hi hm => by simp at hm)
  have oz := oz_2
  go_wp2
  go_ret
  exact ⟨rfl, bb2⟩
end Go.Proofs.YtkkdlgiilhngcaaDoor
