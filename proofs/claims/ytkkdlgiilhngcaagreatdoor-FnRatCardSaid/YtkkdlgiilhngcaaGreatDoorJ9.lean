/-
  What RatText returns, in both packages.
  What TextRat returns, in both packages.
  The draws of the laws: a cursor over the bytes of a code. What a draw comes to is left open but for its range.
  The numbers that the law FnNat draws: valid nats of at most five limbs. And what laws.same returns.
  Chapter 6 of package spec: RatMake, RatInt, RatZero, RatCmp and RatSign.
  Plain facts: a short signed number is read back from its text.
-/
import Derived.Deep.RegionHeld3
import Derived.Deep.DeepCutAuto
import Derived.StillTailTactics
import Derived.Laws.OwnMore
import Derived.Test.YtkkdlgiilhngcaaGreatDoorJ8
namespace Go.Proofs.YtkkdlgiilhngcaaGreatDoor
open Go.RowKit

theorem join_text (a b : ByteArray) : joinB slashS [a, b] = a ++ slashS ++ b := by
  apply ByteArray.ext
  simp [joinB, joinTo, slashS]
theorem two_small {I D : ByteArray} (h1 : I.size ≤ 502) (h2 : D.size ≤ 501) : ∀ s ∈ [I, D], s.size ≤ 1048576 := fun s hs => by
  simp at hs
  rcases hs with rfl | rfl
  · omega
  · omega
theorem cmp1_any (v vo : Value) (xs : List Int) (z : Int) (w : World) (hl : xs.length ≤ 1048576) (hz : cmpN xs (limbs 1) = z) (hx : OwnI v xs w) (ho : OwnI vo (limbs 1) w) : Calls Tryz.prog 40 #[v, vo] w (Postn z w) := by
  subst hz
  exact implNatCmp_any _ _ xs (limbs 1) _ _ _ _ _ hl (by rw [one_limbs]; decide) (Nat.le_refl _) (Nat.le_refl _) hx.row ho.row
theorem specIntT_any (v : Value) (x : SI) (I : ByteArray) (w : World) (hl : x.2.length ≤ 1048576) (hI : intStrB x = I) (h : OwnS v x w) : Calls Tryz.prog 60 #[v] w (PostT I w) := by
  subst hI
  exact specIntStr_any v x w hl (OwnS.rd h)
theorem specNatT_any (v : Value) (a : List Int) (D : ByteArray) (w : World) (hl : a.length ≤ 1048576) (hD : natTextB a = D) (h : OwnI v a w) : Calls Tryz.prog 61 #[v] w (PostT D w) := by
  subst hD
  exact specNatText_any v a 0 _ w hl (Nat.le_refl _) h.row
theorem implIntT_any (v : Value) (x : SI) (I : ByteArray) (w : World) (hl : x.2.length ≤ 1048576) (hI : intStrB x = I) (h : OwnS v x w) (ht : Tab w) : Calls Tryz.prog 42 #[v] w (PostT I w) := by
  subst hI
  exact implIntStr_any v x w hl (OwnS.rd h) ht
theorem implNatT_any (v : Value) (a : List Int) (D : ByteArray) (w : World) (hl : a.length ≤ 1048576) (hD : natTextB a = D) (h : OwnI v a w) (ht : Tab w) : Calls Tryz.prog 44 #[v] w (PostT D w) := by
  subst hD
  exact implNatText_any v a 0 _ w hl (Nat.le_refl _) h.row ht
theorem join2_any (I D : ByteArray) (w : World) (T : TypeId) (h1 : I.size ≤ 502) (h2 : D.size ≤ 501) : Calls Tryz.prog 43 #[.slice (some ⟨w.heap.size, 0, none⟩) 2 2, .string ⟨#[47]⟩] (w.alloc (.cells #[.string I, .string D] T)) (PostT (I ++ slashS ++ D) (w.alloc (.cells #[.string I, .string D] T))) := by
  have h := implJoin_any (.slice (some ⟨w.heap.size, 0, none⟩) 2 2) slashS [I, D] 0 _ (w.alloc (.cells #[.string I, .string D] T)) (Nat.le_refl _) (by simp) (by decide) (two_small h1 h2) (box_row (box_new w #[.string I, .string D] T).here)
  rw [join_text] at h
  exact h
theorem postT_eq {a b : ByteArray} (h : a = b) {w w' : World} {e : Ending} (k : e = .returned (.string a) ∧ Below w.heap.size w w') : PostT b w e w' := by rw [← h]; exact k
set_option maxHeartbeats 2000000 in
set_option maxRecDepth 100000 in
theorem specRatText_any (vr : Value) (r : QI) (w : World) (hzr : szQ r ≤ 1048576) (hr : OwnQ vr r w) :
    Calls Tryz.prog 23 #[vr] w (PostT (ratTextB r) w) := by
  have Hr := Lib.hid hr
  obtain ⟨Ar, cr, Br, dr, rfl⟩ := ownQ_form hr
  have OQr := Lib.hid (show ∀ W, Below w.heap.size w W → OwnQ (.agg #[.bool r.1.1, .slice Ar r.1.2.length cr, .slice Br r.2.length dr]) r W from fun W hb => OwnQ.below Hr.out hb)
  have OUr := Lib.hid (show ∀ W, Below w.heap.size w W → OwnI (.slice Ar r.1.2.length cr) r.1.2 W from fun W hb => (ownQ_open (OQr.out W hb)).2.1)
  have ODr := Lib.hid (show ∀ W, Below w.heap.size w W → OwnI (.slice Br r.2.length dr) r.2 W from fun W hb => (ownQ_open (OQr.out W hb)).2.2.1)
  have OSr := Lib.hid (show ∀ W, Below w.heap.size w W → OwnS (.agg #[.bool r.1.1, .slice Ar r.1.2.length cr]) r.1 W from fun W hb => OwnS.mk (OUr.out W hb))
  clear hr
  have hlr := szQ_len hzr
  have hl1r := hlr.1
  have hl2r := hlr.2
  clear hlr
  have HV1 := Lib.hid (show okQ r = true → denQ r = 1 → ratTextB r = intStrB r.1 from fun h e => by unfold ratTextB; rw [if_pos h, if_pos e])
  have HV2 := Lib.hid (show okQ r = true → ¬ denQ r = 1 → ratTextB r = intStrB r.1 ++ slashS ++ natTextB r.2 from fun h e => by unfold ratTextB; rw [if_pos h, if_neg e])
  have HV3 := Lib.hid (show ¬ okQ r = true → ratTextB r = ⟨#[]⟩ from fun h => by unfold ratTextB; rw [if_neg h])
  have bb0 : Below w.heap.size w (w.alloc (.cells #[.bool r.1.1, .slice Ar r.1.2.length cr, .slice Br r.2.length dr] 27)) := below_al (Below.refl _ _) _
  have kr := (box_new w #[.bool r.1.1, .slice Ar r.1.2.length cr, .slice Br r.2.length dr] 27)
  go_enter Tryz.func23, Tryz.ntmps23
  have kr_c0 := kr.here.cell 0 _ rfl
  have kr_c1 := kr.here.cell 1 _ rfl
  have kr_c2 := kr.here.cell 2 _ rfl
  go_wp2_with fail
  clear kr_c0 kr_c1 kr_c2
  refine (specRatOk_any _ r _ hzr (OQr.out _ bb0)).mono ?_
  rintro e w1 ⟨rfl, b1⟩
  have bb1 := Below.next bb0 b1
  replace kr := kr.below b1
  by_cases okr : okQ r = true
  · rw [okr]
    have HC := Lib.hid (den_cmp okr)
    have HO := Lib.hid okr
    have HD := Lib.hid (natOk_parts (okQ_parts okr).2.1)
    clear okr
    have kr_c0 := kr.here.cell 0 _ rfl
    have kr_c1 := kr.here.cell 1 _ rfl
    have kr_c2 := kr.here.cell 2 _ rfl
    go_wp2_with fail
    clear kr_c0 kr_c1 kr_c2
    have hal := below_al (Below.refl w1.heap.size w1) (.cells #[.int .i64 1] 3)
    have hrow := box_row (box_new w1 #[.int .i64 1] 3).here
    have bba := Below.next bb1 hal
    replace kr := kr.below hal
    refine (specCmp_any _ _ r.2 [1] _ _ _ _ _ hl2r (by decide) ⟨HD.out.1, HD.out.2.2⟩ one_dig (ODr.out _ bba).row hrow).mono ?_
    rintro e w2 ⟨rfl, q2, rfl⟩
    have hkr := kr.drewN q2
    have bb2 := below_drewN bba q2
    clear kr hrow hal
    obtain ⟨w2, hW2⟩ : ∃ w2, w2 = (w1.alloc (.cells #[.int .i64 1] 3)).drewN q2 := ⟨_, rfl⟩
    rw [← hW2] at hkr bb2 ⊢
    clear hW2 b1 bb1 bba
    have kr := hkr
    clear hkr
    have HC2 := HC.out
    generalize (cmpI (nval r.2) (nval [1])) = z at *
    by_cases hd : denQ r = 1
    · rw [decide_eq_true hd] at HC2
      have HV := Lib.hid (HV1.out HO.out hd)
      clear hd
      have kr_c0 := kr.here.cell 0 _ rfl
      have kr_c1 := kr.here.cell 1 _ rfl
      have kr_c2 := kr.here.cell 2 _ rfl
      go_wp2_with fail
      clear kr_c0 kr_c1 kr_c2
      refine (specIntStr_any _ r.1 _ hl1r (OwnS.rd (OSr.out _ bb2))).mono ?_
      rintro e w3 ⟨rfl, b3⟩
      have bb3 := Below.next bb2 b3
      replace kr := kr.below b3
      go_wp2
      go_ret
      exact ⟨ret_str HV.out.symm, bb3⟩
    · rw [decide_eq_false hd] at HC2
      have HV := Lib.hid (HV2.out HO.out hd)
      clear hd
      have HZ1 := Lib.hid (intStr_size r.1)
      have HZ2 := Lib.hid (natTextB_size r.2)
      obtain ⟨I, hI⟩ : ∃ I, intStrB r.1 = I := ⟨_, rfl⟩
      obtain ⟨D, hD⟩ : ∃ D, natTextB r.2 = D := ⟨_, rfl⟩
      have EI := Lib.hid hI
      have ED := Lib.hid hD
      rw [hI] at HZ1 HV
      rw [hD] at HZ2 HV
      clear hI hD
      have hz1 := HZ1.out
      have hz2 := HZ2.out
      have hq1 : ¬ (9223372036854775807 < I.size + 1) := by omega
      have hq2 : ¬ (9223372036854775807 < I.size + 1 + D.size) := by omega
      have kr_c0 := kr.here.cell 0 _ rfl
      have kr_c1 := kr.here.cell 1 _ rfl
      have kr_c2 := kr.here.cell 2 _ rfl
      go_wp2_with fail
      have HC0 := Lib.hid (show Chg [] w2 w2.drew from (Chg.refl _ _).drew1)
      have HCr := Lib.hid (show Chg [] w2 w2 from Chg.refl _ _)
      have KL := Lib.hid (show ∀ W, Chg [] w2 W → W.cell? ⟨w.heap.size, 0, none⟩ = some (.bool r.1.1) ∧ W.cell? ⟨w.heap.size, 1, none⟩ = some (.slice Ar r.1.2.length cr) ∧ W.cell? ⟨w.heap.size, 2, none⟩ = some (.slice Br r.2.length dr) ∧ Hid (Chg [] w2 W) from fun W hc => ⟨(kr.chg hc (fun i hi hm => by simp at hm)).here.cell 0 _ rfl, (kr.chg hc (fun i hi hm => by simp at hm)).here.cell 1 _ rfl, (kr.chg hc (fun i hi hm => by simp at hm)).here.cell 2 _ rfl, Lib.hid hc⟩)
      have BBF := Lib.hid (show ∀ W, Chg [] w2 W → Below w.heap.size w W from fun W hc => below_chg bb2 hc bb2.size (fun i hi => by simp at hi))
      clear kr_c0 kr_c1 kr_c2
      go_region_held3 (fun W => W.cell? ⟨w.heap.size, 0, none⟩ = some (.bool r.1.1) ∧ W.cell? ⟨w.heap.size, 1, none⟩ = some (.slice Ar r.1.2.length cr) ∧ W.cell? ⟨w.heap.size, 2, none⟩ = some (.slice Br r.2.length dr) ∧ Hid (Chg [] w2 W))
        ((refine KL.out _ ?_; (first | exact HC4.out | exact HC3.out | exact HCr.out | exact HC0.out | exact HC4.out.drew1 | exact HC3.out.drew1 | exact HCr.out.drew1 | exact HC0.out.drew1 | exact HC4.out.trans (Chg.of_below (below_al (Below.refl _ _) _)) | exact HC3.out.trans (Chg.of_below (below_al (Below.refl _ _) _)) | exact HCr.out.trans (Chg.of_below (below_al (Below.refl _ _) _)) | exact HC0.out.trans (Chg.of_below (below_al (Below.refl _ _) _)) | fail)))
        (first
          | (go_at_call 60; (have hBB := (‹_ ∧ _ ∧ _ ∧ Hid (Chg [] w2 _)›).2.2.2); (with_reducible refine (specIntT_any _ r.1 I _ hl1r EI.out (OSr.out _ (BBF.out _ hBB.out))).mono ?_); rintro e w3 ⟨rfl, b3⟩; have HC3 := Lib.hid (hBB.out.trans (Chg.of_below b3)); have HBZ3 := Lib.hid hBB.out.size; clear hBB)
          | (go_at_call 61; (have hBB := (‹_ ∧ _ ∧ _ ∧ Hid (Chg [] w2 _)›).2.2.2); (with_reducible refine (specNatT_any _ r.2 D _ hl2r ED.out (ODr.out _ (BBF.out _ hBB.out))).mono ?_); rintro e w4 ⟨rfl, b4⟩; have HC4 := Lib.hid (hBB.out.trans (Chg.of_below b4)); have HBZ4 := Lib.hid hBB.out.size; clear hBB))
      have bb4 := BBF.out _ HC4.out
      replace kr := kr.chg HC4.out (fun i hi hm => by simp at hm)
      go_wp2
      go_ret
      exact ⟨ret_str HV.out.symm, bb4⟩
  · have okr' : okQ r = false := by simpa using okr
    have HV := Lib.hid (HV3.out okr)
    rw [okr']
    clear okr okr'
    go_wp2
    go_ret
    exact ⟨ret_str HV.out.symm, bb1⟩
set_option maxHeartbeats 2000000 in
set_option maxRecDepth 100000 in
theorem implRatText_any (vr : Value) (r : QI) (w : World) (hzr : szQ r ≤ 1048576) (hr : OwnQ vr r w) (hsen : Sen w) (ht : Tab w) :
    Calls Tryz.prog 13 #[vr] w (PostT (ratTextB r) w) := by
  have HS := Lib.hid hsen
  have HT := Lib.hid ht
  clear hsen ht
  have Hr := Lib.hid hr
  obtain ⟨Ar, cr, Br, dr, rfl⟩ := ownQ_form hr
  have OQr := Lib.hid (show ∀ W, Below w.heap.size w W → OwnQ (.agg #[.bool r.1.1, .slice Ar r.1.2.length cr, .slice Br r.2.length dr]) r W from fun W hb => OwnQ.below Hr.out hb)
  have OUr := Lib.hid (show ∀ W, Below w.heap.size w W → OwnI (.slice Ar r.1.2.length cr) r.1.2 W from fun W hb => (ownQ_open (OQr.out W hb)).2.1)
  have ODr := Lib.hid (show ∀ W, Below w.heap.size w W → OwnI (.slice Br r.2.length dr) r.2 W from fun W hb => (ownQ_open (OQr.out W hb)).2.2.1)
  have OSr := Lib.hid (show ∀ W, Below w.heap.size w W → OwnS (.agg #[.bool r.1.1, .slice Ar r.1.2.length cr]) r.1 W from fun W hb => OwnS.mk (OUr.out W hb))
  clear hr
  have hlr := szQ_len hzr
  have hl1r := hlr.1
  have hl2r := hlr.2
  clear hlr
  have HV1 := Lib.hid (show okQ r = true → denQ r = 1 → ratTextB r = intStrB r.1 from fun h e => by unfold ratTextB; rw [if_pos h, if_pos e])
  have HV2 := Lib.hid (show okQ r = true → ¬ denQ r = 1 → ratTextB r = intStrB r.1 ++ slashS ++ natTextB r.2 from fun h e => by unfold ratTextB; rw [if_pos h, if_neg e])
  have HV3 := Lib.hid (show ¬ okQ r = true → ratTextB r = ⟨#[]⟩ from fun h => by unfold ratTextB; rw [if_neg h])
  have bb0 : Below w.heap.size w (w.alloc (.cells #[.bool r.1.1, .slice Ar r.1.2.length cr, .slice Br r.2.length dr] 27)) := below_al (Below.refl _ _) _
  have kr := (box_new w #[.bool r.1.1, .slice Ar r.1.2.length cr, .slice Br r.2.length dr] 27)
  go_enter Tryz.func13, Tryz.ntmps13
  have kr_c0 := kr.here.cell 0 _ rfl
  have kr_c1 := kr.here.cell 1 _ rfl
  have kr_c2 := kr.here.cell 2 _ rfl
  go_wp2_with fail
  clear kr_c0 kr_c1 kr_c2
  refine (implRatOk_any _ r _ hzr (OQr.out _ bb0) (HS.out.below bb0)).mono ?_
  rintro e w1 ⟨rfl, b1⟩
  have bb1 := Below.next bb0 b1
  replace kr := kr.below b1
  by_cases okr : okQ r = true
  · rw [okr]
    have hc := den_cmpN okr
    have HO := Lib.hid okr
    clear okr
    obtain ⟨z, hz⟩ : ∃ z, cmpN r.2 (limbs 1) = z := ⟨_, rfl⟩
    have EZ := Lib.hid hz
    rw [hz] at hc
    clear hz
    by_cases hd : denQ r = 1
    · rw [decide_eq_true hd] at hc
      have HV := Lib.hid (HV1.out HO.out hd)
      clear hd
      have kr_c0 := kr.here.cell 0 _ rfl
      have kr_c1 := kr.here.cell 1 _ rfl
      have kr_c2 := kr.here.cell 2 _ rfl
      go_wp2_with fail
      have HC0 := Lib.hid (show Chg [] w1 w1.drew from (Chg.refl _ _).drew1)
      have HCr := Lib.hid (show Chg [] w1 w1 from Chg.refl _ _)
      have KL := Lib.hid (show ∀ W, Chg [] w1 W → W.cell? ⟨w.heap.size, 0, none⟩ = some (.bool r.1.1) ∧ W.cell? ⟨w.heap.size, 1, none⟩ = some (.slice Ar r.1.2.length cr) ∧ W.cell? ⟨w.heap.size, 2, none⟩ = some (.slice Br r.2.length dr) ∧ Hid (Chg [] w1 W) from fun W hc => ⟨(kr.chg hc (fun i hi hm => by simp at hm)).here.cell 0 _ rfl, (kr.chg hc (fun i hi hm => by simp at hm)).here.cell 1 _ rfl, (kr.chg hc (fun i hi hm => by simp at hm)).here.cell 2 _ rfl, Lib.hid hc⟩)
      have BBF := Lib.hid (show ∀ W, Chg [] w1 W → Below w.heap.size w W from fun W hc => below_chg bb1 hc bb1.size (fun i hi => by simp at hi))
      clear kr_c0 kr_c1 kr_c2
      go_region_held3 (fun W => W.cell? ⟨w.heap.size, 0, none⟩ = some (.bool r.1.1) ∧ W.cell? ⟨w.heap.size, 1, none⟩ = some (.slice Ar r.1.2.length cr) ∧ W.cell? ⟨w.heap.size, 2, none⟩ = some (.slice Br r.2.length dr) ∧ Hid (Chg [] w1 W))
        ((refine KL.out _ ?_; (first | exact HC3.out | exact HC2.out | exact HCr.out | exact HC0.out | exact HC3.out.drew1 | exact HC2.out.drew1 | exact HCr.out.drew1 | exact HC0.out.drew1 | exact HC3.out.trans (Chg.of_below (below_al (Below.refl _ _) _)) | exact HC2.out.trans (Chg.of_below (below_al (Below.refl _ _) _)) | exact HCr.out.trans (Chg.of_below (below_al (Below.refl _ _) _)) | exact HC0.out.trans (Chg.of_below (below_al (Below.refl _ _) _)) | fail)))
        (first
          | (go_at_call 41; (have hBB := (‹_ ∧ _ ∧ _ ∧ Hid (Chg [] w1 _)›).2.2.2); (with_reducible refine (implNatOf_any 1 _ (by decide)).mono ?_); rintro e w2 ⟨vo, rfl, oo_, b2⟩; have HC2 := Lib.hid (hBB.out.trans (Chg.of_below b2)); rw [show (1 : Int).toNat = 1 from rfl] at oo_; obtain ⟨Eo, eo, rfl⟩ := own_len oo_; have oo := own_at' oo_; have HBZ2 := Lib.hid hBB.out.size; clear hBB)
          | (go_at_call 40; (have hBB := (‹_ ∧ _ ∧ _ ∧ Hid (Chg [] w1 _)›).2.2.2); (with_reducible refine (cmp1_any _ _ r.2 z _ hl2r EZ.out (ODr.out _ (BBF.out _ hBB.out)) (At.here (by first | exact oo | exact At.below oo (below_al (Below.refl _ _) _) | exact At.below (At.below oo (below_al (Below.refl _ _) _)) (below_al (Below.refl _ _) _) | exact At.move oo (fun _ _ => rfl) (Nat.le_refl _)))).mono ?_); rintro e w3 ⟨rfl, b3⟩; have HC3 := Lib.hid (hBB.out.trans (Chg.of_below b3)); (have oo_3 := At.below (by first | exact oo | exact At.below oo (below_al (Below.refl _ _) _) | exact At.below (At.below oo (below_al (Below.refl _ _) _)) (below_al (Below.refl _ _) _) | exact At.move oo (fun _ _ => rfl) (Nat.le_refl _)) b3); have HBZ3 := Lib.hid hBB.out.size; clear hBB))
      have bb3 := BBF.out _ HC3.out
      replace kr := kr.chg HC3.out (fun i hi hm => by simp at hm)
      have oo := oo_3
      have kr_c0 := kr.here.cell 0 _ rfl
      have kr_c1 := kr.here.cell 1 _ rfl
      have kr_c2 := kr.here.cell 2 _ rfl
      go_wp2_with fail
      clear kr_c0 kr_c1 kr_c2
      refine (implIntStr_any _ r.1 _ hl1r (OwnS.rd (OSr.out _ bb3)) (HT.out.below bb3)).mono ?_
      rintro e w4 ⟨rfl, b4⟩
      have bb4 := Below.next bb3 b4
      replace kr := kr.below b4
      go_wp2
      go_ret
      exact ⟨ret_str HV.out.symm, bb4⟩
    · rw [decide_eq_false hd] at hc
      have HV := Lib.hid (HV2.out HO.out hd)
      clear hd
      have kr_c0 := kr.here.cell 0 _ rfl
      have kr_c1 := kr.here.cell 1 _ rfl
      have kr_c2 := kr.here.cell 2 _ rfl
      go_wp2_with fail
      have HC0 := Lib.hid (show Chg [] w1 w1.drew from (Chg.refl _ _).drew1)
      have HCr := Lib.hid (show Chg [] w1 w1 from Chg.refl _ _)
      have KL := Lib.hid (show ∀ W, Chg [] w1 W → W.cell? ⟨w.heap.size, 0, none⟩ = some (.bool r.1.1) ∧ W.cell? ⟨w.heap.size, 1, none⟩ = some (.slice Ar r.1.2.length cr) ∧ W.cell? ⟨w.heap.size, 2, none⟩ = some (.slice Br r.2.length dr) ∧ Hid (Chg [] w1 W) from fun W hc => ⟨(kr.chg hc (fun i hi hm => by simp at hm)).here.cell 0 _ rfl, (kr.chg hc (fun i hi hm => by simp at hm)).here.cell 1 _ rfl, (kr.chg hc (fun i hi hm => by simp at hm)).here.cell 2 _ rfl, Lib.hid hc⟩)
      have BBF := Lib.hid (show ∀ W, Chg [] w1 W → Below w.heap.size w W from fun W hc => below_chg bb1 hc bb1.size (fun i hi => by simp at hi))
      clear kr_c0 kr_c1 kr_c2
      go_region_held3 (fun W => W.cell? ⟨w.heap.size, 0, none⟩ = some (.bool r.1.1) ∧ W.cell? ⟨w.heap.size, 1, none⟩ = some (.slice Ar r.1.2.length cr) ∧ W.cell? ⟨w.heap.size, 2, none⟩ = some (.slice Br r.2.length dr) ∧ Hid (Chg [] w1 W))
        ((refine KL.out _ ?_; (first | exact HC3.out | exact HC2.out | exact HCr.out | exact HC0.out | exact HC3.out.drew1 | exact HC2.out.drew1 | exact HCr.out.drew1 | exact HC0.out.drew1 | exact HC3.out.trans (Chg.of_below (below_al (Below.refl _ _) _)) | exact HC2.out.trans (Chg.of_below (below_al (Below.refl _ _) _)) | exact HCr.out.trans (Chg.of_below (below_al (Below.refl _ _) _)) | exact HC0.out.trans (Chg.of_below (below_al (Below.refl _ _) _)) | fail)))
        (first
          | (go_at_call 41; (have hBB := (‹_ ∧ _ ∧ _ ∧ Hid (Chg [] w1 _)›).2.2.2); (with_reducible refine (implNatOf_any 1 _ (by decide)).mono ?_); rintro e w2 ⟨vo, rfl, oo_, b2⟩; have HC2 := Lib.hid (hBB.out.trans (Chg.of_below b2)); rw [show (1 : Int).toNat = 1 from rfl] at oo_; obtain ⟨Eo, eo, rfl⟩ := own_len oo_; have oo := own_at' oo_; have HBZ2 := Lib.hid hBB.out.size; clear hBB)
          | (go_at_call 40; (have hBB := (‹_ ∧ _ ∧ _ ∧ Hid (Chg [] w1 _)›).2.2.2); (with_reducible refine (cmp1_any _ _ r.2 z _ hl2r EZ.out (ODr.out _ (BBF.out _ hBB.out)) (At.here (by first | exact oo | exact At.below oo (below_al (Below.refl _ _) _) | exact At.below (At.below oo (below_al (Below.refl _ _) _)) (below_al (Below.refl _ _) _) | exact At.move oo (fun _ _ => rfl) (Nat.le_refl _)))).mono ?_); rintro e w3 ⟨rfl, b3⟩; have HC3 := Lib.hid (hBB.out.trans (Chg.of_below b3)); (have oo_3 := At.below (by first | exact oo | exact At.below oo (below_al (Below.refl _ _) _) | exact At.below (At.below oo (below_al (Below.refl _ _) _)) (below_al (Below.refl _ _) _) | exact At.move oo (fun _ _ => rfl) (Nat.le_refl _)) b3); have HBZ3 := Lib.hid hBB.out.size; clear hBB))
      have bb3 := BBF.out _ HC3.out
      replace kr := kr.chg HC3.out (fun i hi hm => by simp at hm)
      have oo := oo_3
      have HZ1 := Lib.hid (intStr_size r.1)
      have HZ2 := Lib.hid (natTextB_size r.2)
      obtain ⟨I, hI⟩ : ∃ I, intStrB r.1 = I := ⟨_, rfl⟩
      obtain ⟨D, hD⟩ : ∃ D, natTextB r.2 = D := ⟨_, rfl⟩
      have EI := Lib.hid hI
      have ED := Lib.hid hD
      rw [hI] at HZ1 HV
      rw [hD] at HZ2 HV
      clear hI hD
      have kr_c0 := kr.here.cell 0 _ rfl
      have kr_c1 := kr.here.cell 1 _ rfl
      have kr_c2 := kr.here.cell 2 _ rfl
      go_wp2_with fail
      have HC0 := Lib.hid (show Chg [] w3 w3.drew from (Chg.refl _ _).drew1)
      have HCr := Lib.hid (show Chg [] w3 w3 from Chg.refl _ _)
      have KL := Lib.hid (show ∀ W, Chg [] w3 W → W.cell? ⟨w.heap.size, 0, none⟩ = some (.bool r.1.1) ∧ W.cell? ⟨w.heap.size, 1, none⟩ = some (.slice Ar r.1.2.length cr) ∧ W.cell? ⟨w.heap.size, 2, none⟩ = some (.slice Br r.2.length dr) ∧ Hid (Chg [] w3 W) from fun W hc => ⟨(kr.chg hc (fun i hi hm => by simp at hm)).here.cell 0 _ rfl, (kr.chg hc (fun i hi hm => by simp at hm)).here.cell 1 _ rfl, (kr.chg hc (fun i hi hm => by simp at hm)).here.cell 2 _ rfl, Lib.hid hc⟩)
      have BBF := Lib.hid (show ∀ W, Chg [] w3 W → Below w.heap.size w W from fun W hc => below_chg bb3 hc bb3.size (fun i hi => by simp at hi))
      clear kr_c0 kr_c1 kr_c2
      go_region_held3 (fun W => W.cell? ⟨w.heap.size, 0, none⟩ = some (.bool r.1.1) ∧ W.cell? ⟨w.heap.size, 1, none⟩ = some (.slice Ar r.1.2.length cr) ∧ W.cell? ⟨w.heap.size, 2, none⟩ = some (.slice Br r.2.length dr) ∧ Hid (Chg [] w3 W))
        ((refine KL.out _ ?_; (first | exact HC6.out | exact HC5.out | exact HC4.out | exact HCr.out | exact HC0.out | exact HC6.out.drew1 | exact HC5.out.drew1 | exact HC4.out.drew1 | exact HCr.out.drew1 | exact HC0.out.drew1 | exact HC6.out.trans (Chg.of_below (below_al (Below.refl _ _) _)) | exact HC5.out.trans (Chg.of_below (below_al (Below.refl _ _) _)) | exact HC4.out.trans (Chg.of_below (below_al (Below.refl _ _) _)) | exact HCr.out.trans (Chg.of_below (below_al (Below.refl _ _) _)) | exact HC0.out.trans (Chg.of_below (below_al (Below.refl _ _) _)) | fail)))
        (first
          | (go_at_call 42; (have hBB := (‹_ ∧ _ ∧ _ ∧ Hid (Chg [] w3 _)›).2.2.2); (with_reducible refine (implIntT_any _ r.1 I _ hl1r EI.out (OSr.out _ (BBF.out _ hBB.out)) (HT.out.below (BBF.out _ hBB.out))).mono ?_); rintro e w4 ⟨rfl, b4⟩; have HC4 := Lib.hid (hBB.out.trans (Chg.of_below b4)); have HBZ4 := Lib.hid hBB.out.size; clear hBB)
          | (go_at_call 44; (have hBB := (‹_ ∧ _ ∧ _ ∧ Hid (Chg [] w3 _)›).2.2.2); (with_reducible refine (implNatT_any _ r.2 D _ hl2r ED.out (ODr.out _ (BBF.out _ hBB.out)) (HT.out.below (BBF.out _ hBB.out))).mono ?_); rintro e w5 ⟨rfl, b5⟩; have HC5 := Lib.hid (hBB.out.trans (Chg.of_below b5)); have HBZ5 := Lib.hid hBB.out.size; clear hBB)
          | (go_at_call 43; (have hBB := (‹_ ∧ _ ∧ _ ∧ Hid (Chg [] w3 _)›).2.2.2); (with_reducible refine (join2_any I D _ _ HZ1.out HZ2.out).mono ?_); rintro e w6 ⟨rfl, b6⟩; have HC6 := Lib.hid (hBB.out.trans (Chg.of_below b6)); have HBZ6 := Lib.hid hBB.out.size; clear hBB))
      have bb6 := BBF.out _ HC6.out
      replace kr := kr.chg HC6.out (fun i hi hm => by simp at hm)
      go_wp2
      go_ret
      exact ⟨ret_str HV.out.symm, bb6⟩
  · have okr' : okQ r = false := by simpa using okr
    have HV := Lib.hid (HV3.out okr)
    rw [okr']
    clear okr okr'
    go_wp2
    go_ret
    exact ⟨ret_str HV.out.symm, bb1⟩
end Go.Proofs.YtkkdlgiilhngcaaGreatDoor

namespace Go.Proofs.YtkkdlgiilhngcaaGreatDoor
open Go.RowKit

/-! ### strings.Cut at a slash -/
theorem slash_cases (s : ByteArray) : slashAt s = -1 ∨ ∃ o : Nat, slashAt s = o ∧ o < s.size := by
  have h := Lib.indexByte_ge s.data.toList 47
  by_cases e : slashAt s = -1
  · exact .inl e
  · have ho : slashAt s = ((slashAt s).toNat : Nat) := by unfold slashAt at *; omega
    exact .inr ⟨_, ho, slash_lt ho⟩
set_option maxHeartbeats 400000 in
set_option maxRecDepth 100000 in
theorem liteCut_none (s : ByteArray) (w : World) (h : slashAt s = -1) :
    Calls Tryz.prog 79 #[.string s, .string ⟨#[47]⟩] w fun e w' => e = .returned (.tuple #[.string (headB s), .string ⟨#[]⟩, .bool false]) ∧ w = w' := by
  have eh : headB s = s := by unfold headB; rw [if_pos (by omega)]
  rw [eh]
  go_enter Tryz.func79, Tryz.ntmps79
  go_wp2_with fail
  refine (Tryz.stringslite_Index_one s 47 _).mono ?_
  rintro e w1 ⟨rfl, rfl⟩
  rw [show Lib.indexByte s.data.toList 47 = -1 from h]
  go_wp2
  go_ret3
  exact ⟨rfl, rfl⟩
set_option maxHeartbeats 400000 in
set_option maxRecDepth 100000 in
theorem liteCut_some (s : ByteArray) (o : Nat) (w : World) (hs : s.size ≤ 1048576) (h : slashAt s = o) :
    Calls Tryz.prog 79 #[.string s, .string ⟨#[47]⟩] w fun e w' => e = .returned (.tuple #[.string (headB s), .string (tailB s), .bool true]) ∧ Below w.heap.size w w' := by
  have hl := slash_lt h
  have eh : headB s = s.extract 0 o := by unfold headB; rw [if_neg (by omega), h, Int.toNat_natCast]
  have et : tailB s = s.extract (o + 1) s.size := by unfold tailB; rw [if_neg (by omega), h, Int.toNat_natCast]
  rw [eh, et]
  have c1 : (0 : Int) ≤ ↑o := by omega
  have c2 : (↑o : Int) ≤ ↑s.size := by omega
  have c3 : (0 : Int) ≤ ↑o + 1 := by omega
  have c4 : (↑o + 1 : Int) ≤ ↑s.size := by omega
  have c5 : (s.size : Int) ≤ 1048576 := by omega
  go_enter Tryz.func79, Tryz.ntmps79
  go_wp2_with fail
  refine (Tryz.stringslite_Index_one s 47 _).mono ?_
  rintro e w1 ⟨rfl, rfl⟩
  rw [show Lib.indexByte s.data.toList 47 = (o : Int) from h]
  go_wp2
  go_quiet (fail)
  go_wp2
  go_ret3
  exact ⟨rfl, below_drewN (Below.refl _ _) _⟩
set_option maxHeartbeats 400000 in
set_option maxRecDepth 100000 in
theorem cut_none (s : ByteArray) (w : World) (h : slashAt s = -1) :
    Calls Tryz.prog 36 #[.string s, .string ⟨#[47]⟩] w fun e w' => e = .returned (.tuple #[.string (headB s), .string ⟨#[]⟩, .bool false]) ∧ Below w.heap.size w w' := by
  go_enter Tryz.func36, Tryz.ntmps36
  go_wp2_with fail
  refine (liteCut_none s _ h).mono ?_
  rintro e w1 ⟨rfl, rfl⟩
  go_wp2
  go_ret3
  exact ⟨rfl, Below.refl _ _⟩
set_option maxHeartbeats 400000 in
set_option maxRecDepth 100000 in
theorem cut_some (s : ByteArray) (o : Nat) (w : World) (hs : s.size ≤ 1048576) (h : slashAt s = o) :
    Calls Tryz.prog 36 #[.string s, .string ⟨#[47]⟩] w fun e w' => e = .returned (.tuple #[.string (headB s), .string (tailB s), .bool true]) ∧ Below w.heap.size w w' := by
  go_enter Tryz.func36, Tryz.ntmps36
  go_wp2_with fail
  refine (liteCut_some s o _ hs h).mono ?_
  rintro e w1 ⟨rfl, b1⟩
  go_wp2
  go_ret3
  exact ⟨rfl, b1⟩

/-! ### what a reading comes to -/
def BadR (s : ByteArray) : Prop := readB s = false ∧ trQ s = zeroQ
structure ReadAs (s H T : ByteArray) : Prop where
  b1 : siB H = false → BadR s
  b2 : decOk T = false → BadR s
  b3 : ¬ ratTextB (siR H, tnR T) = s → BadR s
  ok : siB H = true → decOk T = true → ratTextB (siR H, tnR T) = s → readB s = true ∧ trQ s = (siR H, tnR T)
  ne : siB H = true → ratTextB (siR H, tnR T) = s → ¬ s = ⟨#[]⟩
theorem badR {s : ByteArray} (h : readB s = false) : BadR s := ⟨h, by unfold trQ; rw [h]; rfl⟩
theorem not_empty {s : ByteArray} (h : siB (headB s) = true) : ¬ s = ⟨#[]⟩ := fun e => by
  subst e
  have hh : headB ⟨#[]⟩ = ⟨#[]⟩ := by unfold headB; rw [if_pos (by decide)]
  rw [hh] at h
  revert h
  unfold siB
  rw [bareB_self _ (negB_nil _ (by decide)), decOk_dig _ (by
    by_cases hd : digitsB ⟨#[]⟩ = true
    · exact absurd rfl ((digitsB_iff _).1 hd).2
    · simpa using hd)]
  simp
theorem readAs_tail (s : ByteArray) : ReadAs s (headB s) (tailB s) where
  b1 := fun h => badR (by unfold readB; rw [h]; rfl)
  b2 := fun h => readB_bad h
  b3 := fun h => badR (by unfold readB readQ; rw [decide_eq_false h, Bool.and_false])
  ok := fun h1 h2 h3 => by
    have e : readB s = true := by unfold readB readQ; rw [h1, h2, decide_eq_true h3]; rfl
    exact ⟨e, by unfold trQ readQ; rw [if_pos e]⟩
  ne := fun h _ => not_empty h
theorem readAs_two {s p : ByteArray} (h1 : decOk (tailB s) = false) (h2 : 2 ≤ s.data.toList.count 47) : ReadAs s (headB s) p where
  b1 := fun _ => readB_bad h1
  b2 := fun _ => readB_bad h1
  b3 := fun _ => readB_bad h1
  ok := fun _ _ h => absurd h (no_two h2 _)
  ne := fun h _ => not_empty h
theorem empty_ne {s : ByteArray} (h : ¬ s = ⟨#[]⟩) : s.toList.isEmpty = false := by
  rcases Bool.eq_false_or_eq_true s.toList.isEmpty with e | e
  · rw [List.isEmpty_iff, Lib.toList_data] at e
    exact absurd (WideShapes.bytes_inj (by rw [e])) h
  · exact e
theorem pair_sz (H T : ByteArray) : szQ (siR H, tnR T) ≤ 1048576 := by
  have h1 := siR_length H
  have h2 := tnR_len T
  unfold szQ szS szI
  simp only
  omega
theorem ratText_bound (q : QI) : (ratTextB q).size ≤ 1100 := by
  have h1 := intStr_size q.1
  have h2 := natTextB_size q.2
  unfold ratTextB
  split
  · split
    · omega
    · rw [ByteArray.size_append, ByteArray.size_append]
      have e : slashS.size = 1 := rfl
      omega
  · show 0 ≤ 1100; omega
theorem ratText_size (q : QI) : (ratTextB q).size ≤ 1048576 := by have := ratText_bound q; omega
set_option maxHeartbeats 2000000 in
set_option maxRecDepth 100000 in
theorem implTextRat_any (s : ByteArray) (w : World) (hs : s.size ≤ 1048576) (hsen : Sen w) (ht : Tab w) :
    Calls Tryz.prog 12 #[.string s] w (PostQb (trQ s) (readB s) w) := by
  have HS := Lib.hid hsen
  have HT := Lib.hid ht
  clear hsen ht
  have hhl := headB_le s
  have htl := tailB_le s hs
  have HSR := Lib.hid (readAs_tail s)
  have bb0 : Below w.heap.size w (w.alloc (.cells #[.bool false, .slice none 0 0, .slice none 0 0] 27)) := below_al (Below.refl _ _) _
  have ko := (box_new w #[.bool false, .slice none 0 0, .slice none 0 0] 27)
  rcases slash_cases s with h | ⟨o, h, _⟩
  · skip
    have HCT := Lib.hid h
    go_enter Tryz.func12, Tryz.ntmps12
    go_wp2_with fail
    refine (cut_none s _ HCT.out).mono ?_
    rintro e w1 ⟨rfl, b1⟩
    have bb1 := Below.next bb0 b1
    replace ko := ko.below b1
    have eT : tailB s = ⟨#[49]⟩ := by unfold tailB; rw [if_pos (by have := HCT.out; omega)]
    rw [eT] at HSR
    clear htl eT
    obtain ⟨T, hT⟩ : ∃ T, T = (⟨#[49]⟩ : ByteArray) := ⟨_, rfl⟩
    rw [← hT] at HSR
    have HTT := Lib.hid hT
    have htl : T.size ≤ 1048576 := by rw [hT]; decide
    clear hT
    generalize headB s = H at *
    go_wp2_with fail
    refine (implStrInt_any H _ (by omega) (HT.out.below bb1)).mono ?_
    rintro e w2 ⟨u1, rfl, on, b2⟩
    obtain ⟨A1, c1, rfl⟩ := own_len on
    have bb2 := Below.next bb1 b2
    replace ko := ko.below b2
    have kn := box_new (w2) #[.bool (siR H).1, .slice A1 (siR H).2.length c1] 25
    have aln := below_al (Below.refl (w2).heap.size (w2)) (.cells #[.bool (siR H).1, .slice A1 (siR H).2.length c1] 25)
    have bbn := Below.next bb2 aln
    replace ko := ko.below aln
    go_wp2_with fail
    rw [← HTT.out]
    skip
    refine (implTextNat_any T _ (by omega) (HT.out.below bbn)).mono ?_
    rintro e w3 ⟨u2, rfl, od, b3⟩
    obtain ⟨A2, c2, rfl⟩ := own_len od
    have bb3 := Below.next bbn b3
    replace ko := ko.below b3
    replace kn := kn.below b3
    have hz2 := b2.size
    have hz3 := b3.size
    have hzn := aln.size
    have onr := own_below (own_below (own_below on aln) b3) (below_al (Below.refl _ _) (.cells #[.bool (siR H).1, .slice A1 (siR H).2.length c1, .slice A2 (tnR T).length c2] 27))
    have odr := own_below od (below_al (Below.refl _ _) (.cells #[.bool (siR H).1, .slice A1 (siR H).2.length c1, .slice A2 (tnR T).length c2] 27))
    have hap : ∀ g, (Value.slice A1 (siR H).2.length c1).ownBlock = some g → (Value.slice A2 (tnR T).length c2).ownBlock ≠ some g := fun g h1 h2 => by
      have h3 := (own_lt on h1).2
      have h4 := (own_lt od h2).1
      omega
    have hb1 := b1.size
    have HLO := Lib.hid (show ∀ g ∈ partsB (Value.slice A1 (siR H).2.length c1) (Value.slice A2 (tnR T).length c2), w.heap.size + 1 ≤ g from fun g hg => by
      have hk0 := (box_new w #[.bool false, .slice none 0 0, .slice none 0 0] 27).lt w.heap.size (by simp)
      simp at hk0 hb1
      rcases List.mem_append.1 hg with hg | hg
      · have := own_within on g hg; omega
      · have := own_within od g hg; omega)
    clear on od
    have kn_c0 := kn.here.cell 0 _ rfl
    have kn_c1 := kn.here.cell 1 _ rfl
    have hS1 := HSR.out.b1
    have hS2 := HSR.out.b2
    have hS3 := HSR.out.b3
    have hS4 := HSR.out.ok
    have hS5 := HSR.out.ne
    have kr := box_new (w3) #[.bool (siR H).1, .slice A1 (siR H).2.length c1, .slice A2 (tnR T).length c2] 27
    have alr := below_al (Below.refl (w3).heap.size (w3)) (.cells #[.bool (siR H).1, .slice A1 (siR H).2.length c1, .slice A2 (tnR T).length c2] 27)
    have bbr := Below.next bb3 alr
    replace ko := ko.below alr
    replace kn := kn.below alr
    have of := partsQ_at (x := ((siR H, tnR T) : QI)) onr odr hap
    obtain ⟨B1, hB1⟩ : ∃ B, siB H = B := ⟨_, rfl⟩
    obtain ⟨B2, hB2⟩ : ∃ B, decOk T = B := ⟨_, rfl⟩
    rw [hB1] at hS1 hS4 hS5 ⊢
    rw [hB2] at hS2 hS4 ⊢
    have HB2 := Lib.hid hB2
    clear hB1 hB2 hap onr odr
    cases B1 with
    | false =>
      have HV := Lib.hid (hS1 rfl)
      have ko_c0 := ko.here.cell 0 _ rfl
      have ko_c1 := ko.here.cell 1 _ rfl
      have ko_c2 := ko.here.cell 2 _ rfl
      have cz0 := ko.here.cell 0 _ rfl
      have fz0 := Lib.frozen_of_heap ko.here 0
      have cz1 := ko.here.cell 1 _ rfl
      have fz1 := Lib.frozen_of_heap ko.here 1
      have cz2 := ko.here.cell 2 _ rfl
      have fz2 := Lib.frozen_of_heap ko.here 2
      clear of
      go_wp2
      refine bodyPost_ret (v := .tuple #[.agg #[.bool false, .slice none 0 0, .slice none 0 0], .bool false]) (by simp [results, Tryz.results12, go_sem, cz0, cz1, cz2]) rfl ?_
      rw [HV.out.1, HV.out.2]
      first | exact newQb_zero _ bbr | exact newQb_zero _ (below_set3 bbr (by omega))
    | true =>
      cases B2 with
      | false =>
        have HV := Lib.hid (hS2 rfl)
        have ko_c0 := ko.here.cell 0 _ rfl
        have ko_c1 := ko.here.cell 1 _ rfl
        have ko_c2 := ko.here.cell 2 _ rfl
        have cz0 := ko.here.cell 0 _ rfl
        have fz0 := Lib.frozen_of_heap ko.here 0
        have cz1 := ko.here.cell 1 _ rfl
        have fz1 := Lib.frozen_of_heap ko.here 1
        have cz2 := ko.here.cell 2 _ rfl
        have fz2 := Lib.frozen_of_heap ko.here 2
        clear of
        go_wp2
        refine bodyPost_ret (v := .tuple #[.agg #[.bool false, .slice none 0 0, .slice none 0 0], .bool false]) (by simp [results, Tryz.results12, go_sem, cz0, cz1, cz2]) rfl ?_
        rw [HV.out.1, HV.out.2]
        first | exact newQb_zero _ bbr | exact newQb_zero _ (below_set3 bbr (by omega))
      | true =>
        by_cases heq : ratTextB (siR H, tnR T) = s
        · have HV := Lib.hid (hS4 rfl rfl heq)
          have HEQ := Lib.hid heq
          have hse := bytes_ne' (hS5 rfl heq)
          have hse2 := empty_ne (hS5 rfl heq)
          clear heq hS1 hS2 hS3 hS4 hS5
          have kr_c0 := kr.here.cell 0 _ rfl
          have kr_c1 := kr.here.cell 1 _ rfl
          have kr_c2 := kr.here.cell 2 _ rfl
          go_wp2_with fail
          clear kn_c0 kn_c1 kr_c0 kr_c1 kr_c2
          refine ((implRatText_any _ (siR H, tnR T) _ (pair_sz H T) of.here (HS.out.below bbr) (HT.out.below bbr)).mono fun _ _ h => postT_eq HEQ.out h).mono ?_
          rintro e w4 ⟨rfl, b4⟩
          have bb4 := Below.next bbr b4
          replace ko := ko.below b4
          replace kn := kn.below b4
          replace kr := kr.below b4
          replace of := of.below b4
          have hlo := of.lt
          have hk := ko.lt (w.heap.size) (by simp)
          have HW := Lib.hid (newQb_at (r := w.heap.size) (b := true) (B := w.heap.size + 1) of (fun g hg => ⟨by have := HLO.out g hg; omega, of.lt g hg⟩) (by omega) (Nat.le_refl _) bb4)
          have kr_c0 := kr.here.cell 0 _ rfl
          have kr_c1 := kr.here.cell 1 _ rfl
          have kr_c2 := kr.here.cell 2 _ rfl
          have cz0 := ko.here.cell 0 _ rfl
          have fz0 := Lib.frozen_of_heap ko.here 0
          have cz1 := ko.here.cell 1 _ rfl
          have fz1 := Lib.frozen_of_heap ko.here 1
          have cz2 := ko.here.cell 2 _ rfl
          have fz2 := Lib.frozen_of_heap ko.here 2
          clear of ko kr
          go_wp2
          refine bodyPost_ret (v := .tuple #[.agg #[.bool _, .slice A1 _ c1, .slice A2 _ c2], .bool true]) (by simp [results, Tryz.results12, go_sem, cz0, cz1, cz2]; first | exact ⟨rfl, rfl, rfl⟩ | exact ⟨rfl, rfl⟩ | exact rfl) rfl ?_
          rw [HV.out.1, HV.out.2]
          exact HW.out
        · have HBD := Lib.hid (hS3 heq)
          have hne := bytes_ne' heq
          clear heq hS1 hS2 hS3 hS4 hS5
          obtain ⟨X, hX⟩ : ∃ X, ratTextB (siR H, tnR T) = X := ⟨_, rfl⟩
          have EX := Lib.hid hX
          rw [hX] at hne
          clear hX
          have kr_c0 := kr.here.cell 0 _ rfl
          have kr_c1 := kr.here.cell 1 _ rfl
          have kr_c2 := kr.here.cell 2 _ rfl
          go_wp2_with fail
          clear kn_c0 kn_c1 kr_c0 kr_c1 kr_c2
          refine ((implRatText_any _ (siR H, tnR T) _ (pair_sz H T) of.here (HS.out.below bbr) (HT.out.below bbr)).mono fun _ _ h => postT_eq EX.out h).mono ?_
          rintro e w4 ⟨rfl, b4⟩
          have bb4 := Below.next bbr b4
          replace ko := ko.below b4
          replace kn := kn.below b4
          replace kr := kr.below b4
          replace of := of.below b4
          have HV := Lib.hid (HBD.out)
          have ko_c0 := ko.here.cell 0 _ rfl
          have ko_c1 := ko.here.cell 1 _ rfl
          have ko_c2 := ko.here.cell 2 _ rfl
          have cz0 := ko.here.cell 0 _ rfl
          have fz0 := Lib.frozen_of_heap ko.here 0
          have cz1 := ko.here.cell 1 _ rfl
          have fz1 := Lib.frozen_of_heap ko.here 1
          have cz2 := ko.here.cell 2 _ rfl
          have fz2 := Lib.frozen_of_heap ko.here 2
          clear of
          go_wp2
          refine bodyPost_ret (v := .tuple #[.agg #[.bool false, .slice none 0 0, .slice none 0 0], .bool false]) (by simp [results, Tryz.results12, go_sem, cz0, cz1, cz2]) rfl ?_
          rw [HV.out.1, HV.out.2]
          first | exact newQb_zero _ bb4 | exact newQb_zero _ (below_set3 bb4 (by omega))
  · skip
    have HCT := Lib.hid h
    go_enter Tryz.func12, Tryz.ntmps12
    go_wp2_with fail
    refine (cut_some s o _ hs HCT.out).mono ?_
    rintro e w1 ⟨rfl, b1⟩
    have bb1 := Below.next bb0 b1
    replace ko := ko.below b1
    generalize tailB s = T at *
    generalize headB s = H at *
    go_wp2_with fail
    refine (implStrInt_any H _ (by omega) (HT.out.below bb1)).mono ?_
    rintro e w2 ⟨u1, rfl, on, b2⟩
    obtain ⟨A1, c1, rfl⟩ := own_len on
    have bb2 := Below.next bb1 b2
    replace ko := ko.below b2
    have kn := box_new (w2) #[.bool (siR H).1, .slice A1 (siR H).2.length c1] 25
    have aln := below_al (Below.refl (w2).heap.size (w2)) (.cells #[.bool (siR H).1, .slice A1 (siR H).2.length c1] 25)
    have bbn := Below.next bb2 aln
    replace ko := ko.below aln
    go_wp2_with fail
    refine (implTextNat_any T _ (by omega) (HT.out.below bbn)).mono ?_
    rintro e w3 ⟨u2, rfl, od, b3⟩
    obtain ⟨A2, c2, rfl⟩ := own_len od
    have bb3 := Below.next bbn b3
    replace ko := ko.below b3
    replace kn := kn.below b3
    have hz2 := b2.size
    have hz3 := b3.size
    have hzn := aln.size
    have onr := own_below (own_below (own_below on aln) b3) (below_al (Below.refl _ _) (.cells #[.bool (siR H).1, .slice A1 (siR H).2.length c1, .slice A2 (tnR T).length c2] 27))
    have odr := own_below od (below_al (Below.refl _ _) (.cells #[.bool (siR H).1, .slice A1 (siR H).2.length c1, .slice A2 (tnR T).length c2] 27))
    have hap : ∀ g, (Value.slice A1 (siR H).2.length c1).ownBlock = some g → (Value.slice A2 (tnR T).length c2).ownBlock ≠ some g := fun g h1 h2 => by
      have h3 := (own_lt on h1).2
      have h4 := (own_lt od h2).1
      omega
    have hb1 := b1.size
    have HLO := Lib.hid (show ∀ g ∈ partsB (Value.slice A1 (siR H).2.length c1) (Value.slice A2 (tnR T).length c2), w.heap.size + 1 ≤ g from fun g hg => by
      have hk0 := (box_new w #[.bool false, .slice none 0 0, .slice none 0 0] 27).lt w.heap.size (by simp)
      simp at hk0 hb1
      rcases List.mem_append.1 hg with hg | hg
      · have := own_within on g hg; omega
      · have := own_within od g hg; omega)
    clear on od
    have kn_c0 := kn.here.cell 0 _ rfl
    have kn_c1 := kn.here.cell 1 _ rfl
    have hS1 := HSR.out.b1
    have hS2 := HSR.out.b2
    have hS3 := HSR.out.b3
    have hS4 := HSR.out.ok
    have hS5 := HSR.out.ne
    have kr := box_new (w3) #[.bool (siR H).1, .slice A1 (siR H).2.length c1, .slice A2 (tnR T).length c2] 27
    have alr := below_al (Below.refl (w3).heap.size (w3)) (.cells #[.bool (siR H).1, .slice A1 (siR H).2.length c1, .slice A2 (tnR T).length c2] 27)
    have bbr := Below.next bb3 alr
    replace ko := ko.below alr
    replace kn := kn.below alr
    have of := partsQ_at (x := ((siR H, tnR T) : QI)) onr odr hap
    obtain ⟨B1, hB1⟩ : ∃ B, siB H = B := ⟨_, rfl⟩
    obtain ⟨B2, hB2⟩ : ∃ B, decOk T = B := ⟨_, rfl⟩
    rw [hB1] at hS1 hS4 hS5 ⊢
    rw [hB2] at hS2 hS4 ⊢
    have HB2 := Lib.hid hB2
    clear hB1 hB2 hap onr odr
    cases B1 with
    | false =>
      have HV := Lib.hid (hS1 rfl)
      have ko_c0 := ko.here.cell 0 _ rfl
      have ko_c1 := ko.here.cell 1 _ rfl
      have ko_c2 := ko.here.cell 2 _ rfl
      have cz0 := ko.here.cell 0 _ rfl
      have fz0 := Lib.frozen_of_heap ko.here 0
      have cz1 := ko.here.cell 1 _ rfl
      have fz1 := Lib.frozen_of_heap ko.here 1
      have cz2 := ko.here.cell 2 _ rfl
      have fz2 := Lib.frozen_of_heap ko.here 2
      clear of
      go_wp2
      refine bodyPost_ret (v := .tuple #[.agg #[.bool false, .slice none 0 0, .slice none 0 0], .bool false]) (by simp [results, Tryz.results12, go_sem, cz0, cz1, cz2]) rfl ?_
      rw [HV.out.1, HV.out.2]
      first | exact newQb_zero _ bbr | exact newQb_zero _ (below_set3 bbr (by omega))
    | true =>
      cases B2 with
      | false =>
        have HV := Lib.hid (hS2 rfl)
        have ko_c0 := ko.here.cell 0 _ rfl
        have ko_c1 := ko.here.cell 1 _ rfl
        have ko_c2 := ko.here.cell 2 _ rfl
        have cz0 := ko.here.cell 0 _ rfl
        have fz0 := Lib.frozen_of_heap ko.here 0
        have cz1 := ko.here.cell 1 _ rfl
        have fz1 := Lib.frozen_of_heap ko.here 1
        have cz2 := ko.here.cell 2 _ rfl
        have fz2 := Lib.frozen_of_heap ko.here 2
        clear of
        go_wp2
        refine bodyPost_ret (v := .tuple #[.agg #[.bool false, .slice none 0 0, .slice none 0 0], .bool false]) (by simp [results, Tryz.results12, go_sem, cz0, cz1, cz2]) rfl ?_
        rw [HV.out.1, HV.out.2]
        first | exact newQb_zero _ bbr | exact newQb_zero _ (below_set3 bbr (by omega))
      | true =>
        by_cases heq : ratTextB (siR H, tnR T) = s
        · have HV := Lib.hid (hS4 rfl rfl heq)
          have HEQ := Lib.hid heq
          have hse := bytes_ne' (hS5 rfl heq)
          have hse2 := empty_ne (hS5 rfl heq)
          clear heq hS1 hS2 hS3 hS4 hS5
          have kr_c0 := kr.here.cell 0 _ rfl
          have kr_c1 := kr.here.cell 1 _ rfl
          have kr_c2 := kr.here.cell 2 _ rfl
          go_wp2_with fail
          clear kn_c0 kn_c1 kr_c0 kr_c1 kr_c2
          refine ((implRatText_any _ (siR H, tnR T) _ (pair_sz H T) of.here (HS.out.below bbr) (HT.out.below bbr)).mono fun _ _ h => postT_eq HEQ.out h).mono ?_
          rintro e w4 ⟨rfl, b4⟩
          have bb4 := Below.next bbr b4
          replace ko := ko.below b4
          replace kn := kn.below b4
          replace kr := kr.below b4
          replace of := of.below b4
          have hlo := of.lt
          have hk := ko.lt (w.heap.size) (by simp)
          have HW := Lib.hid (newQb_at (r := w.heap.size) (b := true) (B := w.heap.size + 1) of (fun g hg => ⟨by have := HLO.out g hg; omega, of.lt g hg⟩) (by omega) (Nat.le_refl _) bb4)
          have kr_c0 := kr.here.cell 0 _ rfl
          have kr_c1 := kr.here.cell 1 _ rfl
          have kr_c2 := kr.here.cell 2 _ rfl
          have cz0 := ko.here.cell 0 _ rfl
          have fz0 := Lib.frozen_of_heap ko.here 0
          have cz1 := ko.here.cell 1 _ rfl
          have fz1 := Lib.frozen_of_heap ko.here 1
          have cz2 := ko.here.cell 2 _ rfl
          have fz2 := Lib.frozen_of_heap ko.here 2
          clear of ko kr
          go_wp2
          refine bodyPost_ret (v := .tuple #[.agg #[.bool _, .slice A1 _ c1, .slice A2 _ c2], .bool true]) (by simp [results, Tryz.results12, go_sem, cz0, cz1, cz2]; first | exact ⟨rfl, rfl, rfl⟩ | exact ⟨rfl, rfl⟩ | exact rfl) rfl ?_
          rw [HV.out.1, HV.out.2]
          exact HW.out
        · have HBD := Lib.hid (hS3 heq)
          have hne := bytes_ne' heq
          clear heq hS1 hS2 hS3 hS4 hS5
          obtain ⟨X, hX⟩ : ∃ X, ratTextB (siR H, tnR T) = X := ⟨_, rfl⟩
          have EX := Lib.hid hX
          rw [hX] at hne
          clear hX
          have kr_c0 := kr.here.cell 0 _ rfl
          have kr_c1 := kr.here.cell 1 _ rfl
          have kr_c2 := kr.here.cell 2 _ rfl
          go_wp2_with fail
          clear kn_c0 kn_c1 kr_c0 kr_c1 kr_c2
          refine ((implRatText_any _ (siR H, tnR T) _ (pair_sz H T) of.here (HS.out.below bbr) (HT.out.below bbr)).mono fun _ _ h => postT_eq EX.out h).mono ?_
          rintro e w4 ⟨rfl, b4⟩
          have bb4 := Below.next bbr b4
          replace ko := ko.below b4
          replace kn := kn.below b4
          replace kr := kr.below b4
          replace of := of.below b4
          have HV := Lib.hid (HBD.out)
          have ko_c0 := ko.here.cell 0 _ rfl
          have ko_c1 := ko.here.cell 1 _ rfl
          have ko_c2 := ko.here.cell 2 _ rfl
          have cz0 := ko.here.cell 0 _ rfl
          have fz0 := Lib.frozen_of_heap ko.here 0
          have cz1 := ko.here.cell 1 _ rfl
          have fz1 := Lib.frozen_of_heap ko.here 1
          have cz2 := ko.here.cell 2 _ rfl
          have fz2 := Lib.frozen_of_heap ko.here 2
          clear of
          go_wp2
          refine bodyPost_ret (v := .tuple #[.agg #[.bool false, .slice none 0 0, .slice none 0 0], .bool false]) (by simp [results, Tryz.results12, go_sem, cz0, cz1, cz2]) rfl ?_
          rw [HV.out.1, HV.out.2]
          first | exact newQb_zero _ bb4 | exact newQb_zero _ (below_set3 bb4 (by omega))
set_option maxHeartbeats 2000000 in
set_option maxRecDepth 100000 in
theorem specTextRat_any (s : ByteArray) (w : World) (hs : s.size ≤ 1048576) :
    Calls Tryz.prog 24 #[.string s] w (PostQb (trQ s) (readB s) w) := by
  have hhl := headB_le s
  have htl := tailB_le s hs
  have bb0 : Below w.heap.size w (w.alloc (.cells #[.bool false, .slice none 0 0, .slice none 0 0] 27)) := below_al (Below.refl _ _) _
  have ko := (box_new w #[.bool false, .slice none 0 0, .slice none 0 0] 27)
  rcases slash_cases s with h | ⟨o, h, _⟩
  · have HSR := Lib.hid (readAs_tail s)
    have HP := Lib.hid ((cutView s).one (by omega))
    have eh : headB s = s := by unfold headB; rw [if_pos (by omega)]
    have et : tailB s = ⟨#[49]⟩ := by unfold tailB; rw [if_pos (by omega)]
    rw [eh, et] at HSR
    clear htl hhl et eh
    obtain ⟨T, hT⟩ : ∃ T, T = (⟨#[49]⟩ : ByteArray) := ⟨_, rfl⟩
    have e1 : tnR T = [1] := by rw [hT]; exact one_text.1
    have E1 := Lib.hid e1
    have E2 := Lib.hid (show decOk T = true by rw [hT]; exact one_text.2)
    rw [← hT] at HSR
    clear hT e1
    obtain ⟨H, hH⟩ : ∃ H, H = s := ⟨_, rfl⟩
    have HH := Lib.hid hH
    have hhl : H.size ≤ s.size := by rw [hH]; omega
    have hsr2 : ReadAs s H T := by rw [hH]; exact HSR.out
    clear hH HSR
    have HSR := Lib.hid hsr2
    clear hsr2
    go_enter Tryz.func24, Tryz.ntmps24
    go_wp2_with fail
    refine (specCutAt_any s ⟨#[47]⟩ _ hs (by decide)).mono ?_
    rintro e w1 ⟨v, rfl, hrow0, b1⟩
    rw [show cutAtB s ⟨#[47]⟩ = _ from HP.out] at hrow0
    have hrow1 := Row.of_own hrow0
    clear hrow0
    obtain ⟨Av, cv, rfl, hAv⟩ := hrow1
    have bb1 := Below.next bb0 b1
    replace ko := ko.below b1
    obtain ⟨a0, rfl, _, hab, hc0⟩ := hAv 0 (.string H) (by rw [HH.out]; rfl)
    clear hAv
    rw [show (strsV [s]).length = 1 from rfl]
    have hc0 : w1.cell? a0 = some (.string H) := hc0
    go_wp2_with fail
    try clear hc0
    skip
    refine (specStrInt_any H _ (by omega)).mono ?_
    rintro e w2 ⟨u1, rfl, on, b2⟩
    obtain ⟨A1, c1, rfl⟩ := own_len on
    have bb2 := Below.next bb1 b2
    replace ko := ko.below b2
    have kn := box_new (w2) #[.bool (siR H).1, .slice A1 (siR H).2.length c1] 25
    have aln := below_al (Below.refl (w2).heap.size (w2)) (.cells #[.bool (siR H).1, .slice A1 (siR H).2.length c1] 25)
    have bbn := Below.next bb2 aln
    replace ko := ko.below aln
    have kl := box_new ((w2.alloc (.cells #[.bool (siR H).1, .slice A1 (siR H).2.length c1] 25))) #[.int .i64 1] 3
    have all := below_al (Below.refl ((w2.alloc (.cells #[.bool (siR H).1, .slice A1 (siR H).2.length c1] 25))).heap.size ((w2.alloc (.cells #[.bool (siR H).1, .slice A1 (siR H).2.length c1] 25)))) (.cells #[.int .i64 1] 3)
    have bbl := Below.next bbn all
    replace ko := ko.below all
    replace kn := kn.below all
    have od : ((w2.alloc (.cells #[.bool (siR H).1, .slice A1 (siR H).2.length c1] 25)).alloc (.cells #[.int .i64 1] 3)).ownsRow (w2.heap.size + 1) 3 1 (.slice (some ⟨w2.heap.size + 1, 0, none⟩) 1 1) (tnR T).length (intsV (tnR T)) := by
      rw [E1.out]
      have h := World.ownsRow_lit (base := w2.heap.size + 1) (e := 3) (size := 1) (w2.alloc (.cells #[.bool (siR H).1, .slice A1 (siR H).2.length c1] 25)) #[.int .i64 1] 1 (by simp) (by unfold maxLen; omega) rfl
      rw [show (w2.alloc (.cells #[.bool (siR H).1, .slice A1 (siR H).2.length c1] 25)).heap.size = w2.heap.size + 1 by simp] at h
      exact h
    have hz2 := b2.size
    have onr := own_below (own_below (own_below on aln) all) (below_al (Below.refl _ _) (.cells #[.bool (siR H).1, .slice A1 (siR H).2.length c1, .slice (some ⟨w2.heap.size + 1, 0, none⟩) 1 1] 27))
    have odr := own_below od (below_al (Below.refl _ _) (.cells #[.bool (siR H).1, .slice A1 (siR H).2.length c1, .slice (some ⟨w2.heap.size + 1, 0, none⟩) 1 1] 27))
    have hap : ∀ g, (Value.slice A1 (siR H).2.length c1).ownBlock = some g → (Value.slice (some ⟨w2.heap.size + 1, 0, none⟩) 1 1).ownBlock ≠ some g := fun g h1 h2 => by
      have h3 := (own_lt on h1).2
      have h4 := (own_lt od h2).1
      omega
    have hb1 := b1.size
    have HLO := Lib.hid (show ∀ g ∈ partsB (Value.slice A1 (siR H).2.length c1) (Value.slice (some ⟨w2.heap.size + 1, 0, none⟩) 1 1), w.heap.size + 1 ≤ g from fun g hg => by
      have hk0 := (box_new w #[.bool false, .slice none 0 0, .slice none 0 0] 27).lt w.heap.size (by simp)
      simp at hk0 hb1
      rcases List.mem_append.1 hg with hg | hg
      · have := own_within on g hg; omega
      · have h5 := own_within od g hg; have h6 := b2.size; simp at h5; omega)
    clear on od kl
    have kn_c0 := kn.here.cell 0 _ rfl
    have kn_c1 := kn.here.cell 1 _ rfl
    have hS1 := HSR.out.b1
    have hS2 := HSR.out.b2
    have hS3 := HSR.out.b3
    have hS4 := HSR.out.ok
    have hS5 := HSR.out.ne
    have kr := box_new (((w2.alloc (.cells #[.bool (siR H).1, .slice A1 (siR H).2.length c1] 25)).alloc (.cells #[.int .i64 1] 3))) #[.bool (siR H).1, .slice A1 (siR H).2.length c1, .slice (some ⟨w2.heap.size + 1, 0, none⟩) 1 1] 27
    have alr := below_al (Below.refl (((w2.alloc (.cells #[.bool (siR H).1, .slice A1 (siR H).2.length c1] 25)).alloc (.cells #[.int .i64 1] 3))).heap.size (((w2.alloc (.cells #[.bool (siR H).1, .slice A1 (siR H).2.length c1] 25)).alloc (.cells #[.int .i64 1] 3)))) (.cells #[.bool (siR H).1, .slice A1 (siR H).2.length c1, .slice (some ⟨w2.heap.size + 1, 0, none⟩) 1 1] 27)
    have bbr := Below.next bbl alr
    replace ko := ko.below alr
    replace kn := kn.below alr
    rw [show ((w2.alloc (.cells #[.bool (siR H).1, .slice A1 (siR H).2.length c1] 25)).alloc (.cells #[.int .i64 1] 3)).heap.size = w2.heap.size + 1 + 1 by simp] at kr
    have of := partsQ_at (x := ((siR H, tnR T) : QI)) onr odr hap
    obtain ⟨B1, hB1⟩ : ∃ B, siB H = B := ⟨_, rfl⟩
    obtain ⟨B2, hB2⟩ : ∃ B, decOk T = B := ⟨_, rfl⟩
    rw [hB1] at hS1 hS4 hS5 ⊢
    rw [hB2] at hS2 hS4
    have HB2 := Lib.hid hB2
    clear hB1 hB2 hap onr odr
    cases B1 with
    | false =>
      have HV := Lib.hid (hS1 rfl)
      have ko_c0 := ko.here.cell 0 _ rfl
      have ko_c1 := ko.here.cell 1 _ rfl
      have ko_c2 := ko.here.cell 2 _ rfl
      have cz0 := ko.here.cell 0 _ rfl
      have fz0 := Lib.frozen_of_heap ko.here 0
      have cz1 := ko.here.cell 1 _ rfl
      have fz1 := Lib.frozen_of_heap ko.here 1
      have cz2 := ko.here.cell 2 _ rfl
      have fz2 := Lib.frozen_of_heap ko.here 2
      clear of
      go_wp2
      refine bodyPost_ret (v := .tuple #[.agg #[.bool false, .slice none 0 0, .slice none 0 0], .bool false]) (by simp [results, Tryz.results24, go_sem, cz0, cz1, cz2]) rfl ?_
      rw [HV.out.1, HV.out.2]
      first | exact newQb_zero _ bbr | exact newQb_zero _ (below_set3 bbr (by omega))
    | true =>
      cases B2 with
      | false =>
        exact absurd (E2.out.symm.trans HB2.out) (by decide)
      | true =>
        by_cases heq : ratTextB (siR H, tnR T) = s
        · have HV := Lib.hid (hS4 rfl rfl heq)
          have HEQ := Lib.hid heq
          have hse := bytes_ne' (hS5 rfl heq)
          have hse2 := empty_ne (hS5 rfl heq)
          clear heq hS1 hS2 hS3 hS4 hS5
          have kr_c0 := kr.here.cell 0 _ rfl
          have kr_c1 := kr.here.cell 1 _ rfl
          have kr_c2 := kr.here.cell 2 _ rfl
          go_wp2_with fail
          clear kn_c0 kn_c1 kr_c0 kr_c1 kr_c2
          refine ((specRatText_any _ (siR H, tnR T) _ (pair_sz H T) of.here).mono fun _ _ h => postT_eq HEQ.out h).mono ?_
          rintro e w3 ⟨rfl, b3⟩
          have bb3 := Below.next bbr b3
          replace ko := ko.below b3
          replace kn := kn.below b3
          replace kr := kr.below b3
          replace of := of.below b3
          have kr_c0 := kr.here.cell 0 _ rfl
          have kr_c1 := kr.here.cell 1 _ rfl
          have kr_c2 := kr.here.cell 2 _ rfl
          go_wp2_with fail
          clear kr_c0 kr_c1 kr_c2
          refine ((specRatText_any _ (siR H, tnR T) _ (pair_sz H T) of.here).mono fun _ _ h => postT_eq HEQ.out h).mono ?_
          rintro e w4 ⟨rfl, b4⟩
          have bb4 := Below.next bb3 b4
          replace ko := ko.below b4
          replace kn := kn.below b4
          replace kr := kr.below b4
          replace of := of.below b4
          have hlo := of.lt
          have hk := ko.lt (w.heap.size) (by simp)
          have HW := Lib.hid (newQb_at (r := w.heap.size) (b := true) (B := w.heap.size + 1) of (fun g hg => ⟨by have := HLO.out g hg; omega, of.lt g hg⟩) (by omega) (Nat.le_refl _) bb4)
          have kr_c0 := kr.here.cell 0 _ rfl
          have kr_c1 := kr.here.cell 1 _ rfl
          have kr_c2 := kr.here.cell 2 _ rfl
          have cz0 := ko.here.cell 0 _ rfl
          have fz0 := Lib.frozen_of_heap ko.here 0
          have cz1 := ko.here.cell 1 _ rfl
          have fz1 := Lib.frozen_of_heap ko.here 1
          have cz2 := ko.here.cell 2 _ rfl
          have fz2 := Lib.frozen_of_heap ko.here 2
          clear of ko kr
          go_wp2
          refine bodyPost_ret (v := .tuple #[.agg #[.bool _, .slice A1 _ c1, .slice (some ⟨w2.heap.size + 1, 0, none⟩) 1 1], .bool true]) (by simp [results, Tryz.results24, go_sem, cz0, cz1, cz2]; first | exact ⟨rfl, rfl, rfl⟩ | exact ⟨rfl, rfl⟩ | exact rfl) rfl ?_
          rw [HV.out.1, HV.out.2]
          exact HW.out
        · have HBD := Lib.hid (hS3 heq)
          have hne := bytes_ne' heq
          clear heq hS1 hS2 hS3 hS4 hS5
          obtain ⟨X, hX⟩ : ∃ X, ratTextB (siR H, tnR T) = X := ⟨_, rfl⟩
          have EX := Lib.hid hX
          rw [hX] at hne
          clear hX
          have kr_c0 := kr.here.cell 0 _ rfl
          have kr_c1 := kr.here.cell 1 _ rfl
          have kr_c2 := kr.here.cell 2 _ rfl
          go_wp2_with fail
          clear kn_c0 kn_c1 kr_c0 kr_c1 kr_c2
          refine ((specRatText_any _ (siR H, tnR T) _ (pair_sz H T) of.here).mono fun _ _ h => postT_eq EX.out h).mono ?_
          rintro e w3 ⟨rfl, b3⟩
          have bb3 := Below.next bbr b3
          replace ko := ko.below b3
          replace kn := kn.below b3
          replace kr := kr.below b3
          replace of := of.below b3
          by_cases hxe : X = ⟨#[]⟩
          · subst hxe
            have HV := Lib.hid (HBD.out)
            have ko_c0 := ko.here.cell 0 _ rfl
            have ko_c1 := ko.here.cell 1 _ rfl
            have ko_c2 := ko.here.cell 2 _ rfl
            have cz0 := ko.here.cell 0 _ rfl
            have fz0 := Lib.frozen_of_heap ko.here 0
            have cz1 := ko.here.cell 1 _ rfl
            have fz1 := Lib.frozen_of_heap ko.here 1
            have cz2 := ko.here.cell 2 _ rfl
            have fz2 := Lib.frozen_of_heap ko.here 2
            clear of
            go_wp2
            refine bodyPost_ret (v := .tuple #[.agg #[.bool false, .slice none 0 0, .slice none 0 0], .bool false]) (by simp [results, Tryz.results24, go_sem, cz0, cz1, cz2]) rfl ?_
            rw [HV.out.1, HV.out.2]
            first | exact newQb_zero _ bb3 | exact newQb_zero _ (below_set3 bb3 (by omega))
          · have hxn := bytes_ne' hxe
            have hxn2 := empty_ne hxe
            clear hxe
            have kr_c0 := kr.here.cell 0 _ rfl
            have kr_c1 := kr.here.cell 1 _ rfl
            have kr_c2 := kr.here.cell 2 _ rfl
            go_wp2_with fail
            clear kr_c0 kr_c1 kr_c2
            refine ((specRatText_any _ (siR H, tnR T) _ (pair_sz H T) of.here).mono fun _ _ h => postT_eq EX.out h).mono ?_
            rintro e w4 ⟨rfl, b4⟩
            have bb4 := Below.next bb3 b4
            replace ko := ko.below b4
            replace kn := kn.below b4
            replace kr := kr.below b4
            replace of := of.below b4
            have HV := Lib.hid (HBD.out)
            have ko_c0 := ko.here.cell 0 _ rfl
            have ko_c1 := ko.here.cell 1 _ rfl
            have ko_c2 := ko.here.cell 2 _ rfl
            have cz0 := ko.here.cell 0 _ rfl
            have fz0 := Lib.frozen_of_heap ko.here 0
            have cz1 := ko.here.cell 1 _ rfl
            have fz1 := Lib.frozen_of_heap ko.here 1
            have cz2 := ko.here.cell 2 _ rfl
            have fz2 := Lib.frozen_of_heap ko.here 2
            clear of
            go_wp2
            refine bodyPost_ret (v := .tuple #[.agg #[.bool false, .slice none 0 0, .slice none 0 0], .bool false]) (by simp [results, Tryz.results24, go_sem, cz0, cz1, cz2]) rfl ?_
            rw [HV.out.1, HV.out.2]
            first | exact newQb_zero _ bb4 | exact newQb_zero _ (below_set3 bb4 (by omega))
  · obtain ⟨T, t, hP, hT, hts⟩ := (cutView s).two o h
    have HP := Lib.hid hP
    have HSR := Lib.hid (show ReadAs s (headB s) T by
      rcases hT with rfl | ⟨h1, h2⟩
      · exact readAs_tail s
      · exact readAs_two h1 h2)
    clear hP hT htl
    generalize headB s = H at *
    go_enter Tryz.func24, Tryz.ntmps24
    go_wp2_with fail
    refine (specCutAt_any s ⟨#[47]⟩ _ hs (by decide)).mono ?_
    rintro e w1 ⟨v, rfl, hrow0, b1⟩
    rw [show cutAtB s ⟨#[47]⟩ = _ from HP.out] at hrow0
    have hrow1 := Row.of_own hrow0
    clear hrow0
    obtain ⟨Av, cv, rfl, hAv⟩ := hrow1
    have bb1 := Below.next bb0 b1
    replace ko := ko.below b1
    obtain ⟨a0, rfl, _, hab, hc0⟩ := hAv 0 (.string H) rfl
    obtain ⟨a1, ha1, _, hab1, hc1⟩ := hAv 1 (.string T) rfl
    injection ha1 with ha1
    subst ha1
    clear hAv
    have hL : (2 : Int) ≤ ((strsV (H :: T :: t)).length : Int) := by unfold strsV; simp; omega
    generalize (strsV (H :: T :: t)).length = L at *
    have HC1 := Lib.hid (show ∀ W, Below w1.heap.size w1 W → W.cell? (a0.add 1) = some (.string T) from fun W hb => (hb.cell (cell_lt hc1)).trans hc1)
    clear hc1
    have hc0 : w1.cell? a0 = some (.string H) := hc0
    go_wp2_with fail
    try clear hc0
    skip
    refine (specStrInt_any H _ (by omega)).mono ?_
    rintro e w2 ⟨u1, rfl, on, b2⟩
    obtain ⟨A1, c1, rfl⟩ := own_len on
    have bb2 := Below.next bb1 b2
    replace ko := ko.below b2
    have kn := box_new (w2) #[.bool (siR H).1, .slice A1 (siR H).2.length c1] 25
    have aln := below_al (Below.refl (w2).heap.size (w2)) (.cells #[.bool (siR H).1, .slice A1 (siR H).2.length c1] 25)
    have bbn := Below.next bb2 aln
    replace ko := ko.below aln
    have kl := box_new ((w2.alloc (.cells #[.bool (siR H).1, .slice A1 (siR H).2.length c1] 25))) #[.int .i64 1] 3
    have all := below_al (Below.refl ((w2.alloc (.cells #[.bool (siR H).1, .slice A1 (siR H).2.length c1] 25))).heap.size ((w2.alloc (.cells #[.bool (siR H).1, .slice A1 (siR H).2.length c1] 25)))) (.cells #[.int .i64 1] 3)
    have bbl := Below.next bbn all
    replace ko := ko.below all
    replace kn := kn.below all
    have hc1 := HC1.out _ (Below.next b2 (Below.next aln all))
    replace hc1 : World.cell? _ ⟨a0.block, a0.off + 1, none⟩ = some (.string T) := hc1
    go_wp2_with fail
    try clear hc1
    skip
    refine ((specTextNat_any T _ (by omega)).mono fun _ _ h => h.new).mono ?_
    rintro e w3 ⟨u2, rfl, od, b3⟩
    obtain ⟨A2, c2, rfl⟩ := own_len od
    have bb3 := Below.next bbl b3
    replace ko := ko.below b3
    replace kn := kn.below b3
    replace kl := kl.below b3
    have hz2 := b2.size
    have hz3 := b3.size
    have hzn := aln.size
    have hzl := all.size
    have onr := own_below (own_below (own_below (own_below on aln) all) b3) (below_al (Below.refl _ _) (.cells #[.bool (siR H).1, .slice A1 (siR H).2.length c1, .slice A2 (tnR T).length c2] 27))
    have odr := own_below od (below_al (Below.refl _ _) (.cells #[.bool (siR H).1, .slice A1 (siR H).2.length c1, .slice A2 (tnR T).length c2] 27))
    have hap : ∀ g, (Value.slice A1 (siR H).2.length c1).ownBlock = some g → (Value.slice A2 (tnR T).length c2).ownBlock ≠ some g := fun g h1 h2 => by
      have h3 := (own_lt on h1).2
      have h4 := (own_lt od h2).1
      omega
    have hb1 := b1.size
    have HLO := Lib.hid (show ∀ g ∈ partsB (Value.slice A1 (siR H).2.length c1) (Value.slice A2 (tnR T).length c2), w.heap.size + 1 ≤ g from fun g hg => by
      have hk0 := (box_new w #[.bool false, .slice none 0 0, .slice none 0 0] 27).lt w.heap.size (by simp)
      simp at hk0 hb1
      rcases List.mem_append.1 hg with hg | hg
      · have := own_within on g hg; omega
      · have h5 := own_within od g hg; have h6 := b2.size; simp at h5; omega)
    clear on od kl
    have kn_c0 := kn.here.cell 0 _ rfl
    have kn_c1 := kn.here.cell 1 _ rfl
    have hS1 := HSR.out.b1
    have hS2 := HSR.out.b2
    have hS3 := HSR.out.b3
    have hS4 := HSR.out.ok
    have hS5 := HSR.out.ne
    have kr := box_new (w3) #[.bool (siR H).1, .slice A1 (siR H).2.length c1, .slice A2 (tnR T).length c2] 27
    have alr := below_al (Below.refl (w3).heap.size (w3)) (.cells #[.bool (siR H).1, .slice A1 (siR H).2.length c1, .slice A2 (tnR T).length c2] 27)
    have bbr := Below.next bb3 alr
    replace ko := ko.below alr
    replace kn := kn.below alr
    have of := partsQ_at (x := ((siR H, tnR T) : QI)) onr odr hap
    obtain ⟨B1, hB1⟩ : ∃ B, siB H = B := ⟨_, rfl⟩
    obtain ⟨B2, hB2⟩ : ∃ B, decOk T = B := ⟨_, rfl⟩
    rw [hB1] at hS1 hS4 hS5 ⊢
    rw [hB2] at hS2 hS4 ⊢
    have HB2 := Lib.hid hB2
    clear hB1 hB2 hap onr odr
    cases B1 with
    | false =>
      have HV := Lib.hid (hS1 rfl)
      have ko_c0 := ko.here.cell 0 _ rfl
      have ko_c1 := ko.here.cell 1 _ rfl
      have ko_c2 := ko.here.cell 2 _ rfl
      have cz0 := ko.here.cell 0 _ rfl
      have fz0 := Lib.frozen_of_heap ko.here 0
      have cz1 := ko.here.cell 1 _ rfl
      have fz1 := Lib.frozen_of_heap ko.here 1
      have cz2 := ko.here.cell 2 _ rfl
      have fz2 := Lib.frozen_of_heap ko.here 2
      clear of
      go_wp2
      refine bodyPost_ret (v := .tuple #[.agg #[.bool false, .slice none 0 0, .slice none 0 0], .bool false]) (by simp [results, Tryz.results24, go_sem, cz0, cz1, cz2]) rfl ?_
      rw [HV.out.1, HV.out.2]
      first | exact newQb_zero _ bbr | exact newQb_zero _ (below_set3 bbr (by omega))
    | true =>
      cases B2 with
      | false =>
        have HV := Lib.hid (hS2 rfl)
        have ko_c0 := ko.here.cell 0 _ rfl
        have ko_c1 := ko.here.cell 1 _ rfl
        have ko_c2 := ko.here.cell 2 _ rfl
        have cz0 := ko.here.cell 0 _ rfl
        have fz0 := Lib.frozen_of_heap ko.here 0
        have cz1 := ko.here.cell 1 _ rfl
        have fz1 := Lib.frozen_of_heap ko.here 1
        have cz2 := ko.here.cell 2 _ rfl
        have fz2 := Lib.frozen_of_heap ko.here 2
        clear of
        go_wp2
        refine bodyPost_ret (v := .tuple #[.agg #[.bool false, .slice none 0 0, .slice none 0 0], .bool false]) (by simp [results, Tryz.results24, go_sem, cz0, cz1, cz2]) rfl ?_
        rw [HV.out.1, HV.out.2]
        first | exact newQb_zero _ bbr | exact newQb_zero _ (below_set3 bbr (by omega))
      | true =>
        by_cases heq : ratTextB (siR H, tnR T) = s
        · have HV := Lib.hid (hS4 rfl rfl heq)
          have HEQ := Lib.hid heq
          have hse := bytes_ne' (hS5 rfl heq)
          have hse2 := empty_ne (hS5 rfl heq)
          clear heq hS1 hS2 hS3 hS4 hS5
          have kr_c0 := kr.here.cell 0 _ rfl
          have kr_c1 := kr.here.cell 1 _ rfl
          have kr_c2 := kr.here.cell 2 _ rfl
          go_wp2_with fail
          clear kn_c0 kn_c1 kr_c0 kr_c1 kr_c2
          refine ((specRatText_any _ (siR H, tnR T) _ (pair_sz H T) of.here).mono fun _ _ h => postT_eq HEQ.out h).mono ?_
          rintro e w4 ⟨rfl, b4⟩
          have bb4 := Below.next bbr b4
          replace ko := ko.below b4
          replace kn := kn.below b4
          replace kr := kr.below b4
          replace of := of.below b4
          have kr_c0 := kr.here.cell 0 _ rfl
          have kr_c1 := kr.here.cell 1 _ rfl
          have kr_c2 := kr.here.cell 2 _ rfl
          go_wp2_with fail
          clear kr_c0 kr_c1 kr_c2
          refine ((specRatText_any _ (siR H, tnR T) _ (pair_sz H T) of.here).mono fun _ _ h => postT_eq HEQ.out h).mono ?_
          rintro e w5 ⟨rfl, b5⟩
          have bb5 := Below.next bb4 b5
          replace ko := ko.below b5
          replace kn := kn.below b5
          replace kr := kr.below b5
          replace of := of.below b5
          have hlo := of.lt
          have hk := ko.lt (w.heap.size) (by simp)
          have HW := Lib.hid (newQb_at (r := w.heap.size) (b := true) (B := w.heap.size + 1) of (fun g hg => ⟨by have := HLO.out g hg; omega, of.lt g hg⟩) (by omega) (Nat.le_refl _) bb5)
          have kr_c0 := kr.here.cell 0 _ rfl
          have kr_c1 := kr.here.cell 1 _ rfl
          have kr_c2 := kr.here.cell 2 _ rfl
          have cz0 := ko.here.cell 0 _ rfl
          have fz0 := Lib.frozen_of_heap ko.here 0
          have cz1 := ko.here.cell 1 _ rfl
          have fz1 := Lib.frozen_of_heap ko.here 1
          have cz2 := ko.here.cell 2 _ rfl
          have fz2 := Lib.frozen_of_heap ko.here 2
          clear of ko kr
          go_wp2
          refine bodyPost_ret (v := .tuple #[.agg #[.bool _, .slice A1 _ c1, .slice A2 _ c2], .bool true]) (by simp [results, Tryz.results24, go_sem, cz0, cz1, cz2]; first | exact ⟨rfl, rfl, rfl⟩ | exact ⟨rfl, rfl⟩ | exact rfl) rfl ?_
          rw [HV.out.1, HV.out.2]
          exact HW.out
        · have HBD := Lib.hid (hS3 heq)
          have hne := bytes_ne' heq
          clear heq hS1 hS2 hS3 hS4 hS5
          obtain ⟨X, hX⟩ : ∃ X, ratTextB (siR H, tnR T) = X := ⟨_, rfl⟩
          have EX := Lib.hid hX
          rw [hX] at hne
          clear hX
          have kr_c0 := kr.here.cell 0 _ rfl
          have kr_c1 := kr.here.cell 1 _ rfl
          have kr_c2 := kr.here.cell 2 _ rfl
          go_wp2_with fail
          clear kn_c0 kn_c1 kr_c0 kr_c1 kr_c2
          refine ((specRatText_any _ (siR H, tnR T) _ (pair_sz H T) of.here).mono fun _ _ h => postT_eq EX.out h).mono ?_
          rintro e w4 ⟨rfl, b4⟩
          have bb4 := Below.next bbr b4
          replace ko := ko.below b4
          replace kn := kn.below b4
          replace kr := kr.below b4
          replace of := of.below b4
          by_cases hxe : X = ⟨#[]⟩
          · subst hxe
            have HV := Lib.hid (HBD.out)
            have ko_c0 := ko.here.cell 0 _ rfl
            have ko_c1 := ko.here.cell 1 _ rfl
            have ko_c2 := ko.here.cell 2 _ rfl
            have cz0 := ko.here.cell 0 _ rfl
            have fz0 := Lib.frozen_of_heap ko.here 0
            have cz1 := ko.here.cell 1 _ rfl
            have fz1 := Lib.frozen_of_heap ko.here 1
            have cz2 := ko.here.cell 2 _ rfl
            have fz2 := Lib.frozen_of_heap ko.here 2
            clear of
            go_wp2
            refine bodyPost_ret (v := .tuple #[.agg #[.bool false, .slice none 0 0, .slice none 0 0], .bool false]) (by simp [results, Tryz.results24, go_sem, cz0, cz1, cz2]) rfl ?_
            rw [HV.out.1, HV.out.2]
            first | exact newQb_zero _ bb4 | exact newQb_zero _ (below_set3 bb4 (by omega))
          · have hxn := bytes_ne' hxe
            have hxn2 := empty_ne hxe
            clear hxe
            have kr_c0 := kr.here.cell 0 _ rfl
            have kr_c1 := kr.here.cell 1 _ rfl
            have kr_c2 := kr.here.cell 2 _ rfl
            go_wp2_with fail
            clear kr_c0 kr_c1 kr_c2
            refine ((specRatText_any _ (siR H, tnR T) _ (pair_sz H T) of.here).mono fun _ _ h => postT_eq EX.out h).mono ?_
            rintro e w5 ⟨rfl, b5⟩
            have bb5 := Below.next bb4 b5
            replace ko := ko.below b5
            replace kn := kn.below b5
            replace kr := kr.below b5
            replace of := of.below b5
            have HV := Lib.hid (HBD.out)
            have ko_c0 := ko.here.cell 0 _ rfl
            have ko_c1 := ko.here.cell 1 _ rfl
            have ko_c2 := ko.here.cell 2 _ rfl
            have cz0 := ko.here.cell 0 _ rfl
            have fz0 := Lib.frozen_of_heap ko.here 0
            have cz1 := ko.here.cell 1 _ rfl
            have fz1 := Lib.frozen_of_heap ko.here 1
            have cz2 := ko.here.cell 2 _ rfl
            have fz2 := Lib.frozen_of_heap ko.here 2
            clear of
            go_wp2
            refine bodyPost_ret (v := .tuple #[.agg #[.bool false, .slice none 0 0, .slice none 0 0], .bool false]) (by simp [results, Tryz.results24, go_sem, cz0, cz1, cz2]) rfl ?_
            rw [HV.out.1, HV.out.2]
            first | exact newQb_zero _ bb5 | exact newQb_zero _ (below_set3 bb5 (by omega))
end Go.Proofs.YtkkdlgiilhngcaaGreatDoor

namespace Go.Proofs.YtkkdlgiilhngcaaGreatDoor
open Go.RowKit

/-- block g is a cursor over the slice v of n bytes -/
def Cur (w : World) (g : Nat) (v : Value) (n : Nat) : Prop :=
  ∃ i h : Int, 0 ≤ i ∧ i ≤ n ∧ -9223372036854775808 ≤ h ∧ h ≤ 9223372036854775807 ∧ w.heap[g]? = some (.cells #[v, .int .i64 i, .int .i64 h] 81 (0, 0))
/-- bytes as cells -/
def bytesV (bs : List Nat) : List Value := bs.map fun b : Nat => Value.int .u8 (b : Int)

theorem cell_in {w : World} {g : Nat} {cs : Array Value} {t : TypeId} (h : w.heap[g]? = some (.cells cs t (0, 0))) (j : Nat) (u : Value) (hj : cs[j]? = some u) : w.cell? ⟨g, j, none⟩ = some u := by
  rw [cell_of_row w g j cs t (0, 0) h]
  exact hj
theorem free_in {w : World} {g : Nat} {cs : Array Value} {t : TypeId} (h : w.heap[g]? = some (.cells cs t (0, 0))) (j : Nat) : w.frozen? ⟨g, j, none⟩ = false := by
  simp [World.frozen?, h]
theorem put_in {w : World} {g : Nat} {cs : Array Value} {t : TypeId} (h : w.heap[g]? = some (.cells cs t (0, 0))) (j : Nat) (u : Value) : (w.setCell ⟨g, j, none⟩ u).heap[g]? = some (.cells (cs.setIfInBounds j u) t (0, 0)) := by
  simp [World.setCell, Array.getElem?_modify, h]
theorem put_grown (w : World) (g j : Nat) (u : Value) : w.grownBy (w.setCell ⟨g, j, none⟩ u) (some g) :=
  ⟨rfl, rfl, rfl, by simp [World.setCell], fun k _ hne => Below.heap_setCell w _ u k (fun e => hne (by rw [e]))⟩
theorem grown_drewN {a w : World} {row : Option Nat} (h : a.grownBy w row) (n : Nat) : a.grownBy (w.drewN n) row := ⟨h.os, h.tape, h.output, h.size, h.block⟩

theorem and255 (x : Int) : 0 ≤ bits .and .i64 x 255 ∧ bits .and .i64 x 255 ≤ 255 := by
  have h : (BitVec.ofInt 64 x &&& BitVec.ofInt 64 255).toNat ≤ 255 := by
    rw [BitVec.toNat_and]
    exact Nat.and_le_right
  have e : bits .and .i64 x 255 = IntKind.i64.wrap ((BitVec.ofInt 64 x &&& BitVec.ofInt 64 255).toNat : Int) := rfl
  rw [e, IntKind.wrap_i64]
  omega

/-- what a draw of one byte comes to -/
def BytePost (g : Nat) (v : Value) (n : Nat) (w : World) (e : Ending) (w' : World) : Prop :=
  ∃ x : Int, 0 ≤ x ∧ x ≤ 255 ∧ e = .returned (.int .i64 x) ∧ Cur w' g v n ∧ w.grownBy w' (some g)

set_option maxHeartbeats 1000000 in
set_option maxRecDepth 100000 in
theorem l01Byte_any (g lo hi : Nat) (v : Value) (bs : List Nat) (w : World) (hb : ∀ b ∈ bs, b < 256) (hn : bs.length ≤ 1048576) (hc : Cur w g v bs.length) (hr : Row w lo hi v (bytesV bs)) (hg : hi ≤ g) :
    Calls Tryz.prog 103 #[.pointer (some ⟨g, 0, none⟩)] w (BytePost g v bs.length w) := by
  obtain ⟨i, h, hi0, hin, hh0, hh1, hbl⟩ := hc
  obtain ⟨A, c, rfl, hA⟩ := hr
  have hlen : (bytesV bs).length = bs.length := by simp [bytesV]
  have HA := Lib.hid hA
  clear hA
  rw [hlen] at hbl ⊢
  have c0 := cell_in hbl 0 _ rfl
  have c1 := cell_in hbl 1 _ rfl
  have c2 := cell_in hbl 2 _ rfl
  have f1 := free_in hbl 1
  have f2 := free_in hbl 2
  have HBL := Lib.hid hbl
  clear hbl
  obtain ⟨h2, Hh2⟩ : ∃ h2 : Int, Hid (wrap64 (wrap64 (h * 6364136223846793005) + 1442695040888963407) = h2 ∧ -9223372036854775808 ≤ h2 ∧ h2 ≤ 9223372036854775807) := ⟨_, Lib.hid ⟨rfl, by unfold wrap64; omega, by unfold wrap64; omega⟩⟩
  have hbl1 := put_in HBL.out 2 (.int .i64 h2)
  have hgr1 := put_grown w g 2 (.int .i64 h2)
  go_enter Tryz.func103, Tryz.ntmps103
  go_wp2
  rw [Hh2.out.1]
  obtain ⟨_, hl0, hl1⟩ := Hh2.out
  clear Hh2 c0 c1 c2 f1 f2
  generalize w.setCell ⟨g, 2, none⟩ (.int .i64 h2) = w1 at *
  have c0 : w1.cell? ⟨g, 0, none⟩ = some (.slice A bs.length c) := cell_in hbl1 0 _ rfl
  have c1 : w1.cell? ⟨g, 1, none⟩ = some (.int .i64 i) := cell_in hbl1 1 _ rfl
  have c2 : w1.cell? ⟨g, 2, none⟩ = some (.int .i64 h2) := cell_in hbl1 2 _ rfl
  have f1 := free_in hbl1 1
  have HBL1 := Lib.hid hbl1
  clear hbl1
  go_quiet (fail)
  go_wp2
  have hx := and255 (bits .xor .i64 (h2 / 8589934592) (h2 / 35184372088832))
  generalize bits .and .i64 (bits .xor .i64 (h2 / 8589934592) (h2 / 35184372088832)) 255 = x at *
  by_cases hlt : i < bs.length
  · obtain ⟨k, rfl⟩ := Int.eq_ofNat_of_zero_le hi0
    have hkl : k < bs.length := by omega
    obtain ⟨a, rfl, _, hab, hca⟩ := HA.out k (.int .u8 (bs[k] : Nat)) (by simp [bytesV, hkl])
    have hbk := hb bs[k] (List.getElem_mem hkl)
    have hca1 : w1.cell? (a.add k) = some (.int .u8 (bs[k] : Nat)) := by
      rw [← hca]
      have hne : some (a.add k).block ≠ some g := by rw [block_add]; intro e; injection e with e; omega
      exact World.cell?_of_block (hgr1.block _ (cell_lt hca) hne)
    clear hca hi0
    have HB := Lib.hid hb
    clear hb
    go_quiet (fail)
    go_wp2
    go_quiet (fail)
    go_wp2
    go_ret
    have hx2 := and255 (x + (bs[k] : Nat))
    exact ⟨_, hx2.1, hx2.2, rfl, ⟨(k : Int) + 1, h2, by omega, by omega, hl0, hl1, put_in HBL1.out 1 _⟩, grown_drewN (grown_trans hgr1 (put_grown w1 g 1 _)) _⟩
  · have hlt' : decide (i < bs.length) = false := decide_eq_false hlt
    have HB := Lib.hid hb
    clear hb
    go_quiet (fail)
    go_wp2
    go_ret
    exact ⟨x, hx.1, hx.2, rfl, ⟨i, h2, hi0, hin, hl0, hl1, HBL1.out⟩, grown_drewN hgr1 _⟩

theorem Row.far {w w' : World} {lo hi g : Nat} {v : Value} {xs : List Value} (h : Row w lo hi v xs) (hg : w.grownBy w' (some g)) (hlt : hi ≤ g) : Row w' lo hi v xs := by
  obtain ⟨A, c, rfl, h⟩ := h
  refine ⟨A, c, rfl, fun j u hj => ?_⟩
  obtain ⟨a, e, h1, h2, h3⟩ := h j u hj
  refine ⟨a, e, h1, h2, ?_⟩
  rw [← h3]
  have hne : some (a.add j).block ≠ some g := by rw [block_add]; intro e; injection e with e; omega
  exact World.cell?_of_block (hg.block _ (cell_lt h3) hne)

/-- what a draw below n comes to -/
def BelowPost (m : Int) (g : Nat) (v : Value) (n : Nat) (w : World) (e : Ending) (w' : World) : Prop :=
  ∃ x : Int, 0 ≤ x ∧ x < m ∧ e = .returned (.int .i64 x) ∧ Cur w' g v n ∧ w.grownBy w' (some g)

set_option maxHeartbeats 1000000 in
set_option maxRecDepth 100000 in
theorem l01Below_any (m : Int) (g lo hi : Nat) (v : Value) (bs : List Nat) (w : World) (hm : 0 < m) (hm2 : m ≤ 2147483648) (hb : ∀ b ∈ bs, b < 256) (hn : bs.length ≤ 1048576) (hc : Cur w g v bs.length) (hr : Row w lo hi v (bytesV bs)) (hg : hi ≤ g) :
    Calls Tryz.prog 67 #[.pointer (some ⟨g, 0, none⟩), .int .i64 m] w (BelowPost m g v bs.length w) := by
  have HB := Lib.hid hb
  clear hb
  have hmz : (m == 0) = false := by rw [beq_eq_false_iff_ne]; omega
  by_cases hs : m ≤ 256
  · go_enter Tryz.func67, Tryz.ntmps67
    go_wp2_with fail
    refine (l01Byte_any g lo hi v bs _ HB.out hn hc hr hg).mono ?_
    rintro e w1 ⟨x, hx0, hx1, rfl, hc1, hg1⟩
    go_wp2
    go_ret
    exact ⟨x % m, Int.emod_nonneg _ (by omega), Int.emod_lt_of_pos _ hm, rfl, hc1, hg1⟩
  · go_enter Tryz.func67, Tryz.ntmps67
    go_wp2_with fail
    refine (l01Byte_any g lo hi v bs _ HB.out hn hc hr hg).mono ?_
    rintro e w1 ⟨x1, hx0, hx1, rfl, hc1, hg1⟩
    have hr1 := hr.far hg1 hg
    go_wp2_with fail
    refine (l01Byte_any g lo hi v bs _ HB.out hn hc1 hr1 hg).mono ?_
    rintro e w2 ⟨x2, hy0, hy1, rfl, hc2, hg2⟩
    have hr2 := hr1.far hg2 hg
    go_wp2_with fail
    refine (l01Byte_any g lo hi v bs _ HB.out hn hc2 hr2 hg).mono ?_
    rintro e w3 ⟨x3, hz0, hz1, rfl, hc3, hg3⟩
    have hr3 := hr2.far hg3 hg
    go_wp2_with fail
    refine (l01Byte_any g lo hi v bs _ HB.out hn hc3 hr3 hg).mono ?_
    rintro e w4 ⟨x4, hq0, hq1, rfl, hc4, hg4⟩
    go_wp2
    go_ret
    exact ⟨(x1 * 16777216 + x2 * 65536 + x3 * 256 + x4) % m, Int.emod_nonneg _ (by omega), Int.emod_lt_of_pos _ hm, rfl, hc4, grown_trans (grown_trans (grown_trans hg1 hg2) hg3) hg4⟩

/-- what a new cursor is -/
def NewPost (v : Value) (n : Nat) (w : World) (e : Ending) (w' : World) : Prop :=
  ∃ g : Nat, w.heap.size ≤ g ∧ e = .returned (.pointer (some ⟨g, 0, none⟩)) ∧ Cur w' g v n ∧ Below w.heap.size w w'
theorem andMask (x : Int) : 0 ≤ bits .and .i64 x 1073741823 ∧ bits .and .i64 x 1073741823 ≤ 1073741823 := by
  have h : (BitVec.ofInt 64 x &&& BitVec.ofInt 64 1073741823).toNat ≤ 1073741823 := by
    rw [BitVec.toNat_and]
    exact Nat.and_le_right
  have e : bits .and .i64 x 1073741823 = IntKind.i64.wrap ((BitVec.ofInt 64 x &&& BitVec.ofInt 64 1073741823).toNat : Int) := rfl
  rw [e, IntKind.wrap_i64]
  omega

set_option maxRecDepth 100000 in
set_option maxHeartbeats 1000000 in
set_option maxRecDepth 100000 in
theorem l01New_any (lo hi : Nat) (v : Value) (bs : List Nat) (w : World) (hb : ∀ b ∈ bs, b < 256) (hn : bs.length ≤ 1048576) (hr : Row w lo hi v (bytesV bs)) :
    Calls Tryz.prog 25 #[v] w (NewPost v bs.length w) := by
  obtain ⟨A, c, rfl, hA⟩ := hr
  have hlen : (bytesV bs).length = bs.length := by simp [bytesV]
  rw [hlen]
  have HA := Lib.hid hA
  have HB := Lib.hid hb
  clear hA hb hlen
  go_enter Tryz.func25, Tryz.ntmps25
  go_wp2
  go_loop [3, 4] (fun a i => ∃ (k : Nat) (h : Int), k ≤ bs.length ∧ i = .int .i64 k ∧ a = .int .i64 h ∧ 0 ≤ h ∧ h ≤ 1073741823) (fun _ i => bs.length - (intOf i).toNat)
  case atStart => exact ⟨0, _, Nat.zero_le _, rfl, rfl, by omega, by omega⟩
  case round =>
    obtain ⟨k, h, hk, rfl, rfl, hh0, hh1⟩ := hrel
    by_cases hlt : k < bs.length ∧ k < 4000
    · obtain ⟨a, rfl, _, hab, hca⟩ := HA.out k (.int .u8 (bs[k]'hlt.1 : Nat)) (by simp [bytesV, hlt.1])
      have hbk := HB.out _ (List.getElem_mem hlt.1)
      obtain ⟨hl1, hl2⟩ := hlt
      go_wp2
      have hm := andMask (h * 41 + (bs[k] : Nat) + 7)
      go_round
      case rel => exact ⟨k + 1, _, by omega, by go_num, rfl, hm.1, hm.2⟩
      case measure => simp [intOf]; omega
    · by_cases hl1 : k < bs.length
      · have hl2 : ¬ k < 4000 := fun e => hlt ⟨hl1, e⟩
        clear hlt
        go_wp2
        go_ret
        exact ⟨w.heap.size, Nat.le_refl _, rfl, ⟨0, h, by omega, by omega, by omega, by omega, heap_alloc_new w _⟩, (Below.refl _ _).alloc (Nat.le_refl _) _⟩
      · clear hlt
        go_wp2
        go_ret
        exact ⟨w.heap.size, Nat.le_refl _, rfl, ⟨0, h, by omega, by omega, by omega, by omega, heap_alloc_new w _⟩, (Below.refl _ _).alloc (Nat.le_refl _) _⟩

/-- a number that a law draws -/
def NumPost (m : Int) (w : World) (e : Ending) (w' : World) : Prop := ∃ x : Int, 0 ≤ x ∧ x < m ∧ e = .returned (.int .i64 x) ∧ Below w.heap.size w w'

end Go.Proofs.YtkkdlgiilhngcaaGreatDoor

namespace Go.Proofs.YtkkdlgiilhngcaaGreatDoor
open Go.RowKit

theorem Row.away {w w' : World} {lo hi g : Nat} {v : Value} {xs : List Value} (h : Row w lo hi v xs) (hg : w.grownBy w' (some g)) (hd : hi ≤ g ∨ g < lo) : Row w' lo hi v xs := by
  obtain ⟨A, c, rfl, h⟩ := h
  refine ⟨A, c, rfl, fun j u hj => ?_⟩
  obtain ⟨a, e, h1, h2, h3⟩ := h j u hj
  refine ⟨a, e, h1, h2, ?_⟩
  rw [← h3]
  have hne : some (a.add j).block ≠ some g := by rw [block_add]; intro e; injection e with e; omega
  exact World.cell?_of_block (hg.block _ (cell_lt h3) hne)
theorem Chg.of_cur {w w' : World} {g : Nat} (h : w.grownBy w' (some g)) : Chg [g] w w' := ⟨h.os, h.tape, h.output, h.size, fun i hi hn => h.block i hi (fun e => hn (by injection e with e; simp [e]))⟩
theorem Chg.new_row {T : List Nat} {w a b : World} {row : Option Nat} (h : Chg T w a) (k : a.grownBy b row) (hr : ∀ j, row = some j → w.heap.size ≤ j) : Chg T w b :=
  ⟨k.os.trans h.os, k.tape.trans h.tape, k.output.trans h.output, Nat.le_trans h.size k.size, fun i hi hn => (k.block i (Nat.lt_of_lt_of_le hi h.size) (fun e => by have := hr i e.symm; omega)).trans (h.block i hi hn)⟩
theorem Chg.alloc {T : List Nat} {w a : World} (h : Chg T w a) (o : Obj) : Chg T w (a.alloc o) :=
  h.trans (Chg.of_below ((Below.refl _ _).alloc (Nat.le_refl _) o))
theorem Cur.alloc {w : World} {g : Nat} {v : Value} {n : Nat} (h : Cur w g v n) (o : Obj) : Cur (w.alloc o) g v n := by
  obtain ⟨i, k, h1, h2, h3, h4, hb⟩ := h
  exact ⟨i, k, h1, h2, h3, h4, (Below.heap_alloc _ _ _ (Array.getElem?_eq_some_iff.1 hb).1).trans hb⟩
theorem Cur.grown {w w' : World} {g : Nat} {v : Value} {n : Nat} {row : Option Nat} (h : Cur w g v n) (k : w.grownBy w' row) (hr : row ≠ some g) : Cur w' g v n := by
  obtain ⟨i, x, h1, h2, h3, h4, hb⟩ := h
  exact ⟨i, x, h1, h2, h3, h4, (k.block g (Array.getElem?_eq_some_iff.1 hb).1 (Ne.symm hr)).trans hb⟩
theorem Cur.lt {w : World} {g : Nat} {v : Value} {n : Nat} (h : Cur w g v n) : g < w.heap.size := by
  obtain ⟨i, x, h1, h2, h3, h4, hb⟩ := h
  exact (Array.getElem?_eq_some_iff.1 hb).1

theorem own_far {w w' : World} {base n g : Nat} {e : TypeId} {v : Value} {xs : List Value} (h : w.ownsRow base e 1 v n xs) (hg : w.grownBy w' (some g)) (hlt : g < base) : w'.ownsRow base e 1 v n xs :=
  own_apart h hg (fun a b ha hb => by have := (own_lt h ha).1; injection hb with hb; omega)

/-- what a pick comes to: one of the list -/
def PickPost (xs : List Int) (g : Nat) (v : Value) (n : Nat) (w : World) (e : Ending) (w' : World) : Prop :=
  ∃ x ∈ xs, e = .returned (.int .i64 x) ∧ Cur w' g v n ∧ w.grownBy w' (some g)
set_option maxHeartbeats 400000 in
set_option maxRecDepth 100000 in
theorem l01Pick_any (xs : List Int) (vx : Value) (lx hx g lo hi : Nat) (v : Value) (bs : List Nat) (w : World) (h0 : 0 < xs.length) (h1 : xs.length ≤ 1048576) (hb : ∀ b ∈ bs, b < 256) (hn : bs.length ≤ 1048576) (hc : Cur w g v bs.length) (hr : Row w lo hi v (bytesV bs)) (hg : hi ≤ g)
    (hrx : Row w lx hx vx (intsV xs)) (hd : hx ≤ g ∨ g < lx) :
    Calls Tryz.prog 104 #[.pointer (some ⟨g, 0, none⟩), vx] w (PickPost xs g v bs.length w) := by
  have HB := Lib.hid hb
  have HD := Lib.hid hd
  clear hb hd
  have hrx0 := hrx
  obtain ⟨A, c, rfl, _⟩ := hrx
  rw [intsV_length] at hrx0 ⊢
  go_enter Tryz.func104, Tryz.ntmps104
  go_wp2_with fail
  refine (l01Below_any (xs.length : Int) g lo hi v bs _ (by omega) (by omega) HB.out hn hc hr hg).mono ?_
  rintro e w1 ⟨x, hx0, hx1, rfl, hc1, hg1⟩
  obtain ⟨k, rfl⟩ := Int.eq_ofNat_of_zero_le hx0
  have hk : k < xs.length := by omega
  obtain ⟨A', c', e1, hA⟩ := hrx0.away hg1 HD.out
  injection e1 with e1 _ _
  subst e1
  obtain ⟨p, rfl, _, _, hca⟩ := hA k _ (intsV_at xs k hk)
  have HG := Lib.hid hg1
  clear hA hg1 hrx0
  go_wp2
  go_ret
  exact ⟨xs[k], List.getElem_mem hk, rfl, hc1, HG.out⟩

/-- what a drawn nat is -/
def DrawPost (most : Nat) (g : Nat) (v : Value) (n : Nat) (w : World) (e : Ending) (w' : World) : Prop :=
  ∃ (u : Value) (xs : List Int), e = .returned u ∧ natOkB xs = true ∧ xs.length ≤ most ∧ w'.ownsRow w.heap.size 3 1 u xs.length (intsV xs) ∧ Cur w' g v n ∧ Chg [g] w w'
/-- what is known at the head of l02Nat's loop -/
def DrawRel (most : Nat) (g : Nat) (v : Value) (n : Nat) (w : World) (u i : Value) (wr : World) : Prop :=
  ∃ (m : Nat) (out : List Int), out.length + m ≤ most ∧ i = .int .i64 m ∧ DigN out ∧ wr.ownsRow w.heap.size 3 1 u out.length (intsV out) ∧ Cur wr g v n ∧ Chg [g] w wr
theorem pick_list {x y z : Int} (h1 : 0 ≤ y ∧ y < 1000000000) (h2 : 0 ≤ z ∧ z < 1000000000) (h : x ∈ [0, 1, 2, 999999999, 500000000, y, z]) : 0 ≤ x ∧ x ≤ 999999999 := by
  simp at h
  omega
theorem drawn_trim (xs : List Int) (h : DigN xs) (hl : xs.length ≤ 50) : natOkB (trimL xs) = true ∧ (trimL xs).length ≤ xs.length := by
  have h1 := trimL_length xs
  refine ⟨?_, h1⟩
  rw [trim_limbs xs h] at h1 ⊢
  unfold natOkB
  rw [(all_dig _).2 (limbs_digN _), decide_eq_true (show (limbs (nval xs).toNat).length ≤ 50 by omega), decide_eq_true (limbs_lastN _)]
  rfl

set_option maxHeartbeats 1000000 in
set_option maxRecDepth 100000 in
theorem l02Nat_any (most : Nat) (g lo hi : Nat) (v : Value) (bs : List Nat) (w : World) (hmost : most ≤ 50) (hb : ∀ b ∈ bs, b < 256) (hn : bs.length ≤ 1048576) (hc : Cur w g v bs.length) (hr : Row w lo hi v (bytesV bs)) (hg : hi ≤ g) :
    Calls Tryz.prog 69 #[.pointer (some ⟨g, 0, none⟩), .int .i64 most] w (DrawPost most g v bs.length w) := by
  obtain ⟨i0, hi0, hz0, hz1, hz2⟩ := info_parts intInfo
  have HB := Lib.hid hb
  have hgl := hc.lt
  clear hb
  go_enter Tryz.func69, Tryz.ntmps69
  go_wp2_with fail
  refine (l01Below_any _ g lo hi v bs _ (by omega) (by omega) HB.out hn (hc.alloc _) (hr.below ((Below.refl _ _).alloc (Nat.le_refl _) _) (by omega)) hg).mono ?_
  rintro e w1 ⟨x, hx0, hx1, rfl, hc1, hg1⟩
  have HS : Hid (DrawRel most g v bs.length w (.slice (some ⟨w.heap.size, 0, none⟩) 0 0) (.int .i64 x) w1) := Lib.hid (by
    obtain ⟨k, rfl⟩ := Int.eq_ofNat_of_zero_le hx0
    refine ⟨k, [], by simp; omega, rfl, (fun d hd => by cases hd), ?_, hc1, ((Chg.refl _ _).alloc _).trans (Chg.of_cur hg1)⟩
    exact own_apart (World.ownsRow_made w #[] 0 (Nat.le_refl _) (Nat.zero_le _) rfl) hg1 (fun a b ha hb => by simp [Value.ownBlock] at ha; injection hb with hb; omega))
  clear hc1 hg1
  go_wp2
  go_loopw [5, 6] (fun u i wr => DrawRel most g v bs.length w u i wr) (fun _ i _ => (intOf i).toNat)
  case atStart => exact HS.out
  case round =>
    clear HS
    obtain ⟨m, out, hom, rfl, hd, hown, hcur, hchg⟩ := hrel
    have hsz := hchg.size
    have HD := Lib.hid hd
    clear hd
    by_cases hm : 0 < m
    · have hrow : Row wr lo hi v (bytesV bs) := hr.stays (fun p hp => World.cell?_of_block (hchg.block _ (by omega) (by simp; omega)))
      go_wp2_with fail
      refine (l01Below_any 1000000000 g lo hi v bs _ (by omega) (by omega) HB.out hn hcur hrow hg).mono ?_
      rintro e w2 ⟨y, hy0, hy1, rfl, hc2, hg2⟩
      have hr2 := hrow.far hg2 hg
      go_wp2_with fail
      refine (l01Below_any 1000000000 g lo hi v bs _ (by omega) (by omega) HB.out hn hc2 hr2 hg).mono ?_
      rintro e w3 ⟨z, hz0', hz1', rfl, hc3, hg3⟩
      have hr3 := hr2.far hg3 hg
      have hs2 := hg2.size
      have hs3 := hg3.size
      go_wp2_with fail
      refine (l01Pick_any [0, 1, 2, 999999999, 500000000, y, z] _ w3.heap.size (w3.heap.size + 1) g lo hi v bs _ (by simp) (by simp) HB.out hn (hc3.alloc _) (hr3.below ((Below.refl _ _).alloc (Nat.le_refl _) _) (by have := hc3.lt; omega)) hg (Row.lit w3 #[.int .i64 0, .int .i64 1, .int .i64 2, .int .i64 999999999, .int .i64 500000000, .int .i64 y, .int .i64 z] _) (.inr hc3.lt)).mono ?_
      rintro e w4 ⟨p, hp, rfl, hc4, hg4⟩
      have hpr := pick_list ⟨hy0, hy1⟩ ⟨hz0', hz1'⟩ hp
      have hown4 := own_far (own_alloc (own_far (own_far hown hg2 hgl) hg3 hgl) _) hg4 hgl
      have hchg4 := ((hchg.trans (Chg.of_cur hg2)).trans (Chg.of_cur hg3)).alloc (.cells #[.int .i64 0, .int .i64 1, .int .i64 2, .int .i64 999999999, .int .i64 500000000, .int .i64 y, .int .i64 z] 3) |>.trans (Chg.of_cur hg4)
      have hs4 := hchg4.size
      have HC4 := Lib.hid hc4
      have HH4 := Lib.hid hchg4
      have HP := Lib.hid (show DigN (out ++ [p]) from fun d hd => by
        rcases List.mem_append.1 hd with hd | hd
        · exact HD.out d hd
        · rw [List.mem_singleton.1 hd]; exact hpr)
      have hol : out.length + 1 ≤ 50 := by omega
      clear hown hcur hchg hrow hc2 hg2 hr2 hc3 hg3 hr3 hp hc4 hg4 hchg4 hpr
      go_wp2_with (at_builtin; refine wpList_append_own _ rfl _ _ 23 rfl w.heap.size 3 i0 (.int .i64 0) 1 8 Tryz.underlying23 hi0 hz0 hz1 hz2 rfl (by decide) _ _ _ rfl (own_alloc hown4 _) ⟨w4.heap.size, 0, none⟩ 1 1 [.int .i64 p] rfl rfl (one_new _ _ _) ?c2 ?c3 ?c4 ?c5 ?_)
      case c2 => first | (intro u hu; simp at hu; subst hu; rfl) | rfl
      case c3 => unfold maxLen; omega
      case c4 => omega
      case c5 => simp; omega
      intro v5 w5 hown5 hg5 _
      have HS : Hid (DrawRel most g v bs.length w v5 (.int .i64 ((m : Int) - 1)) w5) := Lib.hid (by
        refine ⟨m - 1, out ++ [p], by simp; omega, by congr 1; omega, HP.out, by simpa [intsV] using hown5, (HC4.out.alloc _).grown hg5 (fun e => by have := (own_lt hown4 e).1; omega), (HH4.out.alloc _).new_row hg5 (fun j hj => (own_lt hown4 hj).1)⟩)
      clear hown4 hown5 hg5
      go_wp2
      exact ⟨HS.out, by simp [intOf]; omega⟩
    · obtain rfl : m = 0 := by omega
      have HT := Lib.hid (drawn_trim out HD.out (by omega))
      go_wp2_with fail
      refine (specTrim_any _ out w.heap.size _ (by omega) hown).mono ?_
      rintro e w2 ⟨rfl, v2, rfl, ho2⟩
      go_wp2
      go_ret
      exact ⟨v2, trimL out, rfl, HT.out.1, by have := HT.out.2; omega, ho2, hcur, hchg⟩

/-- what MakeNats gives -/
def NatsPost (w : World) (e : Ending) (w' : World) : Prop :=
  ∃ (u v : Value) (a b : List Int), e = .returned (.tuple #[u, v]) ∧ natOkB a = true ∧ natOkB b = true ∧ a.length ≤ 5 ∧ b.length ≤ 5 ∧ w'.ownsRow w.heap.size 3 1 u a.length (intsV a) ∧ w'.ownsRow w.heap.size 3 1 v b.length (intsV b) ∧ Below w.heap.size w w'

end Go.Proofs.YtkkdlgiilhngcaaGreatDoor

namespace Go.Proofs.YtkkdlgiilhngcaaGreatDoor
open Go.RowKit

set_option maxHeartbeats 1000000 in
set_option maxRecDepth 100000 in
theorem specRatZero_any (w : World) : Calls Tryz.prog 71 #[] w (NewV (fun v => OwnQ v oneQ) w) := by
  have hs : (w.alloc (.cells #[.bool false, .slice none 0 0, .slice (some ⟨w.heap.size + 1, 0, none⟩) 1 1] 27)).heap.size = w.heap.size + 1 := by simp
  have od : ((w.alloc (.cells #[.bool false, .slice none 0 0, .slice (some ⟨w.heap.size + 1, 0, none⟩) 1 1] 27)).alloc (.cells #[.int .i64 1] 3)).ownsRow w.heap.size 3 1 (.slice (some ⟨w.heap.size + 1, 0, none⟩) 1 1) 1 [.int .i64 1] := by
    have h := World.ownsRow_lit (base := w.heap.size) (e := 3) (size := 1) (w.alloc (.cells #[.bool false, .slice none 0 0, .slice (some ⟨w.heap.size + 1, 0, none⟩) 1 1] 27)) #[.int .i64 1] 1 (by omega) (by unfold maxLen; omega) rfl
    rw [hs] at h
    exact h
  have bb := below_al (below_al (Below.refl w.heap.size w) (.cells #[.bool false, .slice none 0 0, .slice (some ⟨w.heap.size + 1, 0, none⟩) 1 1] 27)) (.cells #[.int .i64 1] 3)
  have HR := Lib.hid (show NewV (fun v => OwnQ v oneQ) w (.returned (.agg #[.bool false, .slice none 0 0, .slice (some ⟨w.heap.size + 1, 0, none⟩) 1 1])) _ from
    ⟨_, _, rfl, partsQ_at (x := oneQ) (World.ownsRow_nil _ 0 _ _) od (fun g hg => by cases hg), (fun g hg => by
      rcases List.mem_append.1 hg with hg | hg
      · cases hg
      · exact own_within od g hg), bb⟩)
  clear od bb hs
  go_enter Tryz.func71, Tryz.ntmps71
  go_wp2
  refine bodyPost_ret (v := .agg #[.bool false, .slice none 0 0, .slice (some ⟨w.heap.size + 1, 0, none⟩) 1 1]) (by simp [results, Tryz.results71, go_sem]) rfl ?_
  exact HR.out
set_option maxHeartbeats 2000000 in
set_option maxRecDepth 100000 in
theorem specRatMake_any (va vb : Value) (a b : SI) (w : World) (hza : szS a ≤ 1048576) (hzb : szS b ≤ 1048576) (ha : OwnS va a w) (hb : OwnS vb b w) :
    Calls Tryz.prog 70 #[va, vb] w (PostQb (makeQ a b).1 (makeQ a b).2 w) := by
  have Ha := Lib.hid ha
  obtain ⟨Aa, ca, rfl⟩ := ownS_form ha
  have OSa := Lib.hid (show ∀ W, Below w.heap.size w W → OwnS (.agg #[.bool a.1, .slice Aa a.2.length ca]) a W from fun W hb => OwnS.below Ha.out hb)
  have OIa := Lib.hid (show ∀ W, Below w.heap.size w W → OwnI (.slice Aa a.2.length ca) a.2 W from fun W hb => ownS_open (OSa.out W hb))
  clear ha
  have Hb := Lib.hid hb
  obtain ⟨Ab, cb, rfl⟩ := ownS_form hb
  have OSb := Lib.hid (show ∀ W, Below w.heap.size w W → OwnS (.agg #[.bool b.1, .slice Ab b.2.length cb]) b W from fun W hb => OwnS.below Hb.out hb)
  have OIb := Lib.hid (show ∀ W, Below w.heap.size w W → OwnI (.slice Ab b.2.length cb) b.2 W from fun W hb => ownS_open (OSb.out W hb))
  clear hb
  have hla : a.2.length ≤ 1048576 := by unfold szS szI at hza; omega
  have hlb : b.2.length ≤ 1048576 := by unfold szS szI at hzb; omega
  clear hza hzb
  have bb0 : Below w.heap.size w (((w.alloc (.cells #[.bool a.1, .slice Aa a.2.length ca] 25)).alloc (.cells #[.bool b.1, .slice Ab b.2.length cb] 25)).alloc (.cells #[.bool false, .slice none 0 0, .slice none 0 0] 27)) := below_al (below_al (below_al (Below.refl _ _) _) _) _
  have ka := (box_new w #[.bool a.1, .slice Aa a.2.length ca] 25).below (below_al (below_al (Below.refl _ _) (.cells #[.bool b.1, .slice Ab b.2.length cb] 25)) (.cells #[.bool false, .slice none 0 0, .slice none 0 0] 27))
  have kb := (box_new (w.alloc (.cells #[.bool a.1, .slice Aa a.2.length ca] 25)) #[.bool b.1, .slice Ab b.2.length cb] 25).below (below_al (Below.refl _ _) (.cells #[.bool false, .slice none 0 0, .slice none 0 0] 27))
  rw [show (w.alloc (.cells #[.bool a.1, .slice Aa a.2.length ca] 25)).heap.size = w.heap.size + 1 by simp] at kb
  have ko := (box_new ((w.alloc (.cells #[.bool a.1, .slice Aa a.2.length ca] 25)).alloc (.cells #[.bool b.1, .slice Ab b.2.length cb] 25)) #[.bool false, .slice none 0 0, .slice none 0 0] 27)
  rw [show ((w.alloc (.cells #[.bool a.1, .slice Aa a.2.length ca] 25)).alloc (.cells #[.bool b.1, .slice Ab b.2.length cb] 25)).heap.size = w.heap.size + 1 + 1 by simp] at ko
  go_enter Tryz.func70, Tryz.ntmps70
  have ka_c0 := ka.here.cell 0 _ rfl
  have ka_c1 := ka.here.cell 1 _ rfl
  go_wp2_with fail
  clear ka_c0 ka_c1
  refine (specIntOk_any _ a _ hla (OwnS.rd (OSa.out _ bb0))).mono ?_
  rintro e w1 ⟨rfl, b1⟩
  have bb1 := Below.next bb0 b1
  replace ka := ka.below b1
  replace kb := kb.below b1
  replace ko := ko.below b1
  by_cases oka : okS a = true
  · rw [oka]
    have HOa := Lib.hid oka
    clear oka
    have kb_c0 := kb.here.cell 0 _ rfl
    have kb_c1 := kb.here.cell 1 _ rfl
    go_wp2_with fail
    clear kb_c0 kb_c1
    refine (specIntOk_any _ b _ hlb (OwnS.rd (OSb.out _ bb1))).mono ?_
    rintro e w2 ⟨rfl, b2⟩
    have bb2 := Below.next bb1 b2
    replace ka := ka.below b2
    replace kb := kb.below b2
    replace ko := ko.below b2
    by_cases okb : okS b = true
    · rw [okb]
      have HOb := Lib.hid okb
      clear okb
      have HKO := Lib.hid (ko.lt (w.heap.size + 1 + 1) (by simp))
      have Ea := Lib.hid (natOk_limbs (okS_parts HOa.out).1)
      have Eb := Lib.hid (natOk_limbs (okS_parts HOb.out).1)
      obtain ⟨Na, hNa⟩ : ∃ Na, (nval a.2).toNat = Na := ⟨_, rfl⟩
      have Ea := Lib.hid (show a.2 = limbs Na by rw [← hNa]; exact natOk_limbs (okS_parts HOa.out).1)
      have La := Lib.hid (show (limbs Na).length ≤ 50 by rw [← Ea.out]; exact (natOk_parts (okS_parts HOa.out).1).2.1)
      obtain ⟨Nb, hNb⟩ : ∃ Nb, (nval b.2).toNat = Nb := ⟨_, rfl⟩
      have Eb := Lib.hid (show b.2 = limbs Nb by rw [← hNb]; exact natOk_limbs (okS_parts HOb.out).1)
      have Lb := Lib.hid (show (limbs Nb).length ≤ 50 by rw [← Eb.out]; exact (natOk_parts (okS_parts HOb.out).1).2.1)
      have HV := Lib.hid (show makeQ a b = lowQ (!(a.1 == b.1)) Na Nb by unfold makeQ; rw [if_pos ⟨HOa.out, HOb.out⟩, hNa, hNb]; rfl)
      clear hNa hNb
      have ka_c0 := ka.here.cell 0 _ rfl
      have ka_c1 := ka.here.cell 1 _ rfl
      have kb_c0 := kb.here.cell 0 _ rfl
      have kb_c1 := kb.here.cell 1 _ rfl
      go_wp2_with fail
      clear ka_c0 ka_c1 kb_c0 kb_c1
      refine (lowX_any _ _ _ a.2 b.2 Na Nb _ La.out Lb.out Ea.out Eb.out (OIa.out _ bb2) (OIb.out _ bb2)).mono ?_
      rintro e w3 ⟨uf, Sf, rfl, of, lf, b3⟩
      obtain ⟨Af, cf, Bf, df, rfl⟩ := ownQ_form of.here
      have bb3 := Below.next bb2 b3
      replace ka := ka.below b3
      replace kb := kb.below b3
      replace ko := ko.below b3
      have HW := Lib.hid (newQb_at (r := w.heap.size + 1 + 1) (b := (lowQ (!(a.1 == b.1)) Na Nb).2) of lf (by have := HKO.out; omega) (by omega) bb3)
      have cz0 := ko.here.cell 0 _ rfl
      have fz0 := Lib.frozen_of_heap ko.here 0
      have cz1 := ko.here.cell 1 _ rfl
      have fz1 := Lib.frozen_of_heap ko.here 1
      have cz2 := ko.here.cell 2 _ rfl
      have fz2 := Lib.frozen_of_heap ko.here 2
      clear of ko
      go_wp2
      refine bodyPost_ret (v := .tuple #[.agg #[.bool _, .slice Af _ cf, .slice Bf _ df], .bool _]) (by simp [results, Tryz.results70, go_sem, cz0, cz1, cz2]; exact ⟨⟨rfl, rfl, rfl⟩, rfl⟩) rfl ?_
      rw [HV.out]
      exact HW.out
    · have okb' : okS b = false := by simpa using okb
      have HV := Lib.hid (show makeQ a b = (zeroQ, false) by unfold makeQ; rw [if_neg (fun h => okb h.2)])
      rw [okb']
      clear okb okb'
      have ko_c0 := ko.here.cell 0 _ rfl
      have ko_c1 := ko.here.cell 1 _ rfl
      have ko_c2 := ko.here.cell 2 _ rfl
      have cz0 := ko.here.cell 0 _ rfl
      have fz0 := Lib.frozen_of_heap ko.here 0
      have cz1 := ko.here.cell 1 _ rfl
      have fz1 := Lib.frozen_of_heap ko.here 1
      have cz2 := ko.here.cell 2 _ rfl
      have fz2 := Lib.frozen_of_heap ko.here 2
      go_wp2
      refine bodyPost_ret (v := .tuple #[.agg #[.bool false, .slice none 0 0, .slice none 0 0], .bool false]) (by simp [results, Tryz.results70, go_sem, cz0, cz1, cz2]) rfl ?_
      rw [HV.out]
      first | exact newQb_zero _ bb2 | exact newQb_zero _ (below_set3 bb2 (by omega))
  · have oka' : okS a = false := by simpa using oka
    have HV := Lib.hid (show makeQ a b = (zeroQ, false) by unfold makeQ; rw [if_neg (fun h => oka h.1)])
    rw [oka']
    clear oka oka'
    have ko_c0 := ko.here.cell 0 _ rfl
    have ko_c1 := ko.here.cell 1 _ rfl
    have ko_c2 := ko.here.cell 2 _ rfl
    have cz0 := ko.here.cell 0 _ rfl
    have fz0 := Lib.frozen_of_heap ko.here 0
    have cz1 := ko.here.cell 1 _ rfl
    have fz1 := Lib.frozen_of_heap ko.here 1
    have cz2 := ko.here.cell 2 _ rfl
    have fz2 := Lib.frozen_of_heap ko.here 2
    go_wp2
    refine bodyPost_ret (v := .tuple #[.agg #[.bool false, .slice none 0 0, .slice none 0 0], .bool false]) (by simp [results, Tryz.results70, go_sem, cz0, cz1, cz2]) rfl ?_
    rw [HV.out]
    first | exact newQb_zero _ bb1 | exact newQb_zero _ (below_set3 bb1 (by omega))
end Go.Proofs.YtkkdlgiilhngcaaGreatDoor

namespace Go.Proofs.YtkkdlgiilhngcaaGreatDoor
open Go.RowKit

theorem cmpI_self (X : Int) : cmpI X X = 0 := by unfold cmpI; rw [if_neg (by omega), if_neg (by omega)]
theorem cmpI_turn (X Y : Int) : cmpI X Y = -cmpI Y X := by unfold cmpI; split <;> split <;> (try split) <;> (try split) <;> omega
theorem cmpI_range (X Y : Int) : -1 ≤ cmpI X Y ∧ cmpI X Y ≤ 1 := by unfold cmpI; split <;> (try split) <;> omega
theorem text_backI {X : Nat} (hx : (X : Int) < bp 5) : decOk (natTextB (limbs X)) = true ∧ tnR (natTextB (limbs X)) = limbs X ∧ digitsB (natTextB (limbs X)) = true := by
  have h5 : (limbs X).length ≤ 5 := limbs_length_le X 5 hx
  have e : (natTextB (limbs X)).data.toList = Lib.decDigits X := natText_limbs X (by omega)
  have hd := dig_dec X
  have hdig : digitsB (natTextB (limbs X)) = true := by rw [digitsB_iff, e]; exact hd
  have hsz : (natTextB (limbs X)).size ≤ 450 := by
    have h1 : natTextB (limbs X) = natT (limbs X) := by unfold natTextB; rw [if_pos (limbs_okL X (by omega))]
    rw [h1]
    have := natT_size (limbs X) (limbs_digN X)
    omega
  have hok : decOk (natTextB (limbs X)) = true := by
    rw [← read_text _ hdig hsz, e, valL_dec, Int.toNat_natCast]
  refine ⟨hok, ?_, hdig⟩
  unfold tnR
  rw [if_pos hok, e, valL_dec, Int.toNat_natCast]
theorem neg_of_digits {t : ByteArray} (h : digitsB t = true) : negB t = false := by
  have h2 := (digitsB_iff t).1 h
  unfold negB
  rw [decide_eq_false_iff_not]
  intro e
  cases hl : t.data.toList with
  | nil => exact h2.2 hl
  | cons c r =>
    rw [hl] at e
    have := h2.1 c (by rw [hl]; exact List.mem_cons_self ..)
    simp at e
    subst e
    revert this
    decide
theorem minus_bare (t : ByteArray) : negB (⟨#[45]⟩ ++ t) = true ∧ bareB (⟨#[45]⟩ ++ t) = t := by
  have e : ((⟨#[45]⟩ : ByteArray) ++ t).data.toList = 45 :: t.data.toList := by simp
  constructor
  · unfold negB; rw [e]; rfl
  · apply WideShapes.bytes_inj
    rw [bareB_data, e]
    rfl
/-- a short right number is read back from its text -/
theorem str_back {x : SI} (h : okS x = true) (hl : x.2.length ≤ 4) : siR (intStrB x) = x ∧ siB (intStrB x) = true := by
  have hp := okS_parts h
  have hx := natOk_limbs hp.1
  have h1 := nval_lt x.2 (natOk_parts hp.1).1
  have h0 := nval_ok hp.1
  have h2 := bp_mono (show x.2.length ≤ 5 by omega)
  have ht := text_backI (X := (nval x.2).toNat) (by omega)
  rw [← hx] at ht
  have hc : ¬ (x.1 = true ∧ x.2.length = 0) := fun hh => by have := hp.2 hh.1; omega
  have both : negB (intStrB x) = x.1 ∧ bareB (intStrB x) = natTextB x.2 := by
    unfold intStrB
    rw [if_pos h]
    cases hn : x.1 with
    | true => rw [if_pos rfl]; exact minus_bare _
    | false => rw [if_neg (by decide)]; exact ⟨neg_of_digits ht.2.2, bareB_self _ (neg_of_digits ht.2.2)⟩
  unfold siR siB
  rw [both.1, both.2, ht.2.1, if_pos ⟨ht.1, hc⟩]
  exact ⟨rfl, decide_eq_true ⟨ht.1, hc⟩⟩
end Go.Proofs.YtkkdlgiilhngcaaGreatDoor
