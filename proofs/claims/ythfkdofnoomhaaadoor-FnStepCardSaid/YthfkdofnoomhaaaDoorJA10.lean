/-
  Chapter 7 of package impl: RatFloor, RatWhole, RatHalf.
  The draws of the laws: a cursor over the bytes of a code. What a draw comes to is left open but for its range.
  The numbers that the law FnNat draws: valid nats of at most five limbs. And what laws.same returns.
  Fractions that a law draws: they are right, and short.
  Plain facts behind the laws of chapter 7: how far a rounded number is off, and in which order the modes stand.
  Plain facts behind the laws FnRound, FnModes and FnStep: what they reckon of right fractions with short parts.
  Plain facts behind the laws FnModes and FnStep: the modes' order and their mirror images, and what RoundTo makes of an integer.
-/
import Derived.StillTailTactics
import Derived.Deep.DeepCutAuto
import Derived.Test.YthfkdofnoomhaaaDoorJA9
namespace Go.Proofs.YthfkdofnoomhaaaDoor
open Go.RowKit

set_option maxHeartbeats 1000000 in
set_option maxRecDepth 100000 in
theorem implRatFloor_any (vr : Value) (r : QI) (w : World) (hz : szQ r ≤ 1048576) (hr : OwnQ vr r w) (hsen : Sen w) :
    Calls Tryd.prog 32 #[vr] w (PostSb (roundR r 2).1 (roundR r 2).2 w) := by
  have Hr := Lib.hid hr
  obtain ⟨Ar, cr, Br, dr, rfl⟩ := ownQ_form hr
  have OQr := Lib.hid (show ∀ W, Below w.heap.size w W → OwnQ (.agg #[.bool r.1.1, .slice Ar r.1.2.length cr, .slice Br r.2.length dr]) r W from fun W hb => OwnQ.below Hr.out hb)
  have OUr := Lib.hid (show ∀ W, Below w.heap.size w W → OwnI (.slice Ar r.1.2.length cr) r.1.2 W from fun W hb => (ownQ_open (OQr.out W hb)).2.1)
  have ODr := Lib.hid (show ∀ W, Below w.heap.size w W → OwnI (.slice Br r.2.length dr) r.2 W from fun W hb => (ownQ_open (OQr.out W hb)).2.2.1)
  have OSr := Lib.hid (show ∀ W, Below w.heap.size w W → OwnS (.agg #[.bool r.1.1, .slice Ar r.1.2.length cr]) r.1 W from fun W hb => OwnS.mk (OUr.out W hb))
  clear hr
  have bb0 : Below w.heap.size w ((w.alloc (.cells #[.bool r.1.1, .slice Ar r.1.2.length cr, .slice Br r.2.length dr] 30)).alloc (.cells #[.bool false, .slice none 0 0] 28)) := below_al (below_al (Below.refl _ _) _) _
  have kr := (box_new w #[.bool r.1.1, .slice Ar r.1.2.length cr, .slice Br r.2.length dr] 30).below (below_al (Below.refl _ _) (.cells #[.bool false, .slice none 0 0] 28))
  have ko := (box_new (w.alloc (.cells #[.bool r.1.1, .slice Ar r.1.2.length cr, .slice Br r.2.length dr] 30)) #[.bool false, .slice none 0 0] 28)
  rw [show (w.alloc (.cells #[.bool r.1.1, .slice Ar r.1.2.length cr, .slice Br r.2.length dr] 30)).heap.size = w.heap.size + 1 by simp] at ko
  have HKO := Lib.hid (ko.lt (w.heap.size + 1) (by simp))
  go_enter Tryd.func32, Tryd.ntmps32
  have kr_c0 := kr.here.cell 0 _ rfl
  have kr_c1 := kr.here.cell 1 _ rfl
  have kr_c2 := kr.here.cell 2 _ rfl
  go_wp2_with fail
  clear kr_c0 kr_c1 kr_c2
  refine (implRatRound_any _ r 2 _ hz (OQr.out _ bb0) (hsen.below bb0)).mono ?_
  rintro e w1 ⟨uf, Sf, rfl, of, lf, b1⟩
  obtain ⟨Af, cf, rfl⟩ := ownS_form of.here
  have bb1 := Below.next bb0 b1
  replace kr := kr.below b1
  replace ko := ko.below b1
  have HW := Lib.hid (newSb_at (b := (roundR r 2).2) (r := w.heap.size + 1) of lf (by have := HKO.out; omega) (by omega) bb1)
  have cz0 := ko.here.cell 0 _ rfl
  have fz0 := Lib.frozen_of_heap ko.here 0
  have cz1 := ko.here.cell 1 _ rfl
  have fz1 := Lib.frozen_of_heap ko.here 1
  clear of ko
  go_wp2
  refine bodyPost_ret (v := .tuple #[.agg #[.bool _, .slice Af _ cf], .bool _]) (by simp [results, Tryd.results32, go_sem, cz0, cz1]; exact ⟨⟨rfl, rfl⟩, rfl⟩) rfl ?_
  exact HW.out
set_option maxHeartbeats 2000000 in
set_option maxRecDepth 100000 in
theorem hasDen_any (vr : Value) (r : QI) (n : Nat) (w : World) (hz : szQ r ≤ 1048576) (hn : n ≤ 2) (hr : OwnQ vr r w) (hsen : Sen w) :
    Calls Tryd.prog 92 #[vr, .int .i64 n] w (Postb (okQ r && decide (denQ r = n)) w) := by
  have HS := Lib.hid hsen
  clear hsen
  have Hr := Lib.hid hr
  obtain ⟨Ar, cr, Br, dr, rfl⟩ := ownQ_form hr
  have OQr := Lib.hid (show ∀ W, Below w.heap.size w W → OwnQ (.agg #[.bool r.1.1, .slice Ar r.1.2.length cr, .slice Br r.2.length dr]) r W from fun W hb => OwnQ.below Hr.out hb)
  have OUr := Lib.hid (show ∀ W, Below w.heap.size w W → OwnI (.slice Ar r.1.2.length cr) r.1.2 W from fun W hb => (ownQ_open (OQr.out W hb)).2.1)
  have ODr := Lib.hid (show ∀ W, Below w.heap.size w W → OwnI (.slice Br r.2.length dr) r.2 W from fun W hb => (ownQ_open (OQr.out W hb)).2.2.1)
  have OSr := Lib.hid (show ∀ W, Below w.heap.size w W → OwnS (.agg #[.bool r.1.1, .slice Ar r.1.2.length cr]) r.1 W from fun W hb => OwnS.mk (OUr.out W hb))
  clear hr
  have bb0 : Below w.heap.size w (w.alloc (.cells #[.bool r.1.1, .slice Ar r.1.2.length cr, .slice Br r.2.length dr] 30)) := below_al (Below.refl _ _) _
  have kr := (box_new w #[.bool r.1.1, .slice Ar r.1.2.length cr, .slice Br r.2.length dr] 30)
  obtain ⟨W0, hW0⟩ : ∃ W0, W0 = (w.alloc (.cells #[.bool r.1.1, .slice Ar r.1.2.length cr, .slice Br r.2.length dr] 30)) := ⟨_, rfl⟩
  rw [← hW0] at bb0 kr
  have HW0 := Lib.hid hW0
  clear hW0
  by_cases ok : okQ r = true
  · have HO := Lib.hid ok
    have HV0 := Lib.hid (show (okQ r && decide (denQ r = n)) = decide (denQ r = n) by rw [ok]; rfl)
    have hl2 := (okQ_parts ok).2.2.2.1
    have hnn : (limbs n).length ≤ 50 := limbs_length_le _ 50 (by have := bp_pos 50; have : bp 1 ≤ bp 50 := bp_mono (by omega); have e : bp 1 = 1000000000 := rfl; omega)
    obtain ⟨c, hc⟩ : ∃ c, cmpN r.2 (limbs n) = c := ⟨_, rfl⟩
    have HV := Lib.hid (show (okQ r && decide (denQ r = n)) = (c == 0) by
      rw [HV0.out, ← hc]
      have p := (parts_of ok).d
      have e : cmpN r.2 (limbs n) = cmpI (nval r.2) n := by rw [p, cmpN_limbs (by rw [← p]; omega) hnn, limbs_val]
      rw [e, ← den_cmp ok, decide_eq_decide]
      omega)
    have HOK := Lib.hid (show ∀ W, Below w.heap.size w W → Calls Tryd.prog 79 #[.agg #[.bool r.1.1, .slice Ar r.1.2.length cr, .slice Br r.2.length dr]] W (Postb true W) from fun W hb => by have h := implRatOk_any _ r W hz (OQr.out _ hb) (HS.out.below hb); rw [HO.out] at h; exact h)
    have HNO := Lib.hid (show ∀ W : World, Calls Tryd.prog 46 #[.int .i64 n] W (NewV (fun u => OwnI u (limbs n)) W) from fun W => by have h := implNatOf_any n W (by omega); rw [Int.toNat_natCast] at h; exact h.mono fun _ _ h => h.newV)
    have HCM := Lib.hid (show ∀ (u v : Value) (W : World), OwnI u r.2 W → OwnI v (limbs n) W → Calls Tryd.prog 133 #[u, v] W (Postn c W) from fun u v W h1 h3 => (implNatCmp_any u v r.2 (limbs n) 0 _ 0 _ W (by omega) (by omega) (Nat.le_refl _) (Nat.le_refl _) h1.row h3.row).mono fun _ _ h => postn_eq hc h)
    clear ok hc
    go_enter Tryd.func92, Tryd.ntmps92
    have kr_c0 := kr.here.cell 0 _ rfl
    have kr_c1 := kr.here.cell 1 _ rfl
    have kr_c2 := kr.here.cell 2 _ rfl
    go_wp2_with fail
    rw [← HW0.out]
    have HC0 := Lib.hid (show Chg [] W0 W0.drew from (Chg.refl _ _).drew1)
    have HCr := Lib.hid (show Chg [] W0 W0 from Chg.refl _ _)
    have KL := Lib.hid (show ∀ W, Chg [] W0 W → W.cell? ⟨w.heap.size, 0, none⟩ = some (.bool r.1.1) ∧ W.cell? ⟨w.heap.size, 1, none⟩ = some (.slice Ar r.1.2.length cr) ∧ W.cell? ⟨w.heap.size, 2, none⟩ = some (.slice Br r.2.length dr) ∧ Hid (Chg [] W0 W) from fun W hc => ⟨(kr.chg hc (fun i hi hm => by simp at hm)).here.cell 0 _ rfl, (kr.chg hc (fun i hi hm => by simp at hm)).here.cell 1 _ rfl, (kr.chg hc (fun i hi hm => by simp at hm)).here.cell 2 _ rfl, Lib.hid hc⟩)
    have BBF := Lib.hid (show ∀ W, Chg [] W0 W → Below w.heap.size w W from fun W hc => below_chg bb0 hc bb0.size (fun i hi => by simp at hi))
    clear kr_c0 kr_c1 kr_c2
    go_region_held3 (fun W => W.cell? ⟨w.heap.size, 0, none⟩ = some (.bool r.1.1) ∧ W.cell? ⟨w.heap.size, 1, none⟩ = some (.slice Ar r.1.2.length cr) ∧ W.cell? ⟨w.heap.size, 2, none⟩ = some (.slice Br r.2.length dr) ∧ Hid (Chg [] W0 W))
      ((refine KL.out _ ?_; (first | exact HC3.out | exact HC2.out | exact HC1.out | exact HCr.out | exact HC0.out | exact HC3.out.drew1 | exact HC2.out.drew1 | exact HC1.out.drew1 | exact HCr.out.drew1 | exact HC0.out.drew1 | exact HC3.out.trans (Chg.of_below (below_al (Below.refl _ _) _)) | exact HC2.out.trans (Chg.of_below (below_al (Below.refl _ _) _)) | exact HC1.out.trans (Chg.of_below (below_al (Below.refl _ _) _)) | exact HCr.out.trans (Chg.of_below (below_al (Below.refl _ _) _)) | exact HC0.out.trans (Chg.of_below (below_al (Below.refl _ _) _)) | fail)))
      (first
        | (go_at_call 79; (have hBB := (‹_ ∧ _ ∧ _ ∧ Hid (Chg [] W0 _)›).2.2.2); (with_reducible refine (HOK.out _ (BBF.out _ hBB.out)).mono ?_); rintro e w1 ⟨rfl, b1⟩; have HC1 := Lib.hid (hBB.out.trans (Chg.of_below b1)); have HBZ1 := Lib.hid hBB.out.size; clear hBB)
        | (go_at_call 46; (have hBB := (‹_ ∧ _ ∧ _ ∧ Hid (Chg [] W0 _)›).2.2.2); (with_reducible refine (HNO.out _).mono ?_); rintro e w2 ⟨uo, So, rfl, oo, lo, b2⟩; have HC2 := Lib.hid (hBB.out.trans (Chg.of_below b2)); obtain ⟨Eo, eo, rfl⟩ := own_len oo.here; have HBZ2 := Lib.hid hBB.out.size; clear hBB)
        | (go_at_call 133; (have hBB := (‹_ ∧ _ ∧ _ ∧ Hid (Chg [] W0 _)›).2.2.2); (with_reducible refine (HCM.out _ _ _ (ODr.out _ (BBF.out _ hBB.out)) (At.here (by first | exact oo | exact At.below oo (below_al (Below.refl _ _) _) | exact At.below (At.below oo (below_al (Below.refl _ _) _)) (below_al (Below.refl _ _) _) | exact At.move oo (fun _ _ => rfl) (Nat.le_refl _)))).mono ?_); rintro e w3 ⟨rfl, b3⟩; have HC3 := Lib.hid (hBB.out.trans (Chg.of_below b3)); (have oo_3 := At.below (by first | exact oo | exact At.below oo (below_al (Below.refl _ _) _) | exact At.below (At.below oo (below_al (Below.refl _ _) _)) (below_al (Below.refl _ _) _) | exact At.move oo (fun _ _ => rfl) (Nat.le_refl _)) b3); have HBZ3 := Lib.hid hBB.out.size; clear hBB))
    have bb3 := BBF.out _ HC3.out
    replace kr := kr.chg HC3.out (fun i hi hm => by simp at hm)
    have oo := oo_3
    go_wp2
    go_ret
    exact ⟨ret_bool HV.out.symm, bb3⟩
  · have ok' : okQ r = false := by simpa using ok
    have HO := Lib.hid ok'
    have HV := Lib.hid (show (okQ r && decide (denQ r = n)) = false by rw [ok']; rfl)
    clear ok ok'
    have HOK := Lib.hid (show ∀ W, Below w.heap.size w W → Calls Tryd.prog 79 #[.agg #[.bool r.1.1, .slice Ar r.1.2.length cr, .slice Br r.2.length dr]] W (Postb false W) from fun W hb => by have h := implRatOk_any _ r W hz (OQr.out _ hb) (HS.out.below hb); rw [HO.out] at h; exact h)
    go_enter Tryd.func92, Tryd.ntmps92
    have kr_c0 := kr.here.cell 0 _ rfl
    have kr_c1 := kr.here.cell 1 _ rfl
    have kr_c2 := kr.here.cell 2 _ rfl
    go_wp2_with fail
    rw [← HW0.out]
    have HC0 := Lib.hid (show Chg [] W0 W0.drew from (Chg.refl _ _).drew1)
    have KL := Lib.hid (show ∀ W, Chg [] W0 W → W.cell? ⟨w.heap.size, 0, none⟩ = some (.bool r.1.1) ∧ W.cell? ⟨w.heap.size, 1, none⟩ = some (.slice Ar r.1.2.length cr) ∧ W.cell? ⟨w.heap.size, 2, none⟩ = some (.slice Br r.2.length dr) ∧ Hid (Chg [] W0 W) from fun W hc => ⟨(kr.chg hc (fun i hi hm => by simp at hm)).here.cell 0 _ rfl, (kr.chg hc (fun i hi hm => by simp at hm)).here.cell 1 _ rfl, (kr.chg hc (fun i hi hm => by simp at hm)).here.cell 2 _ rfl, Lib.hid hc⟩)
    have BBF := Lib.hid (show ∀ W, Chg [] W0 W → Below w.heap.size w W from fun W hc => below_chg bb0 hc bb0.size (fun i hi => by simp at hi))
    clear kr_c0 kr_c1 kr_c2
    refine wp_region_held_drew (S := fun W => W.cell? ⟨w.heap.size, 0, none⟩ = some (.bool r.1.1) ∧ W.cell? ⟨w.heap.size, 1, none⟩ = some (.slice Ar r.1.2.length cr) ∧ W.cell? ⟨w.heap.size, 2, none⟩ = some (.slice Br r.2.length dr) ∧ Hid (Chg [] W0 W)) (by kernel_rfl) ?_ (fun hHeld => ?_)
    · ((refine KL.out _ ?_; (first | exact HC0.out | fail)))
    refine wpAnyH_take (i := 0) (v := ?_) rfl (by kernel_rfl) (by kernel_rfl) (by kernel_rfl) (fun _ _ _ h => h) (Or.inl ⟨by kernel_rfl, ?_⟩) (by assumption) ?_
    rotate_left
    · (intro w hSw; (try dsimp only at hSw); go_simp; (try with_reducible rfl))
    (try simp only [Act.put, List.getElem_toArray, List.getElem_cons_zero, List.setIfInBounds_toArray, List.set_cons_zero, List.set_cons_succ])
    refine wpAnyH_ready (rs := [1]) (by kernel_rfl) (by simp) ?_
    refine AllReadyH.cons rfl (fun K hK => ?_) AllReadyH.nil
    go_simp
    (go_at_call 79; (have hBB := (‹_ ∧ _ ∧ _ ∧ Hid (Chg [] W0 _)›).2.2.2); (with_reducible refine (HOK.out _ (BBF.out _ hBB.out)).mono ?_); rintro e w1 ⟨rfl, b1⟩; have HC1 := Lib.hid (hBB.out.trans (Chg.of_below b1)); clear hBB)
    refine hK.out _ _ ?_ (fun hHeld => ?_)
    · ((refine KL.out _ ?_; (first | exact HC1.out | exact HC0.out | fail)))
    clear hK K
    (try simp only [Act.put, List.getElem_toArray, List.getElem_cons_zero, List.getElem_cons_succ, List.setIfInBounds_toArray, List.set_cons_zero, List.set_cons_succ])
    refine wpAnyH_take (i := 2) (v := ?_) rfl (by kernel_rfl) (by kernel_rfl) (by kernel_rfl) (fun _ _ _ h => h) (Or.inl ⟨by kernel_rfl, ?_⟩) (by assumption) ?_
    rotate_left
    · (intro w hSw; (try dsimp only at hSw); go_simp; (try with_reducible rfl))
    (try simp only [Act.put, List.getElem_toArray, List.getElem_cons_zero, List.getElem_cons_succ, List.setIfInBounds_toArray, List.set_cons_zero, List.set_cons_succ])
    refine wpAnyH_take (i := 3) (v := undef) rfl (by kernel_rfl) (by kernel_rfl) (by kernel_rfl) (fun _ _ _ h => h) (Or.inr ⟨by kernel_rfl, rfl⟩) (by assumption) ?_
    (try simp only [Act.put, List.getElem_toArray, List.getElem_cons_zero, List.getElem_cons_succ, List.setIfInBounds_toArray, List.set_cons_zero, List.set_cons_succ])
    refine wpAnyH_take (i := 4) (v := undef) rfl (by kernel_rfl) (by kernel_rfl) (by kernel_rfl) (fun _ _ _ h => h) (Or.inr ⟨by kernel_rfl, rfl⟩) (by assumption) ?_
    (try simp only [Act.put, List.getElem_toArray, List.getElem_cons_zero, List.getElem_cons_succ, List.setIfInBounds_toArray, List.set_cons_zero, List.set_cons_succ])
    refine wpAnyH_take (i := 5) (v := undef) rfl (by kernel_rfl) (by kernel_rfl) (by kernel_rfl) (fun _ _ _ h => h) (Or.inr ⟨by kernel_rfl, rfl⟩) (by assumption) ?_
    (try simp only [Act.put, List.getElem_toArray, List.getElem_cons_zero, List.getElem_cons_succ, List.setIfInBounds_toArray, List.set_cons_zero, List.set_cons_succ])
    refine wpAnyH_take (i := 6) (v := undef) rfl (by kernel_rfl) (by kernel_rfl) (by kernel_rfl) (fun _ _ _ h => h) (Or.inr ⟨by kernel_rfl, rfl⟩) (by assumption) ?_
    (try simp only [Act.put, List.getElem_toArray, List.getElem_cons_zero, List.getElem_cons_succ, List.setIfInBounds_toArray, List.set_cons_zero, List.set_cons_succ])
    refine wpAnyH_take (i := 7) (v := undef) rfl (by kernel_rfl) (by kernel_rfl) (by kernel_rfl) (fun _ _ _ h => h) (Or.inr ⟨by kernel_rfl, rfl⟩) (by assumption) ?_
    (try simp only [Act.put, List.getElem_toArray, List.getElem_cons_zero, List.getElem_cons_succ, List.setIfInBounds_toArray, List.set_cons_zero, List.set_cons_succ])
    refine wpAnyH_take (i := 8) (v := undef) rfl (by kernel_rfl) (by kernel_rfl) (by kernel_rfl) (fun _ _ _ h => h) (Or.inr ⟨by kernel_rfl, rfl⟩) (by assumption) ?_
    (try simp only [Act.put, List.getElem_toArray, List.getElem_cons_zero, List.getElem_cons_succ, List.setIfInBounds_toArray, List.set_cons_zero, List.set_cons_succ])
    refine wpAnyH_take (i := 9) (v := ?_) rfl (by kernel_rfl) (by kernel_rfl) (by kernel_rfl) (fun _ _ _ h => h) (Or.inl ⟨by kernel_rfl, ?_⟩) (by assumption) ?_
    rotate_left
    · (intro w hSw; (try dsimp only at hSw); go_simp; (try with_reducible rfl))
    (try simp only [Act.put, List.getElem_toArray, List.getElem_cons_zero, List.getElem_cons_succ, List.setIfInBounds_toArray, List.set_cons_zero, List.set_cons_succ])
    refine wpAnyH_take (i := 10) (v := ?_) rfl (by kernel_rfl) (by kernel_rfl) (by kernel_rfl) (fun _ _ _ h => h) (Or.inl ⟨by kernel_rfl, ?_⟩) (by assumption) ?_
    rotate_left
    · (intro w hSw; (try dsimp only at hSw); go_simp; (try with_reducible rfl))
    (try simp only [Act.put, List.getElem_toArray, List.getElem_cons_zero, List.getElem_cons_succ, List.setIfInBounds_toArray, List.set_cons_zero, List.set_cons_succ])
    refine wpAnyH_done (by kernel_rfl) ?_ _
    have bb1 := BBF.out _ HC1.out
    go_wp2
    go_ret
    exact ⟨ret_bool HV.out.symm, bb1⟩
set_option maxHeartbeats 1000000 in
set_option maxRecDepth 100000 in
theorem implRatHalf_any (vr : Value) (r : QI) (w : World) (hz : szQ r ≤ 1048576) (hr : OwnQ vr r w) (hsen : Sen w) :
    Calls Tryd.prog 39 #[vr] w (Postb (halfB r) w) := by
  have HS := Lib.hid hsen
  clear hsen
  have Hr := Lib.hid hr
  obtain ⟨Ar, cr, Br, dr, rfl⟩ := ownQ_form hr
  have OQr := Lib.hid (show ∀ W, Below w.heap.size w W → OwnQ (.agg #[.bool r.1.1, .slice Ar r.1.2.length cr, .slice Br r.2.length dr]) r W from fun W hb => OwnQ.below Hr.out hb)
  have OUr := Lib.hid (show ∀ W, Below w.heap.size w W → OwnI (.slice Ar r.1.2.length cr) r.1.2 W from fun W hb => (ownQ_open (OQr.out W hb)).2.1)
  have ODr := Lib.hid (show ∀ W, Below w.heap.size w W → OwnI (.slice Br r.2.length dr) r.2 W from fun W hb => (ownQ_open (OQr.out W hb)).2.2.1)
  have OSr := Lib.hid (show ∀ W, Below w.heap.size w W → OwnS (.agg #[.bool r.1.1, .slice Ar r.1.2.length cr]) r.1 W from fun W hb => OwnS.mk (OUr.out W hb))
  clear hr
  have HV := Lib.hid (show (okQ r && decide (denQ r = 2)) = halfB r from rfl)
  have bb0 : Below w.heap.size w (w.alloc (.cells #[.bool r.1.1, .slice Ar r.1.2.length cr, .slice Br r.2.length dr] 30)) := below_al (Below.refl _ _) _
  have kr := (box_new w #[.bool r.1.1, .slice Ar r.1.2.length cr, .slice Br r.2.length dr] 30)
  go_enter Tryd.func39, Tryd.ntmps39
  have kr_c0 := kr.here.cell 0 _ rfl
  have kr_c1 := kr.here.cell 1 _ rfl
  have kr_c2 := kr.here.cell 2 _ rfl
  go_wp2_with fail
  clear kr_c0 kr_c1 kr_c2
  refine (hasDen_any _ r 2 _ hz (by omega) (OQr.out _ bb0) (HS.out.below bb0)).mono ?_
  rintro e w1 ⟨rfl, b1⟩
  have bb1 := Below.next bb0 b1
  replace kr := kr.below b1
  clear kr
  go_wp2
  go_ret
  exact ⟨ret_bool HV.out, bb1⟩
end Go.Proofs.YthfkdofnoomhaaaDoor

namespace Go.Proofs.YthfkdofnoomhaaaDoor
open Go.RowKit

/-- block g is a cursor over the slice v of n bytes -/
def Cur (w : World) (g : Nat) (v : Value) (n : Nat) : Prop :=
  ∃ i h : Int, 0 ≤ i ∧ i ≤ n ∧ -9223372036854775808 ≤ h ∧ h ≤ 9223372036854775807 ∧ w.heap[g]? = some (.cells #[v, .int .i64 i, .int .i64 h] 116 (0, 0))
/-- bytes as cells -/
def bytesV (bs : List Nat) : List Value := bs.map fun b : Nat => Value.int .u8 (b : Int)

theorem cell_in {w : World} {g : Nat} {cs : Array Value} {t : TypeId} (h : w.heap[g]? = some (.cells cs t (0, 0))) (j : Nat) (u : Value) (hj : cs[j]? = some u) : w.cell? ⟨g, j, none⟩ = some u := by
  rw [cell_of_row w g j cs t (0, 0) h]
  exact hj
theorem free_in {w : World} {g : Nat} {cs : Array Value} {t : TypeId} (h : w.heap[g]? = some (.cells cs t (0, 0))) (j : Nat) : w.frozen? ⟨g, j, none⟩ = false := by
  simp [World.frozen?, h]
theorem put_in {w : World} {g : Nat} {cs : Array Value} {t : TypeId} (h : w.heap[g]? = some (.cells cs t (0, 0))) (j : Nat) (u : Value) : (w.setCell ⟨g, j, none⟩ u).heap[g]? = some (.cells (cs.setIfInBounds j u) t (0, 0)) := by
  simp [World.setCell, Array.getElem?_modify, h]
theorem put_grown (w : World) (g j : Nat) (u : Value) : w.grownBy (w.setCell ⟨g, j, none⟩ u) (some g) :=
  ⟨rfl, rfl, rfl, by simp [World.setCell], fun k _ hne => Below.heap_setCell w _ u k (fun e => hne (by rw [e]))⟩
theorem grown_drewN {a w : World} {row : Option Nat} (h : a.grownBy w row) (n : Nat) : a.grownBy (w.drewN n) row := ⟨h.os, h.tape, h.output, h.size, h.block⟩

theorem and255 (x : Int) : 0 ≤ bits .and .i64 x 255 ∧ bits .and .i64 x 255 ≤ 255 := by
  have h : (BitVec.ofInt 64 x &&& BitVec.ofInt 64 255).toNat ≤ 255 := by
    rw [BitVec.toNat_and]
    exact Nat.and_le_right
  have e : bits .and .i64 x 255 = IntKind.i64.wrap ((BitVec.ofInt 64 x &&& BitVec.ofInt 64 255).toNat : Int) := rfl
  rw [e, IntKind.wrap_i64]
  omega

/-- what a draw of one byte comes to -/
def BytePost (g : Nat) (v : Value) (n : Nat) (w : World) (e : Ending) (w' : World) : Prop :=
  ∃ x : Int, 0 ≤ x ∧ x ≤ 255 ∧ e = .returned (.int .i64 x) ∧ Cur w' g v n ∧ w.grownBy w' (some g)

set_option maxHeartbeats 1000000 in
set_option maxRecDepth 100000 in
theorem l01Byte_any (g lo hi : Nat) (v : Value) (bs : List Nat) (w : World) (hb : ∀ b ∈ bs, b < 256) (hn : bs.length ≤ 1048576) (hc : Cur w g v bs.length) (hr : Row w lo hi v (bytesV bs)) (hg : hi ≤ g) :
    Calls Tryd.prog 136 #[.pointer (some ⟨g, 0, none⟩)] w (BytePost g v bs.length w) := by
  obtain ⟨i, h, hi0, hin, hh0, hh1, hbl⟩ := hc
  obtain ⟨A, c, rfl, hA⟩ := hr
  have hlen : (bytesV bs).length = bs.length := by simp [bytesV]
  have HA := Lib.hid hA
  clear hA
  rw [hlen] at hbl ⊢
  have c0 := cell_in hbl 0 _ rfl
  have c1 := cell_in hbl 1 _ rfl
  have c2 := cell_in hbl 2 _ rfl
  have f1 := free_in hbl 1
  have f2 := free_in hbl 2
  have HBL := Lib.hid hbl
  clear hbl
  obtain ⟨h2, Hh2⟩ : ∃ h2 : Int, Hid (wrap64 (wrap64 (h * 6364136223846793005) + 1442695040888963407) = h2 ∧ -9223372036854775808 ≤ h2 ∧ h2 ≤ 9223372036854775807) := ⟨_, Lib.hid ⟨rfl, by unfold wrap64; omega, by unfold wrap64; omega⟩⟩
  have hbl1 := put_in HBL.out 2 (.int .i64 h2)
  have hgr1 := put_grown w g 2 (.int .i64 h2)
  go_enter Tryd.func136, Tryd.ntmps136
  go_wp2
  rw [Hh2.out.1]
  obtain ⟨_, hl0, hl1⟩ := Hh2.out
  clear Hh2 c0 c1 c2 f1 f2
  generalize w.setCell ⟨g, 2, none⟩ (.int .i64 h2) = w1 at *
  have c0 : w1.cell? ⟨g, 0, none⟩ = some (.slice A bs.length c) := cell_in hbl1 0 _ rfl
  have c1 : w1.cell? ⟨g, 1, none⟩ = some (.int .i64 i) := cell_in hbl1 1 _ rfl
  have c2 : w1.cell? ⟨g, 2, none⟩ = some (.int .i64 h2) := cell_in hbl1 2 _ rfl
  have f1 := free_in hbl1 1
  have HBL1 := Lib.hid hbl1
  clear hbl1
  go_quiet (fail)
  go_wp2
  have hx := and255 (bits .xor .i64 (h2 / 8589934592) (h2 / 35184372088832))
  generalize bits .and .i64 (bits .xor .i64 (h2 / 8589934592) (h2 / 35184372088832)) 255 = x at *
  by_cases hlt : i < bs.length
  · obtain ⟨k, rfl⟩ := Int.eq_ofNat_of_zero_le hi0
    have hkl : k < bs.length := by omega
    obtain ⟨a, rfl, _, hab, hca⟩ := HA.out k (.int .u8 (bs[k] : Nat)) (by simp [bytesV, hkl])
    have hbk := hb bs[k] (List.getElem_mem hkl)
    have hca1 : w1.cell? (a.add k) = some (.int .u8 (bs[k] : Nat)) := by
      rw [← hca]
      have hne : some (a.add k).block ≠ some g := by rw [block_add]; intro e; injection e with e; omega
      exact World.cell?_of_block (hgr1.block _ (cell_lt hca) hne)
    clear hca hi0
    have HB := Lib.hid hb
    clear hb
    go_quiet (fail)
    go_wp2
    go_quiet (fail)
    go_wp2
    go_ret
    have hx2 := and255 (x + (bs[k] : Nat))
    exact ⟨_, hx2.1, hx2.2, rfl, ⟨(k : Int) + 1, h2, by omega, by omega, hl0, hl1, put_in HBL1.out 1 _⟩, grown_drewN (grown_trans hgr1 (put_grown w1 g 1 _)) _⟩
  · have hlt' : decide (i < bs.length) = false := decide_eq_false hlt
    have HB := Lib.hid hb
    clear hb
    go_quiet (fail)
    go_wp2
    go_ret
    exact ⟨x, hx.1, hx.2, rfl, ⟨i, h2, hi0, hin, hl0, hl1, HBL1.out⟩, grown_drewN hgr1 _⟩

theorem Row.far {w w' : World} {lo hi g : Nat} {v : Value} {xs : List Value} (h : Row w lo hi v xs) (hg : w.grownBy w' (some g)) (hlt : hi ≤ g) : Row w' lo hi v xs := by
  obtain ⟨A, c, rfl, h⟩ := h
  refine ⟨A, c, rfl, fun j u hj => ?_⟩
  obtain ⟨a, e, h1, h2, h3⟩ := h j u hj
  refine ⟨a, e, h1, h2, ?_⟩
  rw [← h3]
  have hne : some (a.add j).block ≠ some g := by rw [block_add]; intro e; injection e with e; omega
  exact World.cell?_of_block (hg.block _ (cell_lt h3) hne)

/-- what a draw below n comes to -/
def BelowPost (m : Int) (g : Nat) (v : Value) (n : Nat) (w : World) (e : Ending) (w' : World) : Prop :=
  ∃ x : Int, 0 ≤ x ∧ x < m ∧ e = .returned (.int .i64 x) ∧ Cur w' g v n ∧ w.grownBy w' (some g)

set_option maxHeartbeats 1000000 in
set_option maxRecDepth 100000 in
theorem l01Below_any (m : Int) (g lo hi : Nat) (v : Value) (bs : List Nat) (w : World) (hm : 0 < m) (hm2 : m ≤ 2147483648) (hb : ∀ b ∈ bs, b < 256) (hn : bs.length ≤ 1048576) (hc : Cur w g v bs.length) (hr : Row w lo hi v (bytesV bs)) (hg : hi ≤ g) :
    Calls Tryd.prog 84 #[.pointer (some ⟨g, 0, none⟩), .int .i64 m] w (BelowPost m g v bs.length w) := by
  have HB := Lib.hid hb
  clear hb
  have hmz : (m == 0) = false := by rw [beq_eq_false_iff_ne]; omega
  by_cases hs : m ≤ 256
  · go_enter Tryd.func84, Tryd.ntmps84
    go_wp2_with fail
    refine (l01Byte_any g lo hi v bs _ HB.out hn hc hr hg).mono ?_
    rintro e w1 ⟨x, hx0, hx1, rfl, hc1, hg1⟩
    go_wp2
    go_ret
    exact ⟨x % m, Int.emod_nonneg _ (by omega), Int.emod_lt_of_pos _ hm, rfl, hc1, hg1⟩
  · go_enter Tryd.func84, Tryd.ntmps84
    go_wp2_with fail
    refine (l01Byte_any g lo hi v bs _ HB.out hn hc hr hg).mono ?_
    rintro e w1 ⟨x1, hx0, hx1, rfl, hc1, hg1⟩
    have hr1 := hr.far hg1 hg
    go_wp2_with fail
    refine (l01Byte_any g lo hi v bs _ HB.out hn hc1 hr1 hg).mono ?_
    rintro e w2 ⟨x2, hy0, hy1, rfl, hc2, hg2⟩
    have hr2 := hr1.far hg2 hg
    go_wp2_with fail
    refine (l01Byte_any g lo hi v bs _ HB.out hn hc2 hr2 hg).mono ?_
    rintro e w3 ⟨x3, hz0, hz1, rfl, hc3, hg3⟩
    have hr3 := hr2.far hg3 hg
    go_wp2_with fail
    refine (l01Byte_any g lo hi v bs _ HB.out hn hc3 hr3 hg).mono ?_
    rintro e w4 ⟨x4, hq0, hq1, rfl, hc4, hg4⟩
    go_wp2
    go_ret
    exact ⟨(x1 * 16777216 + x2 * 65536 + x3 * 256 + x4) % m, Int.emod_nonneg _ (by omega), Int.emod_lt_of_pos _ hm, rfl, hc4, grown_trans (grown_trans (grown_trans hg1 hg2) hg3) hg4⟩

/-- what a new cursor is -/
def NewPost (v : Value) (n : Nat) (w : World) (e : Ending) (w' : World) : Prop :=
  ∃ g : Nat, w.heap.size ≤ g ∧ e = .returned (.pointer (some ⟨g, 0, none⟩)) ∧ Cur w' g v n ∧ Below w.heap.size w w'
theorem andMask (x : Int) : 0 ≤ bits .and .i64 x 1073741823 ∧ bits .and .i64 x 1073741823 ≤ 1073741823 := by
  have h : (BitVec.ofInt 64 x &&& BitVec.ofInt 64 1073741823).toNat ≤ 1073741823 := by
    rw [BitVec.toNat_and]
    exact Nat.and_le_right
  have e : bits .and .i64 x 1073741823 = IntKind.i64.wrap ((BitVec.ofInt 64 x &&& BitVec.ofInt 64 1073741823).toNat : Int) := rfl
  rw [e, IntKind.wrap_i64]
  omega

set_option maxRecDepth 100000 in
set_option maxHeartbeats 1000000 in
set_option maxRecDepth 100000 in
theorem l01New_any (lo hi : Nat) (v : Value) (bs : List Nat) (w : World) (hb : ∀ b ∈ bs, b < 256) (hn : bs.length ≤ 1048576) (hr : Row w lo hi v (bytesV bs)) :
    Calls Tryd.prog 81 #[v] w (NewPost v bs.length w) := by
  obtain ⟨A, c, rfl, hA⟩ := hr
  have hlen : (bytesV bs).length = bs.length := by simp [bytesV]
  rw [hlen]
  have HA := Lib.hid hA
  have HB := Lib.hid hb
  clear hA hb hlen
  go_enter Tryd.func81, Tryd.ntmps81
  go_wp2
  go_loop [3, 4] (fun a i => ∃ (k : Nat) (h : Int), k ≤ bs.length ∧ i = .int .i64 k ∧ a = .int .i64 h ∧ 0 ≤ h ∧ h ≤ 1073741823) (fun _ i => bs.length - (intOf i).toNat)
  case atStart => exact ⟨0, _, Nat.zero_le _, rfl, rfl, by omega, by omega⟩
  case round =>
    obtain ⟨k, h, hk, rfl, rfl, hh0, hh1⟩ := hrel
    by_cases hlt : k < bs.length ∧ k < 4000
    · obtain ⟨a, rfl, _, hab, hca⟩ := HA.out k (.int .u8 (bs[k]'hlt.1 : Nat)) (by simp [bytesV, hlt.1])
      have hbk := HB.out _ (List.getElem_mem hlt.1)
      obtain ⟨hl1, hl2⟩ := hlt
      go_wp2
      have hm := andMask (h * 41 + (bs[k] : Nat) + 7)
      go_round
      case rel => exact ⟨k + 1, _, by omega, by go_num, rfl, hm.1, hm.2⟩
      case measure => simp [intOf]; omega
    · by_cases hl1 : k < bs.length
      · have hl2 : ¬ k < 4000 := fun e => hlt ⟨hl1, e⟩
        clear hlt
        go_wp2
        go_ret
        exact ⟨w.heap.size, Nat.le_refl _, rfl, ⟨0, h, by omega, by omega, by omega, by omega, heap_alloc_new w _⟩, (Below.refl _ _).alloc (Nat.le_refl _) _⟩
      · clear hlt
        go_wp2
        go_ret
        exact ⟨w.heap.size, Nat.le_refl _, rfl, ⟨0, h, by omega, by omega, by omega, by omega, heap_alloc_new w _⟩, (Below.refl _ _).alloc (Nat.le_refl _) _⟩

/-- a number that a law draws -/
def NumPost (m : Int) (w : World) (e : Ending) (w' : World) : Prop := ∃ x : Int, 0 ≤ x ∧ x < m ∧ e = .returned (.int .i64 x) ∧ Below w.heap.size w w'

set_option maxHeartbeats 1000000 in
set_option maxRecDepth 100000 in
theorem makeNum_any (m : Int) (v : Value) (bs : List Nat) (w : World) (hm : 0 < m) (hm2 : m ≤ 2147483648) (hb : ∀ b ∈ bs, b < 256) (hn : bs.length ≤ 1048576) (hr : Row w 0 w.heap.size v (bytesV bs)) :
    Calls Tryd.prog 42 #[v, .int .i64 m] w (NumPost m w) := by
  have HB := Lib.hid hb
  clear hb
  go_enter Tryd.func42, Tryd.ntmps42
  go_wp2_with fail
  refine (l01New_any 0 w.heap.size v bs _ HB.out hn hr).mono ?_
  rintro e w1 ⟨g, hg, rfl, ⟨i, h, hi0, hi1, hh0, hh1, hbl⟩, b1⟩
  have c2 : w1.cell? ⟨g, 2, none⟩ = some (.int .i64 h) := cell_in hbl 2 _ rfl
  have f2 := free_in hbl 2
  have hr1 := hr.below b1 (Nat.le_refl _)
  have hcur : Cur (w1.setCell ⟨g, 2, none⟩ (.int .i64 (wrap64 (h + 777)))) g v bs.length := ⟨i, wrap64 (h + 777), hi0, hi1, by unfold wrap64; omega, by unfold wrap64; omega, put_in hbl 2 _⟩
  have hgr := put_grown w1 g 2 (.int .i64 (wrap64 (h + 777)))
  have hr2 := hr1.far hgr hg
  have HC := Lib.hid hcur
  have HG := Lib.hid hgr
  have HR := Lib.hid hr2
  clear hcur hgr hr2 hbl
  go_wp2_with fail
  refine (l01Below_any m g 0 w.heap.size v bs _ hm hm2 HB.out hn HC.out HR.out hg).mono ?_
  rintro e w2 ⟨x, hx0, hx1, rfl, _, hg2⟩
  go_wp2
  go_ret
  exact ⟨x, hx0, hx1, rfl, b1.grown (grown_trans HG.out hg2) b1.size (fun k hk => by cases hk; exact hg)⟩
end Go.Proofs.YthfkdofnoomhaaaDoor

namespace Go.Proofs.YthfkdofnoomhaaaDoor
open Go.RowKit

theorem Row.away {w w' : World} {lo hi g : Nat} {v : Value} {xs : List Value} (h : Row w lo hi v xs) (hg : w.grownBy w' (some g)) (hd : hi ≤ g ∨ g < lo) : Row w' lo hi v xs := by
  obtain ⟨A, c, rfl, h⟩ := h
  refine ⟨A, c, rfl, fun j u hj => ?_⟩
  obtain ⟨a, e, h1, h2, h3⟩ := h j u hj
  refine ⟨a, e, h1, h2, ?_⟩
  rw [← h3]
  have hne : some (a.add j).block ≠ some g := by rw [block_add]; intro e; injection e with e; omega
  exact World.cell?_of_block (hg.block _ (cell_lt h3) hne)
theorem Chg.of_cur {w w' : World} {g : Nat} (h : w.grownBy w' (some g)) : Chg [g] w w' := ⟨h.os, h.tape, h.output, h.size, fun i hi hn => h.block i hi (fun e => hn (by injection e with e; simp [e]))⟩
theorem Chg.new_row {T : List Nat} {w a b : World} {row : Option Nat} (h : Chg T w a) (k : a.grownBy b row) (hr : ∀ j, row = some j → w.heap.size ≤ j) : Chg T w b :=
  ⟨k.os.trans h.os, k.tape.trans h.tape, k.output.trans h.output, Nat.le_trans h.size k.size, fun i hi hn => (k.block i (Nat.lt_of_lt_of_le hi h.size) (fun e => by have := hr i e.symm; omega)).trans (h.block i hi hn)⟩
theorem Chg.alloc {T : List Nat} {w a : World} (h : Chg T w a) (o : Obj) : Chg T w (a.alloc o) :=
  h.trans (Chg.of_below ((Below.refl _ _).alloc (Nat.le_refl _) o))
theorem Cur.alloc {w : World} {g : Nat} {v : Value} {n : Nat} (h : Cur w g v n) (o : Obj) : Cur (w.alloc o) g v n := by
  obtain ⟨i, k, h1, h2, h3, h4, hb⟩ := h
  exact ⟨i, k, h1, h2, h3, h4, (Below.heap_alloc _ _ _ (Array.getElem?_eq_some_iff.1 hb).1).trans hb⟩
theorem Cur.grown {w w' : World} {g : Nat} {v : Value} {n : Nat} {row : Option Nat} (h : Cur w g v n) (k : w.grownBy w' row) (hr : row ≠ some g) : Cur w' g v n := by
  obtain ⟨i, x, h1, h2, h3, h4, hb⟩ := h
  exact ⟨i, x, h1, h2, h3, h4, (k.block g (Array.getElem?_eq_some_iff.1 hb).1 (Ne.symm hr)).trans hb⟩
theorem Cur.lt {w : World} {g : Nat} {v : Value} {n : Nat} (h : Cur w g v n) : g < w.heap.size := by
  obtain ⟨i, x, h1, h2, h3, h4, hb⟩ := h
  exact (Array.getElem?_eq_some_iff.1 hb).1

theorem own_far {w w' : World} {base n g : Nat} {e : TypeId} {v : Value} {xs : List Value} (h : w.ownsRow base e 1 v n xs) (hg : w.grownBy w' (some g)) (hlt : g < base) : w'.ownsRow base e 1 v n xs :=
  own_apart h hg (fun a b ha hb => by have := (own_lt h ha).1; injection hb with hb; omega)

/-- what a pick comes to: one of the list -/
def PickPost (xs : List Int) (g : Nat) (v : Value) (n : Nat) (w : World) (e : Ending) (w' : World) : Prop :=
  ∃ x ∈ xs, e = .returned (.int .i64 x) ∧ Cur w' g v n ∧ w.grownBy w' (some g)
set_option maxHeartbeats 400000 in
set_option maxRecDepth 100000 in
theorem l01Pick_any (xs : List Int) (vx : Value) (lx hx g lo hi : Nat) (v : Value) (bs : List Nat) (w : World) (h0 : 0 < xs.length) (h1 : xs.length ≤ 1048576) (hb : ∀ b ∈ bs, b < 256) (hn : bs.length ≤ 1048576) (hc : Cur w g v bs.length) (hr : Row w lo hi v (bytesV bs)) (hg : hi ≤ g)
    (hrx : Row w lx hx vx (intsV xs)) (hd : hx ≤ g ∨ g < lx) :
    Calls Tryd.prog 85 #[.pointer (some ⟨g, 0, none⟩), vx] w (PickPost xs g v bs.length w) := by
  have HB := Lib.hid hb
  have HD := Lib.hid hd
  clear hb hd
  have hrx0 := hrx
  obtain ⟨A, c, rfl, _⟩ := hrx
  rw [intsV_length] at hrx0 ⊢
  go_enter Tryd.func85, Tryd.ntmps85
  go_wp2_with fail
  refine (l01Below_any (xs.length : Int) g lo hi v bs _ (by omega) (by omega) HB.out hn hc hr hg).mono ?_
  rintro e w1 ⟨x, hx0, hx1, rfl, hc1, hg1⟩
  obtain ⟨k, rfl⟩ := Int.eq_ofNat_of_zero_le hx0
  have hk : k < xs.length := by omega
  obtain ⟨A', c', e1, hA⟩ := hrx0.away hg1 HD.out
  injection e1 with e1 _ _
  subst e1
  obtain ⟨p, rfl, _, _, hca⟩ := hA k _ (intsV_at xs k hk)
  have HG := Lib.hid hg1
  clear hA hg1 hrx0
  go_wp2
  go_ret
  exact ⟨xs[k], List.getElem_mem hk, rfl, hc1, HG.out⟩

/-- what a drawn nat is -/
def DrawPost (most : Nat) (g : Nat) (v : Value) (n : Nat) (w : World) (e : Ending) (w' : World) : Prop :=
  ∃ (u : Value) (xs : List Int), e = .returned u ∧ natOkB xs = true ∧ xs.length ≤ most ∧ w'.ownsRow w.heap.size 3 1 u xs.length (intsV xs) ∧ Cur w' g v n ∧ Chg [g] w w'
/-- what is known at the head of l02Nat's loop -/
def DrawRel (most : Nat) (g : Nat) (v : Value) (n : Nat) (w : World) (u i : Value) (wr : World) : Prop :=
  ∃ (m : Nat) (out : List Int), out.length + m ≤ most ∧ i = .int .i64 m ∧ DigN out ∧ wr.ownsRow w.heap.size 3 1 u out.length (intsV out) ∧ Cur wr g v n ∧ Chg [g] w wr
theorem pick_list {x y z : Int} (h1 : 0 ≤ y ∧ y < 1000000000) (h2 : 0 ≤ z ∧ z < 1000000000) (h : x ∈ [0, 1, 2, 999999999, 500000000, y, z]) : 0 ≤ x ∧ x ≤ 999999999 := by
  simp at h
  omega
theorem drawn_trim (xs : List Int) (h : DigN xs) (hl : xs.length ≤ 50) : natOkB (trimL xs) = true ∧ (trimL xs).length ≤ xs.length := by
  have h1 := trimL_length xs
  refine ⟨?_, h1⟩
  rw [trim_limbs xs h] at h1 ⊢
  unfold natOkB
  rw [(all_dig _).2 (limbs_digN _), decide_eq_true (show (limbs (nval xs).toNat).length ≤ 50 by omega), decide_eq_true (limbs_lastN _)]
  rfl

set_option maxHeartbeats 1000000 in
set_option maxRecDepth 100000 in
theorem l02Nat_any (most : Nat) (g lo hi : Nat) (v : Value) (bs : List Nat) (w : World) (hmost : most ≤ 50) (hb : ∀ b ∈ bs, b < 256) (hn : bs.length ≤ 1048576) (hc : Cur w g v bs.length) (hr : Row w lo hi v (bytesV bs)) (hg : hi ≤ g) :
    Calls Tryd.prog 137 #[.pointer (some ⟨g, 0, none⟩), .int .i64 most] w (DrawPost most g v bs.length w) := by
  obtain ⟨i0, hi0, hz0, hz1, hz2⟩ := info_parts intInfo
  have HB := Lib.hid hb
  have hgl := hc.lt
  clear hb
  go_enter Tryd.func137, Tryd.ntmps137
  go_wp2_with fail
  refine (l01Below_any _ g lo hi v bs _ (by omega) (by omega) HB.out hn (hc.alloc _) (hr.below ((Below.refl _ _).alloc (Nat.le_refl _) _) (by omega)) hg).mono ?_
  rintro e w1 ⟨x, hx0, hx1, rfl, hc1, hg1⟩
  have HS : Hid (DrawRel most g v bs.length w (.slice (some ⟨w.heap.size, 0, none⟩) 0 0) (.int .i64 x) w1) := Lib.hid (by
    obtain ⟨k, rfl⟩ := Int.eq_ofNat_of_zero_le hx0
    refine ⟨k, [], by simp; omega, rfl, (fun d hd => by cases hd), ?_, hc1, ((Chg.refl _ _).alloc _).trans (Chg.of_cur hg1)⟩
    exact own_apart (World.ownsRow_made w #[] 0 (Nat.le_refl _) (Nat.zero_le _) rfl) hg1 (fun a b ha hb => by simp [Value.ownBlock] at ha; injection hb with hb; omega))
  clear hc1 hg1
  go_wp2
  go_loopw [5, 6] (fun u i wr => DrawRel most g v bs.length w u i wr) (fun _ i _ => (intOf i).toNat)
  case atStart => exact HS.out
  case round =>
    clear HS
    obtain ⟨m, out, hom, rfl, hd, hown, hcur, hchg⟩ := hrel
    have hsz := hchg.size
    have HD := Lib.hid hd
    clear hd
    by_cases hm : 0 < m
    · have hrow : Row wr lo hi v (bytesV bs) := hr.stays (fun p hp => World.cell?_of_block (hchg.block _ (by omega) (by simp; omega)))
      go_wp2_with fail
      refine (l01Below_any 1000000000 g lo hi v bs _ (by omega) (by omega) HB.out hn hcur hrow hg).mono ?_
      rintro e w2 ⟨y, hy0, hy1, rfl, hc2, hg2⟩
      have hr2 := hrow.far hg2 hg
      go_wp2_with fail
      refine (l01Below_any 1000000000 g lo hi v bs _ (by omega) (by omega) HB.out hn hc2 hr2 hg).mono ?_
      rintro e w3 ⟨z, hz0', hz1', rfl, hc3, hg3⟩
      have hr3 := hr2.far hg3 hg
      have hs2 := hg2.size
      have hs3 := hg3.size
      go_wp2_with fail
      refine (l01Pick_any [0, 1, 2, 999999999, 500000000, y, z] _ w3.heap.size (w3.heap.size + 1) g lo hi v bs _ (by simp) (by simp) HB.out hn (hc3.alloc _) (hr3.below ((Below.refl _ _).alloc (Nat.le_refl _) _) (by have := hc3.lt; omega)) hg (Row.lit w3 #[.int .i64 0, .int .i64 1, .int .i64 2, .int .i64 999999999, .int .i64 500000000, .int .i64 y, .int .i64 z] _) (.inr hc3.lt)).mono ?_
      rintro e w4 ⟨p, hp, rfl, hc4, hg4⟩
      have hpr := pick_list ⟨hy0, hy1⟩ ⟨hz0', hz1'⟩ hp
      have hown4 := own_far (own_alloc (own_far (own_far hown hg2 hgl) hg3 hgl) _) hg4 hgl
      have hchg4 := ((hchg.trans (Chg.of_cur hg2)).trans (Chg.of_cur hg3)).alloc (.cells #[.int .i64 0, .int .i64 1, .int .i64 2, .int .i64 999999999, .int .i64 500000000, .int .i64 y, .int .i64 z] 3) |>.trans (Chg.of_cur hg4)
      have hs4 := hchg4.size
      have HC4 := Lib.hid hc4
      have HH4 := Lib.hid hchg4
      have HP := Lib.hid (show DigN (out ++ [p]) from fun d hd => by
        rcases List.mem_append.1 hd with hd | hd
        · exact HD.out d hd
        · rw [List.mem_singleton.1 hd]; exact hpr)
      have hol : out.length + 1 ≤ 50 := by omega
      clear hown hcur hchg hrow hc2 hg2 hr2 hc3 hg3 hr3 hp hc4 hg4 hchg4 hpr
      go_wp2_with (at_builtin; refine wpList_append_own _ rfl _ _ 22 rfl w.heap.size 3 i0 (.int .i64 0) 1 8 Tryd.underlying22 hi0 hz0 hz1 hz2 rfl (by decide) _ _ _ rfl (own_alloc hown4 _) ⟨w4.heap.size, 0, none⟩ 1 1 [.int .i64 p] rfl rfl (one_new _ _ _) ?c2 ?c3 ?c4 ?c5 ?_)
      case c2 => first | (intro u hu; simp at hu; subst hu; rfl) | rfl
      case c3 => unfold maxLen; omega
      case c4 => omega
      case c5 => simp; omega
      intro v5 w5 hown5 hg5 _
      have HS : Hid (DrawRel most g v bs.length w v5 (.int .i64 ((m : Int) - 1)) w5) := Lib.hid (by
        refine ⟨m - 1, out ++ [p], by simp; omega, by congr 1; omega, HP.out, by simpa [intsV] using hown5, (HC4.out.alloc _).grown hg5 (fun e => by have := (own_lt hown4 e).1; omega), (HH4.out.alloc _).new_row hg5 (fun j hj => (own_lt hown4 hj).1)⟩)
      clear hown4 hown5 hg5
      go_wp2
      exact ⟨HS.out, by simp [intOf]; omega⟩
    · obtain rfl : m = 0 := by omega
      have HT := Lib.hid (drawn_trim out HD.out (by omega))
      go_wp2_with fail
      refine (specTrim_any _ out w.heap.size _ (by omega) hown).mono ?_
      rintro e w2 ⟨rfl, v2, rfl, ho2⟩
      go_wp2
      go_ret
      exact ⟨v2, trimL out, rfl, HT.out.1, by have := HT.out.2; omega, ho2, hcur, hchg⟩

/-- what MakeNats gives -/
def NatsPost (w : World) (e : Ending) (w' : World) : Prop :=
  ∃ (u v : Value) (a b : List Int), e = .returned (.tuple #[u, v]) ∧ natOkB a = true ∧ natOkB b = true ∧ a.length ≤ 5 ∧ b.length ≤ 5 ∧ w'.ownsRow w.heap.size 3 1 u a.length (intsV a) ∧ w'.ownsRow w.heap.size 3 1 v b.length (intsV b) ∧ Below w.heap.size w w'

end Go.Proofs.YthfkdofnoomhaaaDoor

namespace Go.Proofs.YthfkdofnoomhaaaDoor
open Go.RowKit

theorem Cur.below {w w' : World} {g : Nat} {v : Value} {n : Nat} (h : Cur w g v n) (hb : Below w.heap.size w w') : Cur w' g v n := by
  have hlt := h.lt
  obtain ⟨i, k, h1, h2, h3, h4, h5⟩ := h
  exact ⟨i, k, h1, h2, h3, h4, (hb.block g hlt).trans h5⟩
theorem Cur.put {w : World} {g r : Nat} {v : Value} {n j : Nat} {u : Value} (h : Cur w g v n) (hne : g ≠ r) : Cur (w.setCell ⟨r, j, none⟩ u) g v n := by
  obtain ⟨i, k, h1, h2, h3, h4, h5⟩ := h
  exact ⟨i, k, h1, h2, h3, h4, (Below.heap_setCell _ _ _ _ hne).trans h5⟩
theorem Chg.belowNext {T : List Nat} {w w1 w2 : World} (h : Chg T w w1) (hb : Below w1.heap.size w1 w2) : Chg T w w2 := h.trans (Chg.of_below hb)
theorem l01Once_any (m : Int) (g lo hi : Nat) (v : Value) (bs : List Nat) (w : World) (hm : 0 < m) (hm2 : m ≤ 2147483648) (hb : ∀ b ∈ bs, b < 256) (hn : bs.length ≤ 1048576) (hc : Cur w g v bs.length) (hr : Row w lo hi v (bytesV bs)) (hg : hi ≤ g) :
    Calls Tryd.prog 82 #[.pointer (some ⟨g, 0, none⟩), .int .i64 m] w fun e w' => ∃ b : Bool, e = .returned (.bool b) ∧ Cur w' g v bs.length ∧ w.grownBy w' (some g) := by
  have HB := Lib.hid hb
  clear hb
  go_enter Tryd.func82, Tryd.ntmps82
  go_wp2_with fail
  refine (l01Below_any m g lo hi v bs _ hm hm2 HB.out hn hc hr hg).mono ?_
  rintro e w1 ⟨x, _, _, rfl, hc1, hg1⟩
  go_wp2
  go_ret
  exact ⟨_, rfl, hc1, hg1⟩
/-- what a drawn signed number is -/
def DrawSPost (g : Nat) (v : Value) (n : Nat) (w : World) (e : Ending) (w' : World) : Prop :=
  ∃ (u : Value) (x : SI), e = .returned (.agg #[.bool x.1, u]) ∧ okS x = true ∧ x.2.length ≤ 2 ∧ w'.ownsRow w.heap.size 3 1 u x.2.length (intsV x.2) ∧ Cur w' g v n ∧ Chg [g] w w'
theorem drawS_ret {r g n : Nat} {u c0 c1 v : Value} {x : SI} {w W : World} {B : Nat} (hb : BoxAt r #[c0, c1] 28 W) (o : W.ownsRow B 3 1 u x.2.length (intsV x.2)) (hB : w.heap.size ≤ B) (hr : w.heap.size ≤ r) (hg : g < w.heap.size) (ok : okS x = true) (hl : x.2.length ≤ 2) (hc : Cur W g v n) (hW : Chg [g] w W) :
    DrawSPost g v n w (.returned (.agg #[.bool x.1, u])) ((W.setCell ⟨r, 0, none⟩ (.bool x.1)).setCell ⟨r, 1, none⟩ u) := by
  have hne := Lib.ownBlock_ne o hb (by decide)
  refine ⟨u, x, rfl, ok, hl, own_low (own_stays o fun i hi => ?_) hB, (hc.put (by omega)).put (by omega), (hW.setNew (p := ⟨r, 0, none⟩) hr _).setNew (p := ⟨r, 1, none⟩) hr _⟩
  have : i ≠ r := fun e => hne (by rw [hi, e])
  exact (Below.heap_setCell _ _ _ _ this).trans (Below.heap_setCell _ _ _ _ this)
theorem ofZ_small {z : Int} (h0 : -1000 ≤ z) (h1 : z ≤ 1000) : (ofZ z).2.length ≤ 2 := by
  unfold ofZ
  have h := limbs_length_le z.natAbs 1 (by show (z.natAbs : Int) < 1000000000 * 1; omega)
  split
  · exact Nat.le_trans h (by decide)
  · exact Nat.zero_le _
theorem mk_small {n : Bool} {xs : List Int} (ok : natOkB xs = true) (hl : xs.length ≤ 2) : okS (mkS n (trimL xs)) = true ∧ (mkS n (trimL xs)).2.length ≤ 2 := by
  rw [natOk_trim ok]
  have e : mkS n xs = (n && decide (0 < xs.length), xs) := by unfold mkS; rw [capL_short (by omega)]
  rw [e]
  refine ⟨?_, hl⟩
  unfold okS
  rw [ok]
  cases n with
  | false => rfl
  | true => by_cases h : 0 < xs.length <;> simp [h]
set_option maxHeartbeats 1000000 in
set_option maxRecDepth 100000 in
theorem l04Draw_any (g lo hi : Nat) (v : Value) (bs : List Nat) (w : World) (hb : ∀ b ∈ bs, b < 256) (hn : bs.length ≤ 1048576) (hc : Cur w g v bs.length) (hr : Row w lo hi v (bytesV bs)) (hg : hi ≤ g) :
    Calls Tryd.prog 94 #[.pointer (some ⟨g, 0, none⟩), .int .i64 2] w (DrawSPost g v bs.length w) := by
  have HB := Lib.hid hb
  have hgl := hc.lt
  clear hb
  have hbb : Below w.heap.size w (w.alloc (.cells #[.bool false, .slice none 0 0] 28)) := below_al (Below.refl _ _) _
  have kr := box_new w #[.bool false, .slice none 0 0] 28
  obtain ⟨W0, hW0⟩ : ∃ W0, W0 = w.alloc (.cells #[.bool false, .slice none 0 0] 28) := ⟨_, rfl⟩
  rw [← hW0] at hbb kr
  have HW := Lib.hid hW0
  have hc0 := hc.below hbb
  have hr0 := hr.below hbb (by omega)
  have hk0 : Chg [g] w W0 := Chg.of_below hbb
  have hz0 := hbb.size
  clear hW0 hc hr
  go_enter Tryd.func94, Tryd.ntmps94
  go_wp2_with fail
  rw [← HW.out]
  refine (l01Once_any 3 g lo hi v bs _ (by omega) (by omega) HB.out hn hc0 hr0 hg).mono ?_
  rintro e w1 ⟨b, rfl, hc1, hg1⟩
  have hr1 := hr0.far hg1 hg
  have hk1 := hk0.trans (Chg.of_cur hg1)
  have kr1 := kr.chg (Chg.of_cur hg1) (fun i hi hm => by simp at hi hm; omega)
  clear hc0 hr0 hk0 kr hg1
  cases b with
  | true =>
    go_wp2_with fail
    refine (l01Below_any 2001 g lo hi v bs _ (by omega) (by omega) HB.out hn hc1 hr1 hg).mono ?_
    rintro e w2 ⟨x, hx0, hx1, rfl, hc2, hg2⟩
    have hk2 := hk1.trans (Chg.of_cur hg2)
    have kr2 := kr1.chg (Chg.of_cur hg2) (fun i hi hm => by simp at hi hm; omega)
    clear hc1 hr1 hk1 kr1 hg2
    go_wp2_with fail
    refine (specIntOf_any (x - 1000) _ (by omega) (by omega)).mono ?_
    rintro e w3 ⟨u3, rfl, o3, b3⟩
    have HZ := Lib.hid (show okS (ofZ (x - 1000)) = true ∧ (ofZ (x - 1000)).2.length ≤ 2 from ⟨ofZ_ok _, ofZ_small (by omega) (by omega)⟩)
    generalize ofZ (x - 1000) = z at *
    obtain ⟨A3, c3, rfl⟩ := own_len o3
    have kr3 := kr2.below b3
    have hc3 := hc2.below b3
    have hk3 := hk2.belowNext b3
    have cz0 := kr3.here.cell 0 _ rfl
    have cz1 := kr3.here.cell 1 _ rfl
    have fz0 := Lib.frozen_of_heap kr3.here 0
    have fz1 := Lib.frozen_of_heap kr3.here 1
    have HO := Lib.hid o3
    have HK := Lib.hid kr3
    have HC := Lib.hid hc3
    have HG := Lib.hid hk3
    have hz2 := hk2.size
    clear o3 kr3 hc3 hk3 kr2 hc2 hk2 b3
    go_wp2
    refine bodyPost_ret (v := .agg #[.bool _, .slice A3 _ c3]) (by simp [results, Tryd.results94, go_sem, cz0, cz1]; exact ⟨rfl, rfl⟩) rfl ?_
    exact drawS_ret HK.out.here HO.out hz2 (Nat.le_refl _) hgl HZ.out.1 HZ.out.2 HC.out HG.out
  | false =>
    go_wp2_with fail
    refine (l01Once_any 2 g lo hi v bs _ (by omega) (by omega) HB.out hn hc1 hr1 hg).mono ?_
    rintro e w2 ⟨b2, rfl, hc2, hg2⟩
    have hr2 := hr1.far hg2 hg
    have hk2 := hk1.trans (Chg.of_cur hg2)
    have kr2 := kr1.chg (Chg.of_cur hg2) (fun i hi hm => by simp at hi hm; omega)
    clear hc1 hr1 hk1 kr1 hg2
    go_wp2_with fail
    refine (l02Nat_any 2 g lo hi v bs _ (by omega) HB.out hn hc2 hr2 hg).mono ?_
    rintro e w3 ⟨u3, xs, rfl, okx, hlx, o3, hc3, hg3⟩
    have hk3 := hk2.trans hg3
    have kr3 := kr2.chg hg3 (fun i hi hm => by simp at hi hm; omega)
    have HZ := Lib.hid (mk_small (n := b2) okx hlx)
    have hz2 := hk2.size
    clear hc2 hr2 hk2 kr2 hg3 okx
    go_wp2_with fail
    refine (l04Make_any b2 u3 xs _ _ (by omega) o3).mono ?_
    rintro e w4 ⟨u4, rfl, o4, b4⟩
    generalize mkS b2 (trimL xs) = z at *
    obtain ⟨A4, c4, rfl⟩ := own_len o4
    have kr4 := kr3.below b4
    have hc4 := hc3.below b4
    have hk4 := hk3.belowNext b4
    have hz3 := hk3.size
    have cz0 := kr4.here.cell 0 _ rfl
    have cz1 := kr4.here.cell 1 _ rfl
    have fz0 := Lib.frozen_of_heap kr4.here 0
    have fz1 := Lib.frozen_of_heap kr4.here 1
    have HO := Lib.hid o4
    have HK := Lib.hid kr4
    have HC := Lib.hid hc4
    have HG := Lib.hid hk4
    clear o4 kr4 hc4 hk4 kr3 hc3 hk3 b4 o3
    go_wp2
    refine bodyPost_ret (v := .agg #[.bool _, .slice A4 _ c4]) (by simp [results, Tryd.results94, go_sem, cz0, cz1]; exact ⟨rfl, rfl⟩) rfl ?_
    exact drawS_ret HK.out.here HO.out hz3 (Nat.le_refl _) hgl HZ.out.1 HZ.out.2 HC.out HG.out

/-- what a drawn fraction is -/
def DrawQPost (g : Nat) (v : Value) (n : Nat) (w : World) (e : Ending) (w' : World) : Prop :=
  ∃ (u : Value) (q : QI) (S : List Nat), e = .returned u ∧ Bd q 2 ∧ At S (OwnQ u q) w' ∧ Within S w.heap.size w'.heap.size ∧ Cur w' g v n ∧ Chg [g] w w'
theorem makeQ_bd {n : Bool} {xs : List Int} {d : List Int} (h1 : okS (n, xs) = true) (h2 : xs.length ≤ 2) (hd : natOkB d = true) (h3 : d.length ≤ 2) : (makeQ (n, xs) (false, d)).2 = true → Bd (makeQ (n, xs) (false, d)).1 2 := by
  have hx := okS_parts h1
  have l1 := nval_lt xs (natOk_parts hx.1).1
  have l2 := nval_lt d (natOk_parts hd).1
  have m1 := bp_mono h2
  have m2 := bp_mono h3
  have n1 := nval_ok hx.1
  have n2 := nval_ok hd
  have okd : okS (false, d) = true := by unfold okS; rw [hd]; rfl
  have e : makeQ (n, xs) (false, d) = lowQ (n != false) (nval xs).toNat (nval d).toNat := by unfold makeQ; rw [if_pos ⟨h1, okd⟩]
  rw [e]
  intro hok
  by_cases h0 : (nval d).toNat = 0
  · unfold lowQ at hok
    rw [if_neg (fun h => h.1 h0)] at hok
    cases hok
  · exact (low_bd h0 (by omega) (by omega) (by omega)).2.1
theorem oneQ_bd : Bd oneQ 2 := ⟨oneQ_ok, by have := bp_pos 2; show (0 : Int) < _; omega, by show (1 : Int) < bp 2; decide⟩
/-- what is known of memory while a fraction is drawn: the result's box, the numerator's box and limbs, the cursor -/
structure DrawSt (w : World) (g bx lo hi : Nat) (v : Value) (bs : List Nat) (A : Option Addr) (c : Nat) (x : SI) (wx : World) : Prop where
  gl : g < w.heap.size
  hg : hi ≤ g
  bxl : w.heap.size ≤ bx
  kr : At [w.heap.size] (BoxAt w.heap.size #[.bool false, .slice none 0 0, .slice none 0 0] 30) wx
  kx : At [bx] (BoxAt bx #[.bool x.1, .slice A x.2.length c] 28) wx
  al : ∀ i ∈ (Value.slice A x.2.length c).ownBlock.toList, w.heap.size < i
  ox : At (Value.slice A x.2.length c).ownBlock.toList (OwnI (.slice A x.2.length c) x.2) wx
  cur : Cur wx g v bs.length
  row : Row wx lo hi v (bytesV bs)
  chg : Chg [g] w wx
theorem DrawSt.step {w : World} {g bx lo hi : Nat} {v : Value} {bs : List Nat} {A : Option Addr} {c : Nat} {x : SI} {wx w' : World} (h : DrawSt w g bx lo hi v bs A c x wx) (hc : Chg [g] wx w') (hcur : Cur w' g v bs.length) : DrawSt w g bx lo hi v bs A c x w' :=
  have h1 := h.gl
  have h2 := h.hg
  have h3 := h.bxl
  have h4 := h.chg.size
  ⟨h1, h2, h3, h.kr.chg hc (fun i hi hm => by simp at hi hm; omega), h.kx.chg hc (fun i hi hm => by simp at hi hm; omega), h.al, h.ox.chg hc (fun i hi hm => by have := h.al i hi; simp at hm; omega), hcur,
    h.row.stays (fun p hp => World.cell?_of_block (hc.block _ (by omega) (by simp; omega))), h.chg.trans hc⟩
theorem DrawSt.below {w : World} {g bx lo hi : Nat} {v : Value} {bs : List Nat} {A : Option Addr} {c : Nat} {x : SI} {wx w' : World} (h : DrawSt w g bx lo hi v bs A c x wx) (hb : Below wx.heap.size wx w') : DrawSt w g bx lo hi v bs A c x w' :=
  h.step (Chg.of_below hb) (h.cur.below hb)
theorem DrawSt.set {w : World} {g bx lo hi : Nat} {v : Value} {bs : List Nat} {A : Option Addr} {c : Nat} {x : SI} {wx : World} (h : DrawSt w g bx lo hi v bs A c x wx) (p : Addr) (u : Value) (h1 : p.block ≠ bx) (h2 : w.heap.size < p.block) (h3 : ∀ i ∈ (Value.slice A x.2.length c).ownBlock.toList, i ≠ p.block) : DrawSt w g bx lo hi v bs A c x (wx.setCell p u) :=
  have g1 := h.gl
  have g2 := h.hg
  have hc : Chg [p.block] wx (wx.setCell p u) := (Chg.refl _ _).setCell (by simp) _
  ⟨g1, g2, h.bxl, h.kr.chg hc (fun i hi hm => by simp at hi hm; omega), h.kx.chg hc (fun i hi hm => by simp at hi hm; omega), h.al, h.ox.chg hc (fun i hi hm => by have := h3 i hi; simp at hm; omega),
    by obtain ⟨i, k, e1, e2, e3, e4, e5⟩ := h.cur; exact ⟨i, k, e1, e2, e3, e4, (Below.heap_setCell _ _ _ _ (by omega)).trans e5⟩,
    h.row.stays (fun q hq => World.cell?_of_block (Below.heap_setCell _ _ _ _ (by omega))), h.chg.setNew (by omega) _⟩
theorem set_one {g : Nat} {a b c : Value} {T : TypeId} {W : World} (hb : BoxAt g #[a, b] T W) : BoxAt g #[a, c] T (W.setCell ⟨g, 1, none⟩ c) := by
  have hb' : W.heap[g]? = some (.cells #[a, b] T (0, 0)) := hb
  simp [BoxAt, World.setCell, Array.getElem?_modify, hb']
theorem DrawSt.size {w : World} {g bx lo hi : Nat} {v : Value} {bs : List Nat} {A : Option Addr} {c : Nat} {x : SI} {wx : World} (h : DrawSt w g bx lo hi v bs A c x wx) : w.heap.size < wx.heap.size := by
  have := h.kr.lt w.heap.size (by simp)
  exact this
theorem den_one {y : Int} (h0 : 0 ≤ y) (h1 : y < 12) : natOkB (limbs (1 + y).toNat) = true ∧ (limbs (1 + y).toNat).length ≤ 2 := by
  have h : (limbs (1 + y).toNat).length ≤ 1 := limbs_length_le _ 1 (by show ((1 + y).toNat : Int) < 1000000000 * 1; omega)
  exact ⟨limbs_okL _ (by omega), by omega⟩
theorem den_two {xs : List Int} {z : Int} (h : natOkB xs = true) (hl : xs.length ≤ 1) (h0 : 0 ≤ z) (h1 : z < 999) : natOkB (xs ++ [1 + z]) = true ∧ (xs ++ [1 + z]).length ≤ 2 := by
  have hp := natOk_parts h
  refine ⟨?_, by simp; omega⟩
  unfold natOkB
  rw [Bool.and_eq_true, Bool.and_eq_true, decide_eq_true_eq, decide_eq_true_eq, all_dig]
  refine ⟨fun d hd => ?_, by simp; omega, ?_⟩
  · rcases List.mem_append.1 hd with hd | hd
    · exact hp.1 d hd
    · simp at hd; omega
  · rw [List.getLastD_eq_getLast?, List.getLast?_append]
    simp
    omega
theorem small_szS {x : SI} (h : x.2.length ≤ 2) : szS x ≤ 1048576 := by unfold szS szI; omega
theorem drawQ_at {w wx : World} {g n : Nat} {v c0 c1 c2 : Value} {q : QI} {S : List Nat} (hgl : g < w.heap.size) (hq : Bd q 2) (o : At S (OwnQ (.agg #[c0, c1, c2]) q) wx) (l : ∀ i ∈ S, w.heap.size < i ∧ i < wx.heap.size) (hc : Cur wx g v n) (hk : Chg [g] w wx) :
    DrawQPost g v n w (.returned (.agg #[c0, c1, c2])) (((wx.setCell ⟨w.heap.size, 0, none⟩ c0).setCell ⟨w.heap.size, 1, none⟩ c1).setCell ⟨w.heap.size, 2, none⟩ c2) := by
  have hc3 : Chg [w.heap.size] wx (((wx.setCell ⟨w.heap.size, 0, none⟩ c0).setCell ⟨w.heap.size, 1, none⟩ c1).setCell ⟨w.heap.size, 2, none⟩ c2) := (((Chg.refl _ _).setCell (by simp) _).setCell (by simp) _).setCell (by simp) _
  have hz := hc3.size
  have h1 := hk.size
  exact ⟨_, q, S, rfl, hq, o.chg hc3 (fun i hi hm => by have := (l i hi).1; simp at hm; omega), fun i hi => by have := l i hi; exact ⟨by omega, by omega⟩,
    ((hc.put (by omega)).put (by omega)).put (by omega), ((hk.setNew (p := ⟨w.heap.size, 0, none⟩) (Nat.le_refl _) _).setNew (p := ⟨w.heap.size, 1, none⟩) (Nat.le_refl _) _).setNew (p := ⟨w.heap.size, 2, none⟩) (Nat.le_refl _) _⟩
set_option maxHeartbeats 2000000 in
set_option maxRecDepth 100000 in
theorem l05Draw_any (g lo hi : Nat) (v : Value) (bs : List Nat) (w : World) (hb : ∀ b ∈ bs, b < 256) (hn : bs.length ≤ 1048576) (hc : Cur w g v bs.length) (hr : Row w lo hi v (bytesV bs)) (hg : hi ≤ g) :
    Calls Tryd.prog 86 #[.pointer (some ⟨g, 0, none⟩), .int .i64 2] w (DrawQPost g v bs.length w) := by
  obtain ⟨i0, hi0, hz0, hz1, hz2⟩ := info_parts intInfo
  have HB := Lib.hid hb
  have hgl := hc.lt
  clear hb
  have hbb : Below w.heap.size w (w.alloc (.cells #[.bool false, .slice none 0 0, .slice none 0 0] 30)) := below_al (Below.refl _ _) _
  have kr := box_new w #[.bool false, .slice none 0 0, .slice none 0 0] 30
  obtain ⟨W0, hW0⟩ : ∃ W0, W0 = w.alloc (.cells #[.bool false, .slice none 0 0, .slice none 0 0] 30) := ⟨_, rfl⟩
  rw [← hW0] at hbb kr
  have HW := Lib.hid hW0
  have hc0 := hc.below hbb
  have hr0 := hr.below hbb (by omega)
  have hk0 : Chg [g] w W0 := Chg.of_below hbb
  have hz0' := hbb.size
  have hzr := kr.lt w.heap.size (by simp)
  clear hW0 hc hr
  go_enter Tryd.func86, Tryd.ntmps86
  go_wp2_with fail
  rw [← HW.out]
  refine (l04Draw_any g lo hi v bs _ HB.out hn hc0 hr0 hg).mono ?_
  rintro e w1 ⟨u1, x, rfl, okx, hlx, ox, hc1, hg1⟩
  obtain ⟨A1, c1, rfl⟩ := own_len ox
  have HX := Lib.hid (show okS x = true ∧ x.2.length ≤ 2 from ⟨okx, hlx⟩)
  have hr1 : Row w1 lo hi v (bytesV bs) := hr0.stays (fun p hp => World.cell?_of_block (hg1.block _ (by omega) (by simp; omega)))
  have hk1 := hk0.trans hg1
  have kr1 := kr.chg hg1 (fun i hi hm => by simp at hi hm; omega)
  have hx := below_al (Below.refl w1.heap.size w1) (.cells #[.bool x.1, .slice A1 x.2.length c1] 28)
  have kx := box_new w1 #[.bool x.1, .slice A1 x.2.length c1] 28
  obtain ⟨W1, hW1⟩ : ∃ W1, W1 = w1.alloc (.cells #[.bool x.1, .slice A1 x.2.length c1] 28) := ⟨_, rfl⟩
  rw [← hW1] at hx kx
  have HW1 := Lib.hid hW1
  have st0 : DrawSt w g w1.heap.size lo hi v bs A1 c1 x W1 := ⟨hgl, hg, hk1.size, kr1.below hx, kx, fun i hi => by have := own_within ox i hi; omega, (own_at' ox).below hx, hc1.below hx, hr1.below hx (by have := hk1.size; omega), hk1.belowNext hx⟩
  have xl : ∀ i ∈ (Value.slice A1 x.2.length c1).ownBlock.toList, i < w1.heap.size := fun i hi => (own_within ox i hi).2
  have hx1 : w1.heap.size < W1.heap.size := kx.lt w1.heap.size (by simp)
  clear hW1 hc0 hr0 kr hk0 hbb hc1 hr1 hg1 kr1 ox hx hk1 kx okx hlx
  go_wp2_with fail
  rw [← HW1.out]
  refine (l01Below_any 12 g lo hi v bs _ (by omega) (by omega) HB.out hn st0.cur st0.row hg).mono ?_
  rintro e w2 ⟨y, hy0, hy1, rfl, hc2, hg2⟩
  have st2 := st0.step (Chg.of_cur hg2) hc2
  have hx2 := hg2.size
  clear st0 hc2 hg2
  go_wp2_with fail
  refine (specNatOf_any (1 + y) _ (by omega)).mono ?_
  rintro e w3 ⟨ud, rfl, od, b3⟩
  have hD := den_one hy0 hy1
  generalize limbs (1 + y).toNat = D at *
  obtain ⟨Ad, cd, rfl⟩ := own_len od
  have st3 := st2.below b3
  have hz3 := st2.size
  have HD0 := Lib.hid hD
  have hal := below_al (Below.refl w3.heap.size w3) (.cells #[.bool false, .slice Ad D.length cd] 28)
  have kd := box_new w3 #[.bool false, .slice Ad D.length cd] 28
  obtain ⟨W3, hW3⟩ : ∃ W3, W3 = w3.alloc (.cells #[.bool false, .slice Ad D.length cd] 28) := ⟨_, rfl⟩
  rw [← hW3] at hal kd
  have HW3 := Lib.hid hW3
  have st4 := st3.below hal
  have od4 := (own_at' od).below hal
  have dl : ∀ i ∈ (Value.slice Ad D.length cd).ownBlock.toList, w2.heap.size ≤ i := fun i hi => (own_within od i hi).1
  have hz4 := b3.size
  have hz5 : w3.heap.size < W3.heap.size := kd.lt w3.heap.size (by simp)
  clear hW3 st2 st3 od b3 hal hD
  go_wp2_with fail
  rw [← HW3.out]
  refine (l01Once_any 3 g lo hi v bs _ (by omega) (by omega) HB.out hn st4.cur st4.row hg).mono ?_
  rintro e w4 ⟨b, rfl, hc4, hg4⟩
  have hk4 := Chg.of_cur hg4
  have st5 := st4.step hk4 hc4
  have kd5 := kd.chg hk4 (fun i hi hm => by simp at hi hm; omega)
  have od5 := od4.chg hk4 (fun i hi hm => by have := dl i hi; simp at hm; omega)
  have hz6 := hk4.size
  clear st4 kd od4 hk4 hc4 hg4
  cases b with
  | false =>
    have HDD := HD0
    have odd := od5
    have kdd := kd5
    have kd5_0 := kd5.here.cell 0 _ rfl
    have kd5_1 := kd5.here.cell 1 _ rfl
    have kx5_0 := st5.kx.here.cell 0 _ rfl
    have kx5_1 := st5.kx.here.cell 1 _ rfl
    clear od5 kd5
    have hS := st5.size
    go_wp2_with fail
    refine (specRatMake_any _ _ x (false, D) _ (small_szS HX.out.2) (small_szS HDD.out.2) (OwnS.mk (x := x) st5.ox.here) (OwnS.mk (x := (false, D)) odd.here)).mono ?_
    rintro e w8 ⟨u8, S8, rfl, o8, l8, b8⟩
    have HQ := Lib.hid (makeQ_bd (n := x.1) (xs := x.2) HX.out.1 HX.out.2 HDD.out.1 HDD.out.2)
    rw [show ((x.1, x.2) : SI) = x from rfl] at HQ
    obtain ⟨⟨Q, bo⟩, hq⟩ : ∃ Q, makeQ x (false, D) = Q := ⟨_, rfl⟩
    rw [hq] at o8 HQ ⊢
    obtain ⟨A8, c8, B8, d8, rfl⟩ := ownQ_form o8.here
    have st8 := st5.below b8
    have hz8 := b8.size
    clear hq kdd odd st5
    have hal8 := below_al (Below.refl w8.heap.size w8) (.cells #[.bool Q.1.1, .slice A8 Q.1.2.length c8, .slice B8 Q.2.length d8] 30)
    have kq := box_new w8 #[.bool Q.1.1, .slice A8 Q.1.2.length c8, .slice B8 Q.2.length d8] 30
    cases bo with
    | true =>
      have st9 := st8.below hal8
      have o9 := o8.below hal8
      have kq0 := kq.here.cell 0 _ rfl
      have kq1 := kq.here.cell 1 _ rfl
      have kq2 := kq.here.cell 2 _ rfl
      have cz0 := st9.kr.here.cell 0 _ rfl
      have fz0 := Lib.frozen_of_heap st9.kr.here 0
      have cz1 := st9.kr.here.cell 1 _ rfl
      have fz1 := Lib.frozen_of_heap st9.kr.here 1
      have cz2 := st9.kr.here.cell 2 _ rfl
      have fz2 := Lib.frozen_of_heap st9.kr.here 2
      have HW9 := Lib.hid (drawQ_at (q := Q) (c0 := .bool Q.1.1) (c1 := .slice A8 Q.1.2.length c8) (c2 := .slice B8 Q.2.length d8) st9.gl (HQ.out rfl) o9 (fun i hi => ⟨by have := (l8 i hi).1; omega, o9.lt i hi⟩) st9.cur st9.chg)
      clear st8 st9 o8 o9 kq hal8
      go_wp2
      refine bodyPost_ret (v := .agg #[.bool _, .slice A8 _ c8, .slice B8 _ d8]) (by simp [results, Tryd.results86, go_sem, cz0, cz1, cz2]; exact ⟨rfl, rfl, rfl⟩) rfl ?_
      exact HW9.out
    | false =>
      have st9 := st8.below hal8
      clear o8 kq
      go_wp2_with fail
      refine (specRatZero_any _).mono ?_
      rintro e w9 ⟨u9, S9, rfl, o9, l9, b9⟩
      obtain ⟨A9, c9, B9, d9, rfl⟩ := ownQ_form o9.here
      have st10 := st9.below b9
      have hz9 := hal8.size
      have cz0 := st10.kr.here.cell 0 _ rfl
      have fz0 := Lib.frozen_of_heap st10.kr.here 0
      have cz1 := st10.kr.here.cell 1 _ rfl
      have fz1 := Lib.frozen_of_heap st10.kr.here 1
      have cz2 := st10.kr.here.cell 2 _ rfl
      have fz2 := Lib.frozen_of_heap st10.kr.here 2
      have HW9 := Lib.hid (drawQ_at (q := oneQ) (c0 := .bool oneQ.1.1) (c1 := .slice A9 oneQ.1.2.length c9) (c2 := .slice B9 oneQ.2.length d9) st10.gl oneQ_bd o9 (fun i hi => ⟨by have := (l9 i hi).1; omega, o9.lt i hi⟩) st10.cur st10.chg)
      clear st8 st9 st10 o9 hal8
      go_wp2
      refine bodyPost_ret (v := .agg #[.bool _, .slice A9 _ c9, .slice B9 _ d9]) (by simp [results, Tryd.results86, go_sem, cz0, cz1, cz2]; exact ⟨rfl, rfl, rfl⟩) rfl ?_
      exact HW9.out
  | true =>
    go_wp2_with fail
    refine (l02Nat_any 1 g lo hi v bs _ (by omega) HB.out hn st5.cur st5.row hg).mono ?_
    rintro e w5 ⟨u5, xs, rfl, oky, hly, o5, hc5, hk5⟩
    obtain ⟨A5, c5, rfl⟩ := own_len o5
    have HY := Lib.hid (show natOkB xs = true ∧ xs.length ≤ 1 from ⟨oky, hly⟩)
    have st6 := st5.step hk5 hc5
    have kd6 := kd5.chg hk5 (fun i hi hm => by simp at hi hm; omega)
    have o6 := own_at' o5
    have ol : ∀ i ∈ (Value.slice A5 xs.length c5).ownBlock.toList, w4.heap.size ≤ i := fun i hi => (own_within o5 i hi).1
    have hz7 := hk5.size
    clear od5 oky hly
    go_wp2_with fail
    refine (l01Below_any 999 g lo hi v bs _ (by omega) (by omega) HB.out hn st6.cur st6.row hg).mono ?_
    rintro e w6 ⟨zz, hq0, hq1, rfl, hc6, hg6⟩
    have hk6 := Chg.of_cur hg6
    have st7 := st6.step hk6 hc6
    have kd7 := kd6.chg hk6 (fun i hi hm => by simp at hi hm; omega)
    have o7 : w6.ownsRow w4.heap.size 3 1 (.slice A5 xs.length c5) xs.length (intsV xs) := own_stays o5 (fun i hi => hk6.block i (own_lt o5 hi).2 (by have := (own_lt o5 hi).1; simp; omega))
    have HDD := Lib.hid (den_two HY.out.1 HY.out.2 hq0 hq1)
    obtain ⟨p, hp⟩ : ∃ p, 1 + zz = p := ⟨_, rfl⟩
    have HP := Lib.hid hp
    rw [hp] at HDD
    have hz8' := hk6.size
    have hd0 := kd7.here.cell 1 _ rfl
    have hf0 := Lib.frozen_of_heap kd7.here 1
    clear st6 kd6 o6
    go_wp2_with (at_builtin; (try rw [HP.out]); refine wpList_append_own _ rfl _ _ 22 rfl w4.heap.size 3 i0 (.int .i64 0) 1 8 Tryd.underlying22 hi0 hz0 hz1 hz2 rfl (by decide) _ _ _ rfl (own_alloc o7 _) ⟨w6.heap.size, 0, none⟩ 1 1 [.int .i64 p] rfl rfl (one_new _ _ _) ?c2 ?c3 ?c4 ?c5 ?_)
    case c2 => first | (intro u hu; simp at hu; subst hu; rfl) | rfl
    case c3 => unfold maxLen; have := HY.out.2; omega
    case c4 => have := HY.out.2; omega
    case c5 => simp; omega
    intro v7 w7 hown7 hg7 _
    have hk7 : Chg [g] w4 w7 := ((hk5.trans hk6).alloc _).new_row hg7 (fun j hj => (own_lt o5 hj).1)
    have hc7 : Cur w7 g v bs.length := (hc6.alloc _).grown hg7 (fun e => by have := (own_lt o5 e).1; omega)
    have st8 := st5.step hk7 hc7
    have kd8 := kd5.chg hk7 (fun i hi hm => by simp at hi hm; omega)
    rw [show intsV xs ++ [Value.int .i64 p] = intsV (xs ++ [p]) by simp [intsV]] at hown7
    obtain ⟨D2, hD2⟩ : ∃ D2, xs ++ [p] = D2 := ⟨_, rfl⟩
    have hlx : D2.length = xs.length + 1 := by rw [← hD2]; simp
    rw [hD2] at HDD hown7
    rw [← hlx] at hown7
    obtain ⟨A7, c7, rfl⟩ := own_len hown7
    have hz9 := hk7.size
    have hbx : w1.heap.size < w3.heap.size := by omega
    have odd : At (Value.slice A7 D2.length c7).ownBlock.toList (OwnI (.slice A7 D2.length c7) D2) (w7.setCell ⟨w3.heap.size, 1, none⟩ (.slice A7 D2.length c7)) := by
      have h := own_at' hown7
      exact h.chg ((Chg.refl [w3.heap.size] w7).setCell (by simp) _) (fun i hi hm => by have h2 := (own_within hown7 i hi).1; simp at hm; omega)
    have st8_ := st8.set ⟨w3.heap.size, 1, none⟩ (.slice A7 D2.length c7) (by simp; omega) (by simp; omega) (fun i hi => by have := (xl i hi); simp; omega)
    have kdd := set_one (c := .slice A7 D2.length c7) kd8.here
    have kd_0 := kd8.here.cell 0 _ rfl
    have kd_1 := kd8.here.cell 1 _ rfl
    have fd_1 := Lib.frozen_of_heap kd8.here 1
    have ke_0 := kdd.cell 0 _ rfl
    have ke_1 := kdd.cell 1 _ rfl
    have kx_0 := st8_.kx.here.cell 0 _ rfl
    have kx_1 := st8_.kx.here.cell 1 _ rfl
    have hzs : w7.heap.size = (w7.setCell ⟨w3.heap.size, 1, none⟩ (.slice A7 D2.length c7)).heap.size := by simp [World.setCell]
    clear hlx hD2 hown7 hg7 hk7 hc7 st8 kd8 o7 o5 st5 kd5 hc5 hk5 hc6 hg6 hk6 kd7 st7
    have hS := st8_.size
    go_wp2_with fail
    refine (specRatMake_any _ _ x (false, D2) _ (small_szS HX.out.2) (small_szS HDD.out.2) (OwnS.mk (x := x) st8_.ox.here) (OwnS.mk (x := (false, D2)) odd.here)).mono ?_
    rintro e w8 ⟨u8, S8, rfl, o8, l8, b8⟩
    have HQ := Lib.hid (makeQ_bd (n := x.1) (xs := x.2) HX.out.1 HX.out.2 HDD.out.1 HDD.out.2)
    rw [show ((x.1, x.2) : SI) = x from rfl] at HQ
    obtain ⟨⟨Q, bo⟩, hq⟩ : ∃ Q, makeQ x (false, D2) = Q := ⟨_, rfl⟩
    rw [hq] at o8 HQ ⊢
    obtain ⟨A8, c8, B8, d8, rfl⟩ := ownQ_form o8.here
    have st8 := st8_.below b8
    have hz8 := b8.size
    clear hq kdd odd st8_
    have hal8 := below_al (Below.refl w8.heap.size w8) (.cells #[.bool Q.1.1, .slice A8 Q.1.2.length c8, .slice B8 Q.2.length d8] 30)
    have kq := box_new w8 #[.bool Q.1.1, .slice A8 Q.1.2.length c8, .slice B8 Q.2.length d8] 30
    cases bo with
    | true =>
      have st9 := st8.below hal8
      have o9 := o8.below hal8
      have kq0 := kq.here.cell 0 _ rfl
      have kq1 := kq.here.cell 1 _ rfl
      have kq2 := kq.here.cell 2 _ rfl
      have cz0 := st9.kr.here.cell 0 _ rfl
      have fz0 := Lib.frozen_of_heap st9.kr.here 0
      have cz1 := st9.kr.here.cell 1 _ rfl
      have fz1 := Lib.frozen_of_heap st9.kr.here 1
      have cz2 := st9.kr.here.cell 2 _ rfl
      have fz2 := Lib.frozen_of_heap st9.kr.here 2
      have HW9 := Lib.hid (drawQ_at (q := Q) (c0 := .bool Q.1.1) (c1 := .slice A8 Q.1.2.length c8) (c2 := .slice B8 Q.2.length d8) st9.gl (HQ.out rfl) o9 (fun i hi => ⟨by have := (l8 i hi).1; omega, o9.lt i hi⟩) st9.cur st9.chg)
      clear st8 st9 o8 o9 kq hal8
      go_wp2
      refine bodyPost_ret (v := .agg #[.bool _, .slice A8 _ c8, .slice B8 _ d8]) (by simp [results, Tryd.results86, go_sem, cz0, cz1, cz2]; exact ⟨rfl, rfl, rfl⟩) rfl ?_
      exact HW9.out
    | false =>
      have st9 := st8.below hal8
      clear o8 kq
      go_wp2_with fail
      refine (specRatZero_any _).mono ?_
      rintro e w9 ⟨u9, S9, rfl, o9, l9, b9⟩
      obtain ⟨A9, c9, B9, d9, rfl⟩ := ownQ_form o9.here
      have st10 := st9.below b9
      have hz9 := hal8.size
      have cz0 := st10.kr.here.cell 0 _ rfl
      have fz0 := Lib.frozen_of_heap st10.kr.here 0
      have cz1 := st10.kr.here.cell 1 _ rfl
      have fz1 := Lib.frozen_of_heap st10.kr.here 1
      have cz2 := st10.kr.here.cell 2 _ rfl
      have fz2 := Lib.frozen_of_heap st10.kr.here 2
      have HW9 := Lib.hid (drawQ_at (q := oneQ) (c0 := .bool oneQ.1.1) (c1 := .slice A9 oneQ.1.2.length c9) (c2 := .slice B9 oneQ.2.length d9) st10.gl oneQ_bd o9 (fun i hi => ⟨by have := (l9 i hi).1; omega, o9.lt i hi⟩) st10.cur st10.chg)
      clear st8 st9 st10 o9 hal8
      go_wp2
      refine bodyPost_ret (v := .agg #[.bool _, .slice A9 _ c9, .slice B9 _ d9]) (by simp [results, Tryd.results86, go_sem, cz0, cz1, cz2]; exact ⟨rfl, rfl, rfl⟩) rfl ?_
      exact HW9.out
/-- what MakeRats gives -/
def RatsPost (w : World) (e : Ending) (w' : World) : Prop :=
  ∃ (u0 u1 u2 : Value) (r s t : QI) (S0 S1 S2 : List Nat), e = .returned (.tuple #[u0, u1, u2]) ∧ Bd r 2 ∧ Bd s 2 ∧ Bd t 2 ∧ At S0 (OwnQ u0 r) w' ∧ At S1 (OwnQ u1 s) w' ∧ At S2 (OwnQ u2 t) w' ∧ Below w.heap.size w w'
theorem set3_same {b : Nat} {x0 x1 x2 c0 c1 c2 : Value} {T : TypeId} {W : World} (hb : BoxAt b #[x0, x1, x2] T W) : BoxAt b #[c0, c1, c2] T (((W.setCell ⟨b, 0, none⟩ c0).setCell ⟨b, 1, none⟩ c1).setCell ⟨b, 2, none⟩ c2) := by
  have hb' : W.heap[b]? = some (.cells #[x0, x1, x2] T (0, 0)) := hb
  simp [BoxAt, World.setCell, Array.getElem?_modify, hb']
theorem set3_chg (b : Nat) (c0 c1 c2 : Value) (W : World) : Chg [b] W (((W.setCell ⟨b, 0, none⟩ c0).setCell ⟨b, 1, none⟩ c1).setCell ⟨b, 2, none⟩ c2) := (((Chg.refl _ _).setCell (by simp) _).setCell (by simp) _).setCell (by simp) _
/-- the three results lie in their boxes -/
theorem rats_laid {s : Nat} {a0 a1 a2 b0 b1 b2 c0 c1 c2 : Value} {r1 r2 r3 : QI} {S1 S2 S3 : List Nat} {w W : World} (hw : s = w.heap.size)
    (k0 : At [s] (BoxAt s #[.bool false, .slice none 0 0, .slice none 0 0] 30) W) (k1 : At [s + 1] (BoxAt (s + 1) #[.bool false, .slice none 0 0, .slice none 0 0] 30) W) (k2 : At [s + 1 + 1] (BoxAt (s + 1 + 1) #[.bool false, .slice none 0 0, .slice none 0 0] 30) W)
    (o1 : At S1 (OwnQ (.agg #[a0, a1, a2]) r1) W) (o2 : At S2 (OwnQ (.agg #[b0, b1, b2]) r2) W) (o3 : At S3 (OwnQ (.agg #[c0, c1, c2]) r3) W)
    (l1 : ∀ i ∈ S1, s + 1 + 1 < i) (l2 : ∀ i ∈ S2, s + 1 + 1 < i) (l3 : ∀ i ∈ S3, s + 1 + 1 < i) (hW : Below w.heap.size w W) :
    ∃ F, F = (((((((((W.setCell ⟨s, 0, none⟩ a0).setCell ⟨s, 1, none⟩ a1).setCell ⟨s, 2, none⟩ a2).setCell ⟨s + 1, 0, none⟩ b0).setCell ⟨s + 1, 1, none⟩ b1).setCell ⟨s + 1, 2, none⟩ b2).setCell ⟨s + 1 + 1, 0, none⟩ c0).setCell ⟨s + 1 + 1, 1, none⟩ c1).setCell ⟨s + 1 + 1, 2, none⟩ c2) ∧
      BoxAt s #[a0, a1, a2] 30 F ∧ BoxAt (s + 1) #[b0, b1, b2] 30 F ∧ BoxAt (s + 1 + 1) #[c0, c1, c2] 30 F ∧ At S1 (OwnQ (.agg #[a0, a1, a2]) r1) F ∧ At S2 (OwnQ (.agg #[b0, b1, b2]) r2) F ∧ At S3 (OwnQ (.agg #[c0, c1, c2]) r3) F ∧ Below w.heap.size w F := by
  subst hw
  have h1 := set3_chg w.heap.size a0 a1 a2 W
  have e1 := (box_at (set3_same (c0 := a0) (c1 := a1) (c2 := a2) k0.here))
  have k1a := k1.chg h1 (fun i hi hm => by simp at hi hm; omega)
  have k2a := k2.chg h1 (fun i hi hm => by simp at hi hm; omega)
  have o1a := o1.chg h1 (fun i hi hm => by have := l1 i hi; simp at hm; omega)
  have o2a := o2.chg h1 (fun i hi hm => by have := l2 i hi; simp at hm; omega)
  have o3a := o3.chg h1 (fun i hi hm => by have := l3 i hi; simp at hm; omega)
  have ba := below_chg hW h1 hW.size (fun i hi => by simp at hi; omega)
  generalize (((W.setCell ⟨w.heap.size, 0, none⟩ a0).setCell ⟨w.heap.size, 1, none⟩ a1).setCell ⟨w.heap.size, 2, none⟩ a2) = X at *
  have h2 := set3_chg (w.heap.size + 1) b0 b1 b2 X
  have e2 := (box_at (set3_same (c0 := b0) (c1 := b1) (c2 := b2) k1a.here))
  have e1b := e1.chg h2 (fun i hi hm => by simp at hi hm; omega)
  have k2b := k2a.chg h2 (fun i hi hm => by simp at hi hm; omega)
  have o1b := o1a.chg h2 (fun i hi hm => by have := l1 i hi; simp at hm; omega)
  have o2b := o2a.chg h2 (fun i hi hm => by have := l2 i hi; simp at hm; omega)
  have o3b := o3a.chg h2 (fun i hi hm => by have := l3 i hi; simp at hm; omega)
  have bb := below_chg ba h2 ba.size (fun i hi => by simp at hi; omega)
  generalize (((X.setCell ⟨w.heap.size + 1, 0, none⟩ b0).setCell ⟨w.heap.size + 1, 1, none⟩ b1).setCell ⟨w.heap.size + 1, 2, none⟩ b2) = Y at *
  have h3 := set3_chg (w.heap.size + 1 + 1) c0 c1 c2 Y
  have e3 := set3_same (c0 := c0) (c1 := c1) (c2 := c2) k2b.here
  exact ⟨_, rfl, (e1b.chg h3 (fun i hi hm => by simp at hi hm; omega)).here, (e2.chg h3 (fun i hi hm => by simp at hi hm; omega)).here, e3,
    o1b.chg h3 (fun i hi hm => by have := l1 i hi; simp at hm; omega), o2b.chg h3 (fun i hi hm => by have := l2 i hi; simp at hm; omega), o3b.chg h3 (fun i hi hm => by have := l3 i hi; simp at hm; omega), below_chg bb h3 bb.size (fun i hi => by simp at hi; omega)⟩
end Go.Proofs.YthfkdofnoomhaaaDoor

namespace Go.Proofs.YthfkdofnoomhaaaDoor
open Go.RowKit

/-- what rounding makes of the size: the whole part, or one more where something is left over -/
theorem roundN_cases (neg : Bool) (A D : Nat) (m : Int) : (roundN neg A D m = A / D ∧ (A % D = 0 ∨ awayB neg (A / D) (A % D) D m = false)) ∨ (roundN neg A D m = A / D + 1 ∧ A % D ≠ 0 ∧ awayB neg (A / D) (A % D) D m = true) := by
  unfold roundN
  by_cases h : A % D ≠ 0 ∧ awayB neg (A / D) (A % D) D m = true
  · rw [if_pos h]; exact .inr ⟨rfl, h.1, h.2⟩
  · rw [if_neg h]
    refine .inl ⟨by omega, ?_⟩
    by_cases h0 : A % D = 0
    · exact .inl h0
    · refine .inr ?_
      rcases Bool.eq_false_or_eq_true (awayB neg (A / D) (A % D) D m) with e | e
      · exact absurd ⟨h0, e⟩ h
      · exact e
theorem near_away {neg : Bool} {Q R D : Nat} {m : Int} (h4 : 4 ≤ m) (h6 : m ≤ 6) : (awayB neg Q R D m = true → D ≤ 2 * R) ∧ (awayB neg Q R D m = false → 2 * R ≤ D) := by
  rcases (show m = 4 ∨ m = 5 ∨ m = 6 by omega) with rfl | rfl | rfl
  · show (decide (D < 2 * R) = true → _) ∧ (decide (D < 2 * R) = false → _)
    rw [decide_eq_true_eq, decide_eq_false_iff_not]; omega
  · show (decide (D ≤ 2 * R) = true → _) ∧ (decide (D ≤ 2 * R) = false → _)
    rw [decide_eq_true_eq, decide_eq_false_iff_not]; omega
  · show ((decide (D < 2 * R) || (decide (2 * R = D) && decide (Q % 2 = 1))) = true → _) ∧ ((decide (D < 2 * R) || (decide (2 * R = D) && decide (Q % 2 = 1))) = false → _)
    rw [Bool.or_eq_true, Bool.or_eq_false_iff, Bool.and_eq_true, decide_eq_true_eq, decide_eq_true_eq, decide_eq_false_iff_not]
    omega
/-- the rounded size times the denominator is off by less than one, by at most a half in the nearest modes, and not at all where nothing is left over -/
theorem round_off (neg : Bool) (A D : Nat) (m : Int) (hD : 0 < D) : ∃ e : Int, (roundN neg A D m : Int) * D = A + e ∧ -(D : Int) < e ∧ e < D ∧ (4 ≤ m → m ≤ 6 → 2 * e ≤ D ∧ -(D : Int) ≤ 2 * e) ∧ (e = 0 ↔ A % D = 0) := by
  have h1 := Nat.div_add_mod A D
  have h2 := Nat.mod_lt A hD
  rcases roundN_cases neg A D m with ⟨hk, hc⟩ | ⟨hk, h0, hc⟩
  · refine ⟨-((A % D : Nat) : Int), ?_, by omega, by omega, fun h4 h6 => ?_, by omega⟩
    · rw [hk, Int.mul_comm, ← Int.natCast_mul]; omega
    · rcases hc with hc | hc
      · omega
      · have := (near_away h4 h6).2 hc; omega
  · refine ⟨(D : Int) - ((A % D : Nat) : Int), ?_, by omega, by omega, fun h4 h6 => ?_, by omega⟩
    · rw [hk, Int.natCast_add, Int.add_mul, Int.mul_comm, ← Int.natCast_mul]; omega
    · have := (near_away h4 h6).1 hc; omega
theorem roundS_val {r : QI} (h : Parts r) (m : Int) : valS (roundS r m) = if r.1.1 = true then -(roundN r.1.1 (topN r) (denQ r) m : Int) else roundN r.1.1 (topN r) (denQ r) m := by
  unfold roundS
  rw [mkS_limbs, ofZ_val]
  have := round_len h m
  rw [show (if r.1.1 = true then -(roundN r.1.1 (topN r) (denQ r) m : Int) else roundN r.1.1 (topN r) (denQ r) m).natAbs = roundN r.1.1 (topN r) (denQ r) m by split <;> omega]
  omega
/-- the value of a rounded fraction, against the fraction -/
theorem round_val {r : QI} (h : okQ r = true) (m : Int) : ∃ e : Int, valS (roundS r m) * denQ r = numQ r + e ∧ -(denQ r : Int) < e ∧ e < denQ r ∧ (4 ≤ m → m ≤ 6 → 2 * e ≤ denQ r ∧ -(denQ r : Int) ≤ 2 * e) ∧ (e = 0 ↔ topN r % denQ r = 0) := by
  have hp := parts_of h
  obtain ⟨e, h1, h2, h3, h4, h5⟩ := round_off r.1.1 (topN r) (denQ r) m hp.pos
  rw [roundS_val hp, hp.top]
  generalize roundN r.1.1 (topN r) (denQ r) m = k at *
  cases r.1.1 with
  | true => exact ⟨-e, by rw [if_pos rfl, if_pos rfl, Int.neg_mul, h1]; omega, by omega, by omega, fun a b => by have := h4 a b; omega, by omega⟩
  | false => exact ⟨e, by rw [if_neg (by decide), if_neg (by decide), h1], by omega, by omega, h4, h5⟩
/-- in lowest terms nothing is left over only of an integer -/
theorem whole_iff {r : QI} (h : okQ r = true) : (topN r % denQ r = 0) ↔ denQ r = 1 := by
  have hp := okQ_parts h
  have hd := denQ_pos h
  have hg : Nat.gcd (topN r) (denQ r) = 1 := hp.2.2.2.2.2
  constructor
  · intro h0
    have : denQ r ∣ topN r := Nat.dvd_of_mod_eq_zero h0
    rw [Nat.gcd_eq_right this] at hg
    exact hg
  · intro h1; rw [h1, Nat.mod_one]
end Go.Proofs.YthfkdofnoomhaaaDoor

namespace Go.Proofs.YthfkdofnoomhaaaDoor
open Go.RowKit

theorem valS_ofZ_small {z : Int} (h : (z.natAbs : Int) < bp 50) : valS (ofZ z) = z := ofZ_val (limbs_length_le _ 50 h)
theorem ofZ_nat {n : Nat} (h : (n : Int) < bp 50) : ofZ (n : Int) = (false, limbs n) := by
  unfold ofZ
  rw [show ((n : Int)).natAbs = n by omega, if_pos (limbs_length_le _ 50 h), decide_eq_false (by omega)]
theorem bp50 : (1000000000 : Int) ≤ bp 50 := by have : bp 1 ≤ bp 50 := bp_mono (by omega); have e : bp 1 = 1000000000 := rfl; omega
theorem make_nat {a b : Nat} (ha : (a : Int) < bp 50) (hb : (b : Int) < bp 50) : makeQ (ofZ (a : Int)) (ofZ (b : Int)) = lowQ false a b := by
  unfold makeQ
  rw [if_pos ⟨ofZ_ok _, ofZ_ok _⟩, ofZ_nat ha, ofZ_nat hb]
  show lowQ (false != false) (nval (limbs a)).toNat (nval (limbs b)).toNat = _
  rw [limbs_val, limbs_val, Int.toNat_natCast, Int.toNat_natCast]
  rfl
/-- an integer as a fraction -/
theorem int_bd {x : SI} {m : Nat} (ok : okS x = true) (hm : m ≤ 18) (h0 : 0 < m) (h : ((valS x).natAbs : Int) < bp m) : (makeQ x (ofZ 1)).2 = true ∧ Bd (makeQ x (ofZ 1)).1 m ∧ ratV (makeQ x (ofZ 1)).1 = ((valS x : Int) : Rat) := by
  have hp := okS_parts ok
  have ha := valS_abs x hp.1
  have eo : ofZ 1 = (false, limbs 1) := ofZ_nat (n := 1) (by have := bp50; omega)
  have e1 : (ofZ 1).1 = false := by rw [eo]
  have e2 : (nval (ofZ 1).2).toNat = 1 := by rw [eo]; show (nval (limbs 1)).toNat = 1; rw [limbs_val]; rfl
  have e : makeQ x (ofZ 1) = lowQ x.1 (nval x.2).toNat 1 := by
    unfold makeQ
    rw [if_pos ⟨ok, ofZ_ok 1⟩, e1, e2]
    cases x.1 <;> rfl
  have hb1 : ((1 : Nat) : Int) < bp m := by
    have h1 : bp 1 ≤ bp m := bp_mono h0
    have : bp 1 = 1000000000 := rfl
    omega
  obtain ⟨h1, h2, h3⟩ := low_bd (n := x.1) (a := (nval x.2).toNat) (b := 1) (by omega) hm (by omega) hb1
  rw [e]
  refine ⟨h1, h2, h3.trans ?_⟩
  have hv : (if x.1 = true then -((nval x.2).toNat : Int) else ((nval x.2).toNat : Int)) = valS x := by
    have hn := nval_ok hp.1
    unfold valS
    rw [Int.toNat_of_nonneg hn]
  rw [hv]
  simp
  grind
theorem round_abs {r : QI} {k : Nat} (h : Bd r k) (m : Int) : ((valS (roundS r m)).natAbs : Int) < bp (k + 1) := by
  have hp := parts_of h.ok
  have t := abs_top h.ok
  have h1 := roundN_le r.1.1 (topN r) (denQ r) m
  have h2 : topN r / denQ r ≤ topN r := Nat.div_le_self ..
  have h3 := h.num
  have h4 := bp_next k
  have h5 := bp_pos k
  have h6 := roundS_val hp m
  have h7 : (valS (roundS r m)).natAbs = roundN r.1.1 (topN r) (denQ r) m := by rw [h6]; split <;> omega
  omega
def unitQ : QI := (makeQ (ofZ 1) (ofZ 1)).1
def halfQ : QI := (makeQ (ofZ 1) (ofZ 2)).1
theorem unitQ_is : makeQ (ofZ 1) (ofZ 1) = (unitQ, true) ∧ okQ unitQ = true ∧ numQ unitQ = 1 ∧ denQ unitQ = 1 ∧ szQ unitQ ≤ 1048576 := by
  obtain ⟨h1, h2, h3, h4⟩ := low_is false 1 1 (by decide) (by decide) (by decide)
  have e : makeQ (ofZ 1) (ofZ 1) = lowQ false 1 1 := make_nat (a := 1) (b := 1) (by have := bp50; omega) (by have := bp50; omega)
  have ok := lowQ_ok false 1 1 h1
  have d0 := denQ_pos ok
  refine ⟨pair_eq (by rw [e]; exact h1), by first | (unfold unitQ; rw [e]; exact ok) | (unfold halfQ; rw [e]; exact ok), ?_, ?_, ?_⟩
  · unfold unitQ; rw [e]
    have hd : denQ (lowQ false 1 1).1 = 1 := by omega
    rw [hd, if_neg (by decide)] at h2
    omega
  · unfold unitQ; rw [e]
    omega
  · unfold unitQ; rw [e]; exact lowQ_sz _ _ _
theorem halfQ_is : makeQ (ofZ 1) (ofZ 2) = (halfQ, true) ∧ okQ halfQ = true ∧ numQ halfQ = 1 ∧ denQ halfQ = 2 ∧ szQ halfQ ≤ 1048576 := by
  obtain ⟨h1, h2, h3, h4⟩ := low_is false 1 2 (by decide) (by decide) (by decide)
  have e : makeQ (ofZ 1) (ofZ 2) = lowQ false 1 2 := make_nat (a := 1) (b := 2) (by have := bp50; omega) (by have := bp50; omega)
  have ok := lowQ_ok false 1 2 h1
  have d0 := denQ_pos ok
  rw [if_neg (by decide)] at h2
  refine ⟨pair_eq (by rw [e]; exact h1), by first | (unfold unitQ; rw [e]; exact ok) | (unfold halfQ; rw [e]; exact ok), ?_, ?_, ?_⟩
  · unfold halfQ; rw [e]; omega
  · unfold halfQ; rw [e]; omega
  · unfold halfQ; rw [e]; exact lowQ_sz _ _ _
/-- the size of a fraction -/
def sizeQ (q : QI) : QI := if cmpQ q oneQ < 0 then (negQ q).1 else q
theorem sizeQ_bd {q : QI} {k : Nat} (h : Bd q k) : Bd (sizeQ q) k ∧ numQ (sizeQ q) = ((numQ q).natAbs : Int) ∧ denQ (sizeQ q) = denQ q := by
  have hs := signQ_of h
  unfold sizeQ
  rw [hs]
  by_cases hn : cmpI (numQ q) 0 < 0
  · rw [if_pos hn]
    have h1 := (cmpI_facts (numQ q) 0).2.2
    obtain ⟨n1, n2, _⟩ := neg_bd h
    have e : negQ q = ((negS q.1, q.2), true) := by unfold negQ; rw [if_pos h.ok]
    have hp := okQ_parts h.ok
    have ev : numQ (negQ q).1 = - numQ q := by
      rw [e]
      have hl : (limbs (-valS q.1).natAbs).length ≤ 50 := by
        have := (natOk_parts (okS_parts hp.1).1).2.1
        have hx := natOk_limbs (okS_parts hp.1).1
        have ha := valS_abs q.1 (okS_parts hp.1).1
        rw [Int.natAbs_neg, show (valS q.1).natAbs = (nval q.1.2).toNat by omega, ← hx]
        exact this
      show valS (negS q.1) = - valS q.1
      unfold negS
      rw [if_pos hp.1, ofZ_val hl]
    refine ⟨n2, by rw [ev]; omega, by rw [e]; rfl⟩
  · rw [if_neg hn]
    have h1 := (cmpI_facts (numQ q) 0).2.2
    exact ⟨h, by omega, rfl⟩
/-- |a| < b out of a * D = e * b, |e| < D -/
theorem part_lt {a b D e : Int} (hb : 0 < b) (h : a * D = e * b) (h1 : -D < e) (h2 : e < D) : -b < a ∧ a < b := by
  have hD : 0 < D := by omega
  have k1 : e * b < D * b := Int.mul_lt_mul_of_pos_right h2 hb
  have k2 : -D * b < e * b := Int.mul_lt_mul_of_pos_right h1 hb
  constructor
  · have : -b * D < a * D := by rw [h, Int.neg_mul, Int.mul_comm b D, ← Int.neg_mul]; exact k2
    exact Int.lt_of_mul_lt_mul_right this (by omega)
  · have : a * D < b * D := by rw [h, Int.mul_comm b D]; exact k1
    exact Int.lt_of_mul_lt_mul_right this (by omega)
theorem part_le {a b D e : Int} (hb : 0 < b) (hD : 0 < D) (h : a * D = e * b) (h1 : -D ≤ 2 * e) (h2 : 2 * e ≤ D) : -b ≤ 2 * a ∧ 2 * a ≤ b := by
  have k1 : 2 * e * b ≤ D * b := Int.mul_le_mul_of_nonneg_right h2 (by omega)
  have k2 : -D * b ≤ 2 * e * b := Int.mul_le_mul_of_nonneg_right h1 (by omega)
  have h' : 2 * a * D = 2 * e * b := by rw [Int.mul_assoc, h, Int.mul_assoc]
  constructor
  · have : -b * D ≤ 2 * a * D := by rw [h', Int.neg_mul, Int.mul_comm b D, ← Int.neg_mul]; exact k2
    exact Int.le_of_mul_le_mul_right this hD
  · have : 2 * a * D ≤ b * D := by rw [h', Int.mul_comm b D]; exact k1
    exact Int.le_of_mul_le_mul_right this hD
/-- all that FnRound reckons at one mode: the rounded number, it as a fraction, the rest, their sum -/
structure RoundAll (r : QI) (m : Int) (x : SI) (b q t z : QI) : Prop where
  ex : roundS r m = x
  ok : okS x = true
  lx : szS x ≤ 1048576
  eb : makeQ x (ofZ 1) = (b, true)
  eq : subQ r b = (q, true)
  et : addQ b q = (t, true)
  tr : cmpQ t r = 0
  okq : okQ q = true
  ez : sizeQ q = z
  zz : cmpQ q oneQ < 0 → negQ q = (z, true)
  z1 : cmpQ z unitQ < 0
  zh : 4 ≤ m → m ≤ 6 → cmpQ z halfQ ≤ 0
  wh : wholeB r = decide (cmpQ q oneQ = 0)
  sz : szQ r ≤ 1048576 ∧ szQ b ≤ 1048576 ∧ szQ q ≤ 1048576 ∧ szQ t ≤ 1048576 ∧ szQ z ≤ 1048576
theorem round_all {r : QI} {m : Int} (h : Bd r 3) : ∃ (x : SI) (b q t z : QI), RoundAll r m x b q t z := by
  have okx := roundS_ok r m
  have hab := round_abs h m
  obtain ⟨b1, b2, b3⟩ := int_bd okx (by omega) (by omega) hab
  obtain ⟨q1, q2, q3⟩ := sub_bd h b2 (by omega)
  obtain ⟨t1, t2, t3⟩ := add_bd b2 q2 (by omega)
  obtain ⟨z1, z2, z3⟩ := sizeQ_bd q2
  obtain ⟨e, e1, e2, e3, e4, e5⟩ := round_val h.ok m
  have pr := h.pos
  have pq := q2.pos
  have key : numQ (subQ r (makeQ (roundS r m) (ofZ 1)).1).1 * (denQ r : Int) = -e * (denQ (subQ r (makeQ (roundS r m) (ofZ 1)).1).1 : Int) := by
    generalize (subQ r (makeQ (roundS r m) (ofZ 1)).1).1 = q at *
    have n1 := rat_ne pr
    have n2 := rat_ne pq
    have e1' : ((valS (roundS r m) : Int) : Rat) * ((denQ r : Int) : Rat) = (numQ r : Rat) + (e : Rat) := by exact_mod_cast e1
    rw [b3] at q3
    unfold ratV at q3
    have : (numQ q : Rat) * ((denQ r : Int) : Rat) = -(e : Rat) * ((denQ q : Int) : Rat) := by grind
    exact_mod_cast this
  have hlt := part_lt pq key (by omega) (by omega)
  refine ⟨_, _, _, _, _, rfl, okx, by have := roundS_len r m; unfold szS szI; omega, pair_eq b1, pair_eq q1, pair_eq t1, cmp_same t2 h (by rw [t3, q3]; grind), q2.ok, rfl, fun hn => ?_, ?_, fun h4 h6 => ?_, ?_, ?_⟩
  · have hz := (neg_bd q2).1
    unfold sizeQ
    rw [if_pos hn]
    exact pair_eq hz
  · obtain ⟨u1, u2, u3, u4, u5⟩ := unitQ_is
    unfold cmpQ
    rw [if_pos ⟨z1.ok, u2⟩, u3, u4, z2, z3]
    have := (cmpI_facts (((numQ (subQ r (makeQ (roundS r m) (ofZ 1)).1).1).natAbs : Int) * ((1 : Nat) : Int)) (1 * (denQ (subQ r (makeQ (roundS r m) (ofZ 1)).1).1 : Int))).2.2
    omega
  · obtain ⟨u1, u2, u3, u4, u5⟩ := halfQ_is
    have hle := part_le pq pr key (by have := (e4 h4 h6); omega) (by have := (e4 h4 h6); omega)
    unfold cmpQ
    rw [if_pos ⟨z1.ok, u2⟩, u3, u4, z2, z3]
    have := (cmpI_facts (((numQ (subQ r (makeQ (roundS r m) (ofZ 1)).1).1).natAbs : Int) * ((2 : Nat) : Int)) (1 * (denQ (subQ r (makeQ (roundS r m) (ofZ 1)).1).1 : Int))).2.1
    omega
  · unfold wholeB
    rw [h.ok, Bool.true_and, decide_eq_decide, ← whole_iff h.ok, ← e5, signQ_of q2, (cmpI_facts _ _).1]
    generalize (subQ r (makeQ (roundS r m) (ofZ 1)).1).1 = q at *
    constructor
    · intro he
      rw [he] at key
      rcases Int.mul_eq_zero.1 (key.trans (by simp)) with h0 | h0
      · exact h0
      · omega
    · intro he
      rw [he, Int.zero_mul] at key
      rcases Int.mul_eq_zero.1 key.symm with h0 | h0 <;> omega
  · exact ⟨bd_sz h (by omega), bd_sz b2 (by omega), bd_sz q2 (by omega), bd_sz t2 (by omega), bd_sz z1 (by omega)⟩
end Go.Proofs.YthfkdofnoomhaaaDoor

namespace Go.Proofs.YthfkdofnoomhaaaDoor
open Go.RowKit

/-- the mode of the opposite direction -/
def turnedM (m : Int) : Int := if m = 2 then 3 else if m = 3 then 2 else m
theorem away_turn (neg : Bool) (Q R D : Nat) {m : Int} (h : modeB m = true) : awayB (!neg) Q R D (turnedM m) = awayB neg Q R D m := by
  rcases modeB_cases h with rfl | rfl | rfl | rfl | rfl | rfl | rfl <;> cases neg <;> rfl
theorem round_turn (neg : Bool) (A D : Nat) {m : Int} (h : modeB m = true) : roundN (!neg) A D (turnedM m) = roundN neg A D m := by unfold roundN; rw [away_turn _ _ _ _ h]
theorem cmpS_val {x y : SI} (hx : okS x = true) (hy : okS y = true) : cmpS x y = cmpI (valS x) (valS y) := by unfold cmpS; rw [if_pos ⟨hx, hy⟩]
theorem negQ_is {r : QI} (h : okQ r = true) : negQ r = ((negS r.1, r.2), true) := by unfold negQ; rw [if_pos h]
theorem roundN_zero (neg : Bool) (D : Nat) (m : Int) : roundN neg 0 D m = 0 := by unfold roundN; rw [Nat.zero_mod, Nat.zero_div, if_neg (fun h => h.1 rfl)]
/-- the negated fraction, rounded the other way -/
theorem round_neg {r : QI} {k : Nat} (h : Bd r k) {m : Int} (hm : modeB m = true) : valS (roundS (negQ r).1 (turnedM m)) = - valS (roundS r m) := by
  obtain ⟨n1, n2, n3⟩ := neg_bd h
  have hp := parts_of h.ok
  have hq := parts_of n2.ok
  have hs := okS_parts (okQ_parts h.ok).1
  have e := negQ_is h.ok
  have et : topN (negQ r).1 = topN r := by rw [e]; show (nval (negS r.1).2).toNat = (nval r.1.2).toNat; rw [negS_mag (okQ_parts h.ok).1]
  have ed : denQ (negQ r).1 = denQ r := by rw [e]; rfl
  rw [roundS_val hp, roundS_val hq, et, ed]
  by_cases h0 : topN r = 0
  · rw [h0, roundN_zero, roundN_zero]; simp
  · have esg : (negQ r).1.1.1 = !r.1.1 := by
      have h1 := okS_sign (okQ_parts n2.ok).1
      have h2 := okS_sign (okQ_parts h.ok).1
      have h3 : valS (negQ r).1.1 = - valS r.1 := by rw [e]; exact negS_val (okQ_parts h.ok).1
      have h4 : (valS r.1).natAbs = topN r := (abs_top h.ok).symm
      rw [h1, h2, h3]
      by_cases hn : valS r.1 < 0
      · rw [decide_eq_true hn, decide_eq_false (by omega)]; rfl
      · rw [decide_eq_false hn, decide_eq_true (by omega)]; rfl
    rw [esg, round_turn _ _ _ hm]
    cases r.1.1 <;> simp
theorem round_order {r : QI} (h : okQ r = true) (m : Int) : valS (roundS r 2) ≤ valS (roundS r m) ∧ valS (roundS r m) ≤ valS (roundS r 3) := by
  have hp := parts_of h
  rw [roundS_val hp, roundS_val hp, roundS_val hp]
  have c := roundN_cases r.1.1 (topN r) (denQ r) m
  have c2 := roundN_cases r.1.1 (topN r) (denQ r) 2
  have c3 := roundN_cases r.1.1 (topN r) (denQ r) 3
  rw [show awayB r.1.1 (topN r / denQ r) (topN r % denQ r) (denQ r) 2 = r.1.1 from rfl] at c2
  rw [show awayB r.1.1 (topN r / denQ r) (topN r % denQ r) (denQ r) 3 = !r.1.1 from rfl] at c3
  generalize r.1.1 = n at *
  generalize topN r / denQ r = Q at *
  generalize topN r % denQ r = R at *
  generalize roundN n (topN r) (denQ r) m = k at *
  generalize roundN n (topN r) (denQ r) 2 = k2 at *
  generalize roundN n (topN r) (denQ r) 3 = k3 at *
  generalize awayB n Q R (denQ r) m = a at *
  clear hp h
  cases n <;> cases a <;> simp at c c2 c3 ⊢ <;> omega
theorem limbs_head (k : Nat) : (limbs k).headD 0 % 2 = ((k % 2 : Nat) : Int) := by
  by_cases h : k = 0
  · subst h; rw [limbs, dif_pos rfl]; rfl
  · rw [limbs, dif_neg h]
    show ((k % 1000000000 : Nat) : Int) % 2 = _
    omega
theorem even_half {r : QI} (h : okQ r = true) (hh : halfB r = true) : evenB (roundS r 6).2 = true := by
  have hp := parts_of h
  have hd : denQ r = 2 := by
    unfold halfB at hh
    rw [h, Bool.true_and] at hh
    exact of_decide_eq_true hh
  have hl := round_len hp 6
  have e2 : (roundS r 6).2 = limbs (roundN r.1.1 (topN r) (denQ r) 6) := by
    show (mkS r.1.1 _).2 = _
    show capL _ = _
    unfold capL
    rw [if_neg (by omega)]
  have hg : Nat.gcd (topN r) (denQ r) = 1 := (okQ_parts h).2.2.2.2.2
  have c := roundN_cases r.1.1 (topN r) (denQ r) 6
  have ea : awayB r.1.1 (topN r / denQ r) (topN r % denQ r) (denQ r) 6 = (decide (denQ r < 2 * (topN r % denQ r)) || (decide (2 * (topN r % denQ r) = denQ r) && decide ((topN r / denQ r) % 2 = 1))) := rfl
  rw [ea, Bool.or_eq_true, Bool.or_eq_false_iff, Bool.and_eq_true, Bool.and_eq_false_iff, decide_eq_true_eq, decide_eq_true_eq, decide_eq_true_eq, decide_eq_false_iff_not, decide_eq_false_iff_not, decide_eq_false_iff_not] at c
  have hodd : topN r % 2 = 1 := by
    rcases Nat.mod_two_eq_zero_or_one (topN r) with h0 | h0
    · have h1 : 2 ∣ Nat.gcd (topN r) (denQ r) := Nat.dvd_gcd (Nat.dvd_of_mod_eq_zero h0) (by rw [hd]; exact Nat.dvd_refl 2)
      rw [hg] at h1
      have := Nat.le_of_dvd (by omega) h1
      omega
    · exact h0
  rw [e2]
  unfold evenB
  rw [limbs_okL _ (by omega), Bool.true_and, decide_eq_true_eq, limbs_head]
  rw [hd] at c ⊢
  have : roundN r.1.1 (topN r) 2 6 % 2 = 0 := by omega
  omega
/-- all that FnModes reckons at one mode -/
structure ModeAll (r : QI) (m : Int) (lo hi x y : SI) : Prop where
  lx : szS x ≤ 1048576
  ly : szS y ≤ 1048576
  ex : roundS r m = x
  ey : roundS (negQ r).1 (turnedM m) = y
  lo : cmpS lo x ≤ 0
  hi : cmpS x hi ≤ 0
  ng : cmpS x (negS y) = 0
theorem roundS_sz (r : QI) (m : Int) : szS (roundS r m) ≤ 1048576 := by have := roundS_len r m; unfold szS szI; omega
theorem mode_all {r : QI} {k : Nat} (h : Bd r k) {m : Int} (hm : modeB m = true) : ∃ x y, ModeAll r m (roundS r 2) (roundS r 3) x y := by
  have ho := round_order h.ok m
  have hn := round_neg h hm
  refine ⟨_, _, roundS_sz _ _, roundS_sz _ _, rfl, rfl, ?_, ?_, ?_⟩
  · rw [cmpS_val (roundS_ok _ _) (roundS_ok _ _), (cmpI_facts _ _).2.1]; exact ho.1
  · rw [cmpS_val (roundS_ok _ _) (roundS_ok _ _), (cmpI_facts _ _).2.1]; exact ho.2
  · rw [cmpS_val (roundS_ok _ _) (negS_ok _), negS_val (roundS_ok _ _), hn, Int.neg_neg, (cmpI_facts _ _).1]

/-! ### RoundTo -/
theorem quot_is {x : SI} {n : Int} {k : Nat} (ok : okS x = true) (hk : k ≤ 18) (h0 : 1 ≤ k) (hx : ((valS x).natAbs : Int) < bp k) (h1 : 1 ≤ n) (h2 : n ≤ 1000000) :
    (makeQ x (ofZ n)).2 = true ∧ Bd (makeQ x (ofZ n)).1 k ∧ numQ (makeQ x (ofZ n)).1 * n = valS x * denQ (makeQ x (ofZ n)).1 := by
  have hp := okS_parts ok
  have ha := valS_abs x hp.1
  have hnn := nval_ok hp.1
  have b1 : bp 1 = 1000000000 := rfl
  have b1k : bp 1 ≤ bp k := bp_mono h0
  have hl : (limbs n.natAbs).length ≤ 50 := limbs_length_le _ 50 (by have : bp 1 ≤ bp 50 := bp_mono (by omega); omega)
  have en : ofZ n = (false, limbs n.toNat) := by
    unfold ofZ
    rw [if_pos hl, decide_eq_false (by omega), show n.natAbs = n.toNat by omega]
  have e : makeQ x (ofZ n) = lowQ x.1 (nval x.2).toNat n.toNat := by
    unfold makeQ
    rw [if_pos ⟨ok, ofZ_ok n⟩, en, limbs_val, Int.toNat_natCast]
    cases x.1 <;> rfl
  have hN : ((nval x.2).toNat : Int) < bp k := by omega
  have hD : ((n.toNat : Nat) : Int) < bp k := by omega
  have h18 := bp_mono hk
  obtain ⟨l1, l2, l3, l4⟩ := low_is x.1 (nval x.2).toNat n.toNat (by omega) (by omega) (by omega)
  rw [e]
  refine ⟨l1, ⟨lowQ_ok _ _ _ l1, by omega, by omega⟩, ?_⟩
  have hv : (if x.1 = true then -((nval x.2).toNat : Int) else ((nval x.2).toNat : Int)) = valS x := by
    unfold valS
    rw [Int.toNat_of_nonneg hnn]
  rw [hv, Int.toNat_of_nonneg (by omega)] at l2
  exact l2
/-- all that FnStep reckons -/
structure StepAll (x : SI) (n m : Int) (y d : SI) : Prop where
  ey : stepS x n m = y
  by_ : stepB x n m = true
  ez : stepS y n m = y
  bz : stepB y n m = true
  dv : (divN y.2 (limbs n.toNat)).2 = []
  yy : cmpS y y = 0
  ed : absS (subS x y) = d
  lt : cmpS d (ofZ n) < 0
  sz : szS x ≤ 1048576 ∧ szS y ≤ 1048576 ∧ szS (subS x y) ≤ 1048576 ∧ szS d ≤ 1048576 ∧ szS (ofZ n) ≤ 1048576
theorem szS_50 {x : SI} (h : okS x = true) : szS x ≤ 1048576 := by have := (natOk_parts (okS_parts h).1).2.1; unfold szS szI; omega
theorem mulS_ok (x y : SI) : okS (mulS x y) = true := by unfold mulS; split; exact ofZ_ok _; exact zeroS_ok
theorem subSM_ok (x y : SI) : okS (subS x y) = true := by unfold subS; split; exact ofZ_ok _; exact zeroS_ok
theorem absS_ok (x : SI) : okS (absS x) = true := by unfold absS; split; exact ofZ_ok _; exact zeroS_ok
theorem small_ofZ {z : Int} {k : Nat} (h : (z.natAbs : Int) < bp k) (hk : k ≤ 50) : valS (ofZ z) = z := ofZ_val (limbs_length_le _ 50 (by have := bp_mono hk; omega))
theorem step_all {x : SI} {n m : Int} (ok : okS x = true) (hx : x.2.length ≤ 3) (h1 : 1 ≤ n) (h2 : n ≤ 500) (hm : modeB m = true) : ∃ y d, StepAll x n m y d := by
  have hp := okS_parts ok
  have ha := valS_abs x hp.1
  have hab : ((valS x).natAbs : Int) < bp 3 := by
    have h3 := nval_lt x.2 (natOk_parts hp.1).1
    have h4 := nval_ok hp.1
    have h5 : bp x.2.length ≤ bp 3 := bp_mono hx
    omega
  obtain ⟨q1, q2, q3⟩ := quot_is ok (k := 3) (by omega) (by omega) hab h1 (by omega)
  have hr := round_abs q2 m
  obtain ⟨e, e1, e2, e3, e4, e5⟩ := round_val q2.ok m
  have hsb : stepB x n m = true := by unfold stepB; rw [ok, decide_eq_true (show x.2.length ≤ 18 by omega), decide_eq_true (show 1 ≤ n ∧ n ≤ 1000000 by omega), hm]; rfl
  have ey : stepS x n m = mulS (roundS (makeQ x (ofZ n)).1 m) (ofZ n) := by unfold stepS; rw [if_pos hsb]
  have b1 : bp 1 = 1000000000 := rfl
  have vn : valS (ofZ n) = n := small_ofZ (k := 1) (by omega) (by omega)
  obtain ⟨X, hX⟩ : ∃ X, roundS (makeQ x (ofZ n)).1 m = X := ⟨_, rfl⟩
  have okX : okS X = true := by rw [← hX]; exact roundS_ok _ _
  rw [hX] at hr e1 ey
  have hXn : ((valS X * n).natAbs : Int) < bp 5 := by
    have := mul_lt (a := (valS X).natAbs) (b := n.natAbs) (i := 4) (j := 1) hr (by omega)
    rw [Int.natAbs_mul]
    exact this
  have vy : valS (mulS X (ofZ n)) = valS X * n := by
    unfold mulS
    rw [if_pos ⟨okX, ofZ_ok n⟩, vn]
    exact small_ofZ hXn (by omega)
  obtain ⟨y, hy⟩ : ∃ y, mulS X (ofZ n) = y := ⟨_, rfl⟩
  have oky : okS y = true := by rw [← hy]; exact mulS_ok _ _
  rw [hy] at ey vy
  have hpy := okS_parts oky
  have hay := valS_abs y hpy.1
  have hyl : y.2.length ≤ 5 := by
    rw [natOk_limbs hpy.1]
    refine limbs_length_le _ 5 ?_
    rw [← hay, vy]
    exact hXn
  have hsz : stepB y n m = true := by unfold stepB; rw [oky, decide_eq_true (show y.2.length ≤ 18 by omega), decide_eq_true (show 1 ≤ n ∧ n ≤ 1000000 by omega), hm]; rfl
  -- the quotient of y is an integer
  obtain ⟨p1, p2, p3⟩ := quot_is oky (k := 5) (by omega) (by omega) (by rw [vy]; exact hXn) h1 (by omega)
  have hint : roundS (makeQ y (ofZ n)).1 m = X := by
    obtain ⟨f, f1, f2, f3, f4, f5⟩ := round_val p2.ok m
    have pd := p2.pos
    have hnum : numQ (makeQ y (ofZ n)).1 = valS X * denQ (makeQ y (ofZ n)).1 := by
      have : numQ (makeQ y (ofZ n)).1 * n = valS X * denQ (makeQ y (ofZ n)).1 * n := by rw [p3, vy]; ac_rfl
      exact Int.eq_of_mul_eq_mul_right (by omega) this
    have hmod : topN (makeQ y (ofZ n)).1 % denQ (makeQ y (ofZ n)).1 = 0 := by
      rw [abs_top p2.ok, hnum, Int.natAbs_mul, Int.natAbs_natCast, Nat.mul_mod_left]
    have hf0 := f5.2 hmod
    have hd1 := (whole_iff p2.ok).1 hmod
    rw [hf0, hnum, hd1] at f1
    have hv : valS (roundS (makeQ y (ofZ n)).1 m) = valS X := by omega
    rw [← okS_ofZ (roundS_ok _ m), hv, okS_ofZ okX]
  have ez : stepS y n m = y := by unfold stepS; rw [if_pos hsz, hint, hy]
  -- how far it is off
  have pq := q2.pos
  have hoff : -n < valS y - valS x ∧ valS y - valS x < n := by
    refine part_lt (D := (denQ (makeQ x (ofZ n)).1 : Int)) (e := e) (by omega) ?_ e2 e3
    rw [Int.sub_mul, ← q3, vy]
    have : valS X * n * (denQ (makeQ x (ofZ n)).1 : Int) = (numQ (makeQ x (ofZ n)).1 + e) * n := by rw [← e1]; ac_rfl
    rw [this, Int.add_mul]
    omega
  have hsub : ((valS x - valS y).natAbs : Int) < bp 1 := by omega
  have vs : valS (subS x y) = valS x - valS y := by
    unfold subS
    rw [if_pos ⟨ok, oky⟩]
    exact small_ofZ hsub (by omega)
  have vd : valS (absS (subS x y)) = ((valS x - valS y).natAbs : Int) := by
    unfold absS
    rw [if_pos (subSM_ok x y), vs]
    exact small_ofZ (k := 1) (by omega) (by omega)
  have okn : natOkB (limbs n.toNat) = true := limbs_okL _ (limbs_length_le _ 50 (by have : bp 1 ≤ bp 50 := bp_mono (by omega); omega))
  have hnl : 0 < (limbs n.toNat).length := by
    rcases Nat.eq_zero_or_pos (limbs n.toNat).length with h0 | h0
    · have := (limbs_zero_iff _).1 h0; omega
    · exact h0
  refine ⟨y, _, ey, hsb, ez, hsz, ?_, ?_, rfl, ?_, szS_50 ok, szS_50 oky, szS_50 (subSM_ok _ _), szS_50 (absS_ok _), szS_50 (ofZ_ok _)⟩
  · unfold divN
    rw [if_pos ⟨hpy.1, okn, hnl⟩, limbs_val, Int.toNat_of_nonneg (by omega)]
    have hnv := nval_ok hpy.1
    have hz : nval y.2 % n = 0 := by
      have h3 : nval y.2 = ((valS X).natAbs : Int) * n := by
        have h4 : (valS y).natAbs = (valS X).natAbs * n.natAbs := by rw [vy, Int.natAbs_mul]
        have h5 : (n.natAbs : Int) = n := by omega
        have h6 : nval y.2 = ((valS y).natAbs : Int) := by omega
        rw [h6, h4, Int.natCast_mul, h5]
      rw [h3, Int.mul_emod_left]
    rw [hz, show (0 : Int).toNat = 0 from rfl]
    show limbs 0 = []
    rw [limbs, dif_pos rfl]
  · rw [cmpS_val oky oky, (cmpI_facts _ _).1]
  · rw [cmpS_val (absS_ok _) (ofZ_ok _), vd, vn]
    have := (cmpI_facts ((valS x - valS y).natAbs : Int) n).2.2
    omega
end Go.Proofs.YthfkdofnoomhaaaDoor
