/-
  Chapter 11 of package spec: what TextRate returns.
-/
import Derived.Test.YtbpfabicampdkaaGreatDoorRateReadI
import Derived.Test.YtbpfabicampdkaaGreatDoorCutWalks
import Derived.BigRegion
import Derived.Test.YtbpfabicampdkaaGreatDoorJB12
namespace Go.Proofs.YtbpfabicampdkaaGreatDoor
open Go.RowKit

theorem postT_isR {a b : ByteArray} (h : a = b) {w w' : World} {e : Ending} (k : PostT a w e w') : PostT b w e w' := h ▸ k
theorem pieces_isE {P Q : List ByteArray} (e : P = Q) {w w' : World} {n : Ending} (h : Pieces P w n w') : Pieces Q w n w' := e ▸ h
theorem own_len_strE {w : World} {base : Nat} {v : Value} {P : List ByteArray} (h : w.ownsRow base 9 1 v P.length (strsV P)) : ∃ A c, v = .slice A P.length c := by
  obtain ⟨_, ⟨rfl, h0⟩ | ⟨g, cap, cur, rfl, _⟩⟩ := h
  · exact ⟨none, 0, by rw [h0]⟩
  · exact ⟨_, _, rfl⟩
set_option maxHeartbeats 4000000 in
set_option maxRecDepth 100000 in
theorem specTextRate_any (s : ByteArray) (w : World) (hs : s.size ≤ 1048576) :
    Calls Tryz.prog 39 #[.string s] w (PostEb (trE s).1 (trE s).2 w) := by
  have bb0 : Below w.heap.size w (w.alloc (.cells #[.string ⟨#[]⟩, .string ⟨#[]⟩, .bool false, .slice none 0 0, .int .i64 0] 41)) := below_al (Below.refl _ _) _
  have ko := (box_new w #[.string ⟨#[]⟩, .string ⟨#[]⟩, .bool false, .slice none 0 0, .int .i64 0] 41)
  have hts := hd_tl_size s
  have hts2 := hd_tl_size (tlM s)
  obtain ⟨⟨D, db⟩, hD⟩ : ∃ D, trD (tlM (tlM s)) = D := ⟨_, rfl⟩
  have ED := Lib.hid hD
  have hDl : D.1.2.length ≤ 1048576 := by have h := szD_len (trD_sz (tlM (tlM s))); rw [hD] at h; exact h
  have hRE := readE_is hD
  have B1 := Lib.hid (show db = false → trE s = (zeroE, false) from fun h => trE_bad1 (by rw [hD]; exact h))
  have B2 := Lib.hid (show ¬ okE (hdM s, hdM (tlM s), D) = true → trE s = (zeroE, false) from fun h => trE_bad2 (by rw [hRE]; exact h))
  have B3 := Lib.hid (show db = true → okE (hdM s, hdM (tlM s), D) = true → trE s = ((hdM s, hdM (tlM s), D), true) from fun h1 h2 => by have h := trE_good (s := s) (by rw [hD]; exact h1) (by rw [hRE]; exact h2); rw [hRE] at h; exact h)
  have CT := cut_three s
  have hcl := cutAt_length s ⟨#[32]⟩ hs
  have B4 := Lib.hid (show db = true → okE (hdM s, hdM (tlM s), D) = true → hdM s ++ ⟨#[32]⟩ ++ hdM (tlM s) ++ ⟨#[32]⟩ ++ tlM (tlM s) = s → textE (hdM s, hdM (tlM s), D) = s from fun h1 h2 h3 => by have h := text_readE (s := s) (by rw [hD]; exact h1) (by rw [hRE]; exact h2) h3; rw [hRE] at h; exact h)
  clear hD hRE
  obtain ⟨P, hP⟩ : ∃ P, trE s = P := ⟨_, rfl⟩
  rw [hP] at B1 B2 B3 CT ⊢
  clear hP
  generalize hPC : cutAtB s ⟨#[32]⟩ = PC at *
  have EPC := Lib.hid hPC
  clear hPC
  go_enter Tryz.func39, Tryz.ntmps39
  go_wp2_with fail
  refine ((specCut_any s _ hs).mono fun _ _ h => pieces_isE EPC.out h).mono ?_
  rintro e w1 ⟨v, rfl, ov, b1⟩
  have z1 : w.heap.size + 1 ≤ w1.heap.size := by have := b1.size; simp at this; omega
  have bb1 := Below.next bb0 b1
  replace ko := ko.below b1
  obtain ⟨Av, cv, rfl⟩ := own_len_strE ov
  rcases CT with ⟨rfl, hse⟩ | ⟨hne, hz⟩
  · have hrow := Row.of_own ov
    obtain ⟨Av2, cv2, hv, hcv⟩ := hrow
    cases hv
    obtain ⟨av, rfl, _, hvl, hc0⟩ := hcv 0 _ rfl
    obtain ⟨av2, hav, _, _, hc1⟩ := hcv 1 _ rfl
    cases hav
    obtain ⟨av2, hav, _, _, hc2⟩ := hcv 2 _ rfl
    cases hav
    clear hcv ov
    replace hc2 : w1.cell? ⟨av.block, av.off + 2, none⟩ = some (.string (tlM (tlM s))) := by simpa [Addr.add] using hc2
    replace hc1 : w1.cell? ⟨av.block, av.off + 1, none⟩ = some (.string (hdM (tlM s))) := by simpa [Addr.add] using hc1
    replace hc0 : w1.cell? av = some (.string (hdM s)) := by simpa [Addr.add] using hc0
    replace hvl : av.block < w1.heap.size := by simpa [Addr.add] using hvl
    have HSE := Lib.hid hse
    clear hse
    generalize hdM s = C at *
    generalize hdM (tlM s) = C2 at *
    generalize tlM (tlM s) = L2 at *
    have HC0 := Lib.hid hc0
    have HC1 := Lib.hid hc1
    clear hc0 hc1
    have hcl2 : ([C, C2, L2] : List ByteArray).length = 3 := rfl
    rw [hcl2]
    clear hcl2 hcl
    go_wp2_with fail
    refine ((specTextDec_any L2 _ (by omega)).mono fun _ _ h => postDb_is ED.out h).mono ?_
    rintro e w2 ⟨ud, Sd, rfl, od, ld, b2⟩
    obtain ⟨Ad, cd, rfl⟩ := ownD_form od.here
    have bb2 := Below.next bb1 b2
    replace ko := ko.below b2
    clear hc2
    have kd := box_new (w2) #[.bool D.1.1, .slice Ad D.1.2.length cd, .int .i64 D.2] 39
    have ald := below_al (Below.refl (w2).heap.size (w2)) (.cells #[.bool D.1.1, .slice Ad D.1.2.length cd, .int .i64 D.2] 39)
    have bbd := Below.next bb2 ald
    replace ko := ko.below ald
    replace od := od.below ald
    have z2 := b2.size
    have hc0 := (ald.cell (p := av) (Nat.lt_of_lt_of_le hvl b2.size)).trans ((b2.cell (p := av) hvl).trans HC0.out)
    have hc1 := (ald.cell (p := ⟨av.block, av.off + 1, none⟩) (Nat.lt_of_lt_of_le hvl b2.size)).trans ((b2.cell (p := ⟨av.block, av.off + 1, none⟩) hvl).trans HC1.out)
    have kd_c0 := kd.here.cell 0 _ rfl
    have kd_c1 := kd.here.cell 1 _ rfl
    have kd_c2 := kd.here.cell 2 _ rfl
    go_upto_region 5 with fail
    obtain ⟨w3, hw3⟩ : ∃ W, W = (w2.alloc (.cells #[.bool D.1.1, .slice Ad D.1.2.length cd, .int .i64 D.2] 39)) := ⟨_, rfl⟩
    have z3 : w2.heap.size + 1 = w3.heap.size := by rw [hw3]; simp
    rw [← hw3] at hc0 hc1 kd_c0 kd_c1 kd_c2 ko kd od bbd ⊢
    clear hw3 ald
    have hvl3 : av.block < w3.heap.size := by omega
    have hlw : w2.heap.size < w3.heap.size := by omega
    go_region
    have al4 : Below w3.heap.size w3 (w3.alloc (.cells #[.string C, .string C2, .bool D.1.1, .slice Ad D.1.2.length cd, .int .i64 D.2] 41)).drew := (below_al (Below.refl _ _) _).drew
    have kr : At [w3.heap.size] (BoxAt w3.heap.size #[.string C, .string C2, .bool D.1.1, .slice Ad D.1.2.length cd, .int .i64 D.2] 41) (w3.alloc (.cells #[.string C, .string C2, .bool D.1.1, .slice Ad D.1.2.length cd, .int .i64 D.2] 41)).drew := (box_new w3 #[.string C, .string C2, .bool D.1.1, .slice Ad D.1.2.length cd, .int .i64 D.2] 41).move (fun _ _ => rfl) (Nat.le_refl _)
    obtain ⟨w4, hw4⟩ : ∃ W, W = (w3.alloc (.cells #[.string C, .string C2, .bool D.1.1, .slice Ad D.1.2.length cd, .int .i64 D.2] 41)).drew := ⟨_, rfl⟩
    have z4 : w3.heap.size + 1 = w4.heap.size := by rw [hw4]; show _ = (w3.alloc _).heap.size; simp
    rw [← hw4] at al4 kr ⊢
    clear hw4
    clear kd_c0 kd_c1 kd_c2 kd hc0 hc1
    have bb4 := Below.next bbd al4
    replace ko := ko.below al4
    replace od := od.below al4
    have oe := od.imp fun _ h => (OwnE.mk (q := (C, C2, D)) (ownD_open h) : OwnE (.agg #[.string C, .string C2, .bool D.1.1, .slice Ad D.1.2.length cd, .int .i64 D.2]) (C, C2, D) _)
    cases db with
    | false =>
      have HV := Lib.hid (B1.out (by simp))
      have cz0 := ko.here.cell 0 _ rfl
      have fz0 := Lib.frozen_of_heap ko.here 0
      have cz1 := ko.here.cell 1 _ rfl
      have fz1 := Lib.frozen_of_heap ko.here 1
      have cz2 := ko.here.cell 2 _ rfl
      have fz2 := Lib.frozen_of_heap ko.here 2
      have cz3 := ko.here.cell 3 _ rfl
      have fz3 := Lib.frozen_of_heap ko.here 3
      have cz4 := ko.here.cell 4 _ rfl
      have fz4 := Lib.frozen_of_heap ko.here 4
      clear ko od oe kr
      go_wp2
      refine bodyPost_ret (v := .tuple #[.agg #[.string ⟨#[]⟩, .string ⟨#[]⟩, .bool false, .slice none 0 0, .int .i64 0], .bool false]) (by simp [results, Tryz.results39, go_sem, cz0, cz1, cz2, cz3, cz4]) rfl ?_
      rw [HV.out]
      first | exact newEb_zero _ bb4 | exact newEb_zero _ (below_set5 bb4 (by omega))
    | true =>
      have kr_c0 := kr.here.cell 0 _ rfl
      have kr_c1 := kr.here.cell 1 _ rfl
      have kr_c2 := kr.here.cell 2 _ rfl
      have kr_c3 := kr.here.cell 3 _ rfl
      have kr_c4 := kr.here.cell 4 _ rfl
      go_wp2_with fail
      clear kr_c0 kr_c1 kr_c2 kr_c3 kr_c4
      refine (specRateOk_any _ (C, C2, D) _ hDl oe.here).mono ?_
      rintro e w5 ⟨rfl, b5⟩
      have bb5 := Below.next bb4 b5
      replace ko := ko.below b5
      replace od := od.below b5
      replace oe := oe.below b5
      replace kr := kr.below b5
      by_cases ok : okE (C, C2, D) = true
      · have HV := Lib.hid (B3.out (by simp) ok)
        have HX := Lib.hid (B4.out (by simp) ok HSE.out)
        rw [ok]
        clear ok
        have kr_c0 := kr.here.cell 0 _ rfl
        have kr_c1 := kr.here.cell 1 _ rfl
        have kr_c2 := kr.here.cell 2 _ rfl
        have kr_c3 := kr.here.cell 3 _ rfl
        have kr_c4 := kr.here.cell 4 _ rfl
        go_wp2_with fail
        clear kr_c0 kr_c1 kr_c2 kr_c3 kr_c4
        refine ((specRateText_any _ (C, C2, D) _ hDl oe.here).mono fun _ _ h => postT_isR HX.out h).mono ?_
        rintro e w6 ⟨rfl, b6⟩
        have bb6 := Below.next bb5 b6
        replace ko := ko.below b6
        replace od := od.below b6
        replace oe := oe.below b6
        replace kr := kr.below b6
        have hbe : (s.toList == s.toList) = true := beq_self_eq_true _
        have hbe2 : (s.toList != s.toList) = false := by rw [bne, hbe]; rfl
        have HW := Lib.hid (newEb_at (r := w.heap.size) (b := true) (B := w.heap.size + 1) oe (fun i hi => ⟨by have := (ld i hi).1; omega, oe.lt i hi⟩) (by omega) (Nat.le_refl _) bb6)
        have cz0 := ko.here.cell 0 _ rfl
        have fz0 := Lib.frozen_of_heap ko.here 0
        have cz1 := ko.here.cell 1 _ rfl
        have fz1 := Lib.frozen_of_heap ko.here 1
        have cz2 := ko.here.cell 2 _ rfl
        have fz2 := Lib.frozen_of_heap ko.here 2
        have cz3 := ko.here.cell 3 _ rfl
        have fz3 := Lib.frozen_of_heap ko.here 3
        have cz4 := ko.here.cell 4 _ rfl
        have fz4 := Lib.frozen_of_heap ko.here 4
        have kr_c0 := kr.here.cell 0 _ rfl
        have kr_c1 := kr.here.cell 1 _ rfl
        have kr_c2 := kr.here.cell 2 _ rfl
        have kr_c3 := kr.here.cell 3 _ rfl
        have kr_c4 := kr.here.cell 4 _ rfl
        clear ko od oe kr ld
        go_wp2
        refine bodyPost_ret (v := .tuple #[.agg #[.string C, .string C2, .bool D.1.1, .slice Ad D.1.2.length cd, .int .i64 D.2], .bool true]) (by simp [results, Tryz.results39, go_sem, cz0, cz1, cz2, cz3, cz4]) rfl ?_
        rw [HV.out]
        exact HW.out
      · have HV := Lib.hid (B2.out ok)
        have ok' : okE (C, C2, D) = false := by simpa using ok
        rw [ok']
        clear ok ok'
        have cz0 := ko.here.cell 0 _ rfl
        have fz0 := Lib.frozen_of_heap ko.here 0
        have cz1 := ko.here.cell 1 _ rfl
        have fz1 := Lib.frozen_of_heap ko.here 1
        have cz2 := ko.here.cell 2 _ rfl
        have fz2 := Lib.frozen_of_heap ko.here 2
        have cz3 := ko.here.cell 3 _ rfl
        have fz3 := Lib.frozen_of_heap ko.here 3
        have cz4 := ko.here.cell 4 _ rfl
        have fz4 := Lib.frozen_of_heap ko.here 4
        clear ko od oe kr
        go_wp2
        refine bodyPost_ret (v := .tuple #[.agg #[.string ⟨#[]⟩, .string ⟨#[]⟩, .bool false, .slice none 0 0, .int .i64 0], .bool false]) (by simp [results, Tryz.results39, go_sem, cz0, cz1, cz2, cz3, cz4]) rfl ?_
        rw [HV.out]
        first | exact newEb_zero _ bb5 | exact newEb_zero _ (below_set5 bb5 (by omega))
  · have HV := Lib.hid hz
    have hne1 : (((PC.length : Nat) : Int) != 3) = true := by simp; omega
    have hne2 : (((PC.length : Nat) : Int) == 3) = false := by simp; omega
    clear hne ov
    have cz0 := ko.here.cell 0 _ rfl
    have fz0 := Lib.frozen_of_heap ko.here 0
    have cz1 := ko.here.cell 1 _ rfl
    have fz1 := Lib.frozen_of_heap ko.here 1
    have cz2 := ko.here.cell 2 _ rfl
    have fz2 := Lib.frozen_of_heap ko.here 2
    have cz3 := ko.here.cell 3 _ rfl
    have fz3 := Lib.frozen_of_heap ko.here 3
    have cz4 := ko.here.cell 4 _ rfl
    have fz4 := Lib.frozen_of_heap ko.here 4
    clear ko
    go_wp2
    refine bodyPost_ret (v := .tuple #[.agg #[.string ⟨#[]⟩, .string ⟨#[]⟩, .bool false, .slice none 0 0, .int .i64 0], .bool false]) (by simp [results, Tryz.results39, go_sem, cz0, cz1, cz2, cz3, cz4]) rfl ?_
    rw [HV.out]
    first | exact newEb_zero _ bb1 | exact newEb_zero _ (below_set5 bb1 (by omega))
end Go.Proofs.YtbpfabicampdkaaGreatDoor
