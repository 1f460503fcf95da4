/-
  Chapter 11 of package impl: what TextRate returns.
-/
import Derived.Test.YtbpfabicampdkaaGreatDoorRateRead0
import Derived.Test.YtbpfabicampdkaaGreatDoorJB11
namespace Go.Proofs.YtbpfabicampdkaaGreatDoor
open Go.RowKit

theorem readE_is {s : ByteArray} {D : DI} {b : Bool} (h : trD (tlM (tlM s)) = (D, b)) : readE s = (hdM s, hdM (tlM s), D) := by unfold readE; rw [h]
set_option maxHeartbeats 4000000 in
set_option maxRecDepth 100000 in
theorem implTextRate_any (s : ByteArray) (w : World) (hs : s.size ≤ 1048576) (ht : CurTab w) (hd : Tab w) :
    Calls Tryz.prog 23 #[.string s] w (PostEb (trE s).1 (trE s).2 w) := by
  have HT := Lib.hid ht
  clear ht
  have HD := Lib.hid hd
  clear hd
  have bb0 : Below w.heap.size w (w.alloc (.cells #[.string ⟨#[]⟩, .string ⟨#[]⟩, .bool false, .slice none 0 0, .int .i64 0] 41)) := below_al (Below.refl _ _) _
  have ko := (box_new w #[.string ⟨#[]⟩, .string ⟨#[]⟩, .bool false, .slice none 0 0, .int .i64 0] 41)
  have hts := hd_tl_size s
  have hts2 := hd_tl_size (tlM s)
  obtain ⟨⟨D, db⟩, hD⟩ : ∃ D, trD (tlM (tlM s)) = D := ⟨_, rfl⟩
  have ED := Lib.hid hD
  have hDl : D.1.2.length ≤ 1048576 := by have h := szD_len (trD_sz (tlM (tlM s))); rw [hD] at h; exact h
  have hRE := readE_is hD
  have B1 := Lib.hid (show db = false → trE s = (zeroE, false) from fun h => trE_bad1 (by rw [hD]; exact h))
  have B2 := Lib.hid (show ¬ okE (hdM s, hdM (tlM s), D) = true → trE s = (zeroE, false) from fun h => trE_bad2 (by rw [hRE]; exact h))
  have B3 := Lib.hid (show db = true → okE (hdM s, hdM (tlM s), D) = true → trE s = ((hdM s, hdM (tlM s), D), true) from fun h1 h2 => by have h := trE_good (s := s) (by rw [hD]; exact h1) (by rw [hRE]; exact h2); rw [hRE] at h; exact h)
  clear hD hRE
  obtain ⟨P, hP⟩ : ∃ P, trE s = P := ⟨_, rfl⟩
  rw [hP] at B1 B2 B3 ⊢
  clear hP
  go_enter Tryz.func23, Tryz.ntmps23
  go_wp2_with fail
  refine (cutM_any s _ hs).mono ?_
  rintro e w1 ⟨bc, rfl, b1⟩
  have z1 : w.heap.size + 1 ≤ w1.heap.size := by have := b1.size; simp at this; omega
  have bb1 := Below.next bb0 b1
  replace ko := ko.below b1
  go_wp2_with fail
  refine (cutM_any (tlM s) _ (by omega)).mono ?_
  rintro e w2 ⟨bc2, rfl, b2⟩
  have z2 := b2.size
  have bb2 := Below.next bb1 b2
  replace ko := ko.below b2
  generalize hdM s = C at *
  generalize hdM (tlM s) = C2 at *
  generalize tlM (tlM s) = L2 at *
  go_wp2_with fail
  refine ((implTextDec_any L2 _ (by omega) (HD.out.below bb2)).mono fun _ _ h => postDb_is ED.out h).mono ?_
  rintro e w3 ⟨ud, Sd, rfl, od, ld, b3⟩
  obtain ⟨Ad, cd, rfl⟩ := ownD_form od.here
  have bb3 := Below.next bb2 b3
  replace ko := ko.below b3
  have kd := box_new (w3) #[.bool D.1.1, .slice Ad D.1.2.length cd, .int .i64 D.2] 39
  have ald := below_al (Below.refl (w3).heap.size (w3)) (.cells #[.bool D.1.1, .slice Ad D.1.2.length cd, .int .i64 D.2] 39)
  have bbd := Below.next bb3 ald
  replace ko := ko.below ald
  replace od := od.below ald
  have kr := box_new ((w3.alloc (.cells #[.bool D.1.1, .slice Ad D.1.2.length cd, .int .i64 D.2] 39))) #[.string C, .string C2, .bool D.1.1, .slice Ad D.1.2.length cd, .int .i64 D.2] 41
  have alr := below_al (Below.refl ((w3.alloc (.cells #[.bool D.1.1, .slice Ad D.1.2.length cd, .int .i64 D.2] 39))).heap.size ((w3.alloc (.cells #[.bool D.1.1, .slice Ad D.1.2.length cd, .int .i64 D.2] 39)))) (.cells #[.string C, .string C2, .bool D.1.1, .slice Ad D.1.2.length cd, .int .i64 D.2] 41)
  have bbr := Below.next bbd alr
  replace ko := ko.below alr
  replace od := od.below alr
  replace kd := kd.below alr
  rw [show (w3.alloc (.cells #[.bool D.1.1, .slice Ad D.1.2.length cd, .int .i64 D.2] 39)).heap.size = w3.heap.size + 1 by simp] at kr
  have oe := od.imp fun _ h => (OwnE.mk (q := (C, C2, D)) (ownD_open h) : OwnE (.agg #[.string C, .string C2, .bool D.1.1, .slice Ad D.1.2.length cd, .int .i64 D.2]) (C, C2, D) _)
  have kd_c0 := kd.here.cell 0 _ rfl
  have kd_c1 := kd.here.cell 1 _ rfl
  have kd_c2 := kd.here.cell 2 _ rfl
  cases db with
  | false =>
    have HV := Lib.hid (B1.out (by simp))
    have cz0 := ko.here.cell 0 _ rfl
    have fz0 := Lib.frozen_of_heap ko.here 0
    have cz1 := ko.here.cell 1 _ rfl
    have fz1 := Lib.frozen_of_heap ko.here 1
    have cz2 := ko.here.cell 2 _ rfl
    have fz2 := Lib.frozen_of_heap ko.here 2
    have cz3 := ko.here.cell 3 _ rfl
    have fz3 := Lib.frozen_of_heap ko.here 3
    have cz4 := ko.here.cell 4 _ rfl
    have fz4 := Lib.frozen_of_heap ko.here 4
    clear ko od kd kr oe
    go_wp2
    refine bodyPost_ret (v := .tuple #[.agg #[.string ⟨#[]⟩, .string ⟨#[]⟩, .bool false, .slice none 0 0, .int .i64 0], .bool false]) (by simp [results, Tryz.results23, go_sem, cz0, cz1, cz2, cz3, cz4]) rfl ?_
    rw [HV.out]
    first | exact newEb_zero _ bbr | exact newEb_zero _ (below_set5 bbr (by omega))
  | true =>
    have kr_c0 := kr.here.cell 0 _ rfl
    have kr_c1 := kr.here.cell 1 _ rfl
    have kr_c2 := kr.here.cell 2 _ rfl
    have kr_c3 := kr.here.cell 3 _ rfl
    have kr_c4 := kr.here.cell 4 _ rfl
    go_wp2_with fail
    clear kd_c0 kd_c1 kd_c2 kr_c0 kr_c1 kr_c2 kr_c3 kr_c4
    refine (implRateOk_any _ (C, C2, D) _ hDl oe.here (HT.out.below bbr)).mono ?_
    rintro e w4 ⟨rfl, b4⟩
    have bb4 := Below.next bbr b4
    replace ko := ko.below b4
    replace od := od.below b4
    replace kd := kd.below b4
    replace kr := kr.below b4
    replace oe := oe.below b4
    by_cases ok : okE (C, C2, D) = true
    · have HV := Lib.hid (B3.out (by simp) ok)
      rw [ok]
      clear ok
      have HW := Lib.hid (newEb_at (r := w.heap.size) (b := true) (B := w.heap.size + 1) oe (fun i hi => ⟨by have := (ld i hi).1; omega, oe.lt i hi⟩) (by omega) (Nat.le_refl _) bb4)
      have cz0 := ko.here.cell 0 _ rfl
      have fz0 := Lib.frozen_of_heap ko.here 0
      have cz1 := ko.here.cell 1 _ rfl
      have fz1 := Lib.frozen_of_heap ko.here 1
      have cz2 := ko.here.cell 2 _ rfl
      have fz2 := Lib.frozen_of_heap ko.here 2
      have cz3 := ko.here.cell 3 _ rfl
      have fz3 := Lib.frozen_of_heap ko.here 3
      have cz4 := ko.here.cell 4 _ rfl
      have fz4 := Lib.frozen_of_heap ko.here 4
      have kr_c0 := kr.here.cell 0 _ rfl
      have kr_c1 := kr.here.cell 1 _ rfl
      have kr_c2 := kr.here.cell 2 _ rfl
      have kr_c3 := kr.here.cell 3 _ rfl
      have kr_c4 := kr.here.cell 4 _ rfl
      clear ko od kd kr oe ld
      go_wp2
      refine bodyPost_ret (v := .tuple #[.agg #[.string C, .string C2, .bool D.1.1, .slice Ad D.1.2.length cd, .int .i64 D.2], .bool true]) (by simp [results, Tryz.results23, go_sem, cz0, cz1, cz2, cz3, cz4]) rfl ?_
      rw [HV.out]
      exact HW.out
    · have HV := Lib.hid (B2.out ok)
      have ok' : okE (C, C2, D) = false := by simpa using ok
      rw [ok']
      clear ok ok'
      have cz0 := ko.here.cell 0 _ rfl
      have fz0 := Lib.frozen_of_heap ko.here 0
      have cz1 := ko.here.cell 1 _ rfl
      have fz1 := Lib.frozen_of_heap ko.here 1
      have cz2 := ko.here.cell 2 _ rfl
      have fz2 := Lib.frozen_of_heap ko.here 2
      have cz3 := ko.here.cell 3 _ rfl
      have fz3 := Lib.frozen_of_heap ko.here 3
      have cz4 := ko.here.cell 4 _ rfl
      have fz4 := Lib.frozen_of_heap ko.here 4
      clear ko od kd kr oe
      go_wp2
      refine bodyPost_ret (v := .tuple #[.agg #[.string ⟨#[]⟩, .string ⟨#[]⟩, .bool false, .slice none 0 0, .int .i64 0], .bool false]) (by simp [results, Tryz.results23, go_sem, cz0, cz1, cz2, cz3, cz4]) rfl ?_
      rw [HV.out]
      first | exact newEb_zero _ bb4 | exact newEb_zero _ (below_set5 bb4 (by omega))
end Go.Proofs.YtbpfabicampdkaaGreatDoor
