/-
  Chapter 11 of package spec: what RateText returns.
-/
import Derived.Test.YtbpfabicampdkaaDoorJA7
namespace Go.Proofs.YtbpfabicampdkaaDoor
open Go.RowKit

set_option maxHeartbeats 4000000 in
set_option maxRecDepth 100000 in
theorem specRateText_any (vr : Value) (r : EI) (w : World) (hl : r.2.2.1.2.length ≤ 1048576) (hr : OwnE vr r w) :
    Calls Tryd.prog 22 #[vr] w (PostT (textE r) w) := by
  have Hr := Lib.hid hr
  obtain ⟨Ar, cr, rfl⟩ := ownE_form hr
  have OEr := Lib.hid (show ∀ W, Below w.heap.size w W → OwnE (.agg #[.string r.1, .string r.2.1, .bool r.2.2.1.1, .slice Ar r.2.2.1.2.length cr, .int .i64 r.2.2.2]) r W from fun W hb => OwnE.below Hr.out hb)
  have OIr := Lib.hid (show ∀ W, Below w.heap.size w W → OwnI (.slice Ar r.2.2.1.2.length cr) r.2.2.1.2 W from fun W hb => ownE_open (OEr.out W hb))
  have ODr := Lib.hid (show ∀ W, Below w.heap.size w W → OwnD (.agg #[.bool r.2.2.1.1, .slice Ar r.2.2.1.2.length cr, .int .i64 r.2.2.2]) r.2.2 W from fun W hb => OwnD.mk (OIr.out W hb))
  have OSr := Lib.hid (show ∀ W, Below w.heap.size w W → OwnS (.agg #[.bool r.2.2.1.1, .slice Ar r.2.2.1.2.length cr]) r.2.2.1 W from fun W hb => OwnS.mk (OIr.out W hb))
  clear hr
  have bb0 : Below w.heap.size w (w.alloc (.cells #[.string r.1, .string r.2.1, .bool r.2.2.1.1, .slice Ar r.2.2.1.2.length cr, .int .i64 r.2.2.2] 35)) := below_al (Below.refl _ _) _
  have kr := (box_new w #[.string r.1, .string r.2.1, .bool r.2.2.1.1, .slice Ar r.2.2.1.2.length cr, .int .i64 r.2.2.2] 35)
  go_enter Tryd.func22, Tryd.ntmps22
  have kr_c0 := kr.here.cell 0 _ rfl
  have kr_c1 := kr.here.cell 1 _ rfl
  have kr_c2 := kr.here.cell 2 _ rfl
  have kr_c3 := kr.here.cell 3 _ rfl
  have kr_c4 := kr.here.cell 4 _ rfl
  go_wp2_with fail
  clear kr_c0 kr_c1 kr_c2 kr_c3 kr_c4
  refine (specRateOk_any _ r _ hl (OEr.out _ bb0)).mono ?_
  rintro e w1 ⟨rfl, b1⟩
  have bb1 := Below.next bb0 b1
  replace kr := kr.below b1
  by_cases ok : okE r = true
  · rw [ok]
    have HV := Lib.hid (textE_yes ok)
    obtain ⟨hs1, hs2, hs3⟩ := textE_sizes ok
    clear ok
    have ha0 : r.1.size + 1 ≤ 9223372036854775807 := by omega
    have hb0 : ¬ 9223372036854775807 < r.1.size + 1 := by omega
    have ha1 : r.1.size + 1 + r.2.1.size ≤ 9223372036854775807 := by omega
    have hb1 : ¬ 9223372036854775807 < r.1.size + 1 + r.2.1.size := by omega
    have ha2 : r.1.size + 1 + r.2.1.size + 1 ≤ 9223372036854775807 := by omega
    have hb2 : ¬ 9223372036854775807 < r.1.size + 1 + r.2.1.size + 1 := by omega
    have ha3 : r.1.size + 1 + r.2.1.size + 1 + (textD r.2.2).size ≤ 9223372036854775807 := by omega
    have hb3 : ¬ 9223372036854775807 < r.1.size + 1 + r.2.1.size + 1 + (textD r.2.2).size := by omega
    have hc0 : ¬ 9223372036854775807 ≤ r.1.size := by omega
    have hd0 : r.1.size < 9223372036854775807 := by omega
    have hc1 : ¬ 9223372036854775807 ≤ r.1.size + 1 + r.2.1.size := by omega
    have hd1 : r.1.size + 1 + r.2.1.size < 9223372036854775807 := by omega
    have kr_c0 := kr.here.cell 0 _ rfl
    have kr_c1 := kr.here.cell 1 _ rfl
    have kr_c2 := kr.here.cell 2 _ rfl
    have kr_c3 := kr.here.cell 3 _ rfl
    have kr_c4 := kr.here.cell 4 _ rfl
    go_wp2_with fail
    have HC0 := Lib.hid (show Chg [] w1 w1.drew from (Chg.refl _ _).drew1)
    have HCr := Lib.hid (show Chg [] w1 w1 from Chg.refl _ _)
    have KL := Lib.hid (show ∀ W, Chg [] w1 W → W.cell? ⟨w.heap.size, 0, none⟩ = some (.string r.1) ∧ W.cell? ⟨w.heap.size, 1, none⟩ = some (.string r.2.1) ∧ W.cell? ⟨w.heap.size, 2, none⟩ = some (.bool r.2.2.1.1) ∧ W.cell? ⟨w.heap.size, 3, none⟩ = some (.slice Ar r.2.2.1.2.length cr) ∧ W.cell? ⟨w.heap.size, 4, none⟩ = some (.int .i64 r.2.2.2) ∧ Hid (Chg [] w1 W) from fun W hc => ⟨(kr.chg hc (fun i hi hm => by simp at hm)).here.cell 0 _ rfl, (kr.chg hc (fun i hi hm => by simp at hm)).here.cell 1 _ rfl, (kr.chg hc (fun i hi hm => by simp at hm)).here.cell 2 _ rfl, (kr.chg hc (fun i hi hm => by simp at hm)).here.cell 3 _ rfl, (kr.chg hc (fun i hi hm => by simp at hm)).here.cell 4 _ rfl, Lib.hid hc⟩)
    have BBF := Lib.hid (show ∀ W, Chg [] w1 W → Below w.heap.size w W from fun W hc => below_chg bb1 hc bb1.size (fun i hi => by simp at hi))
    clear kr_c0 kr_c1 kr_c2 kr_c3 kr_c4
    go_region_held3 (fun W => W.cell? ⟨w.heap.size, 0, none⟩ = some (.string r.1) ∧ W.cell? ⟨w.heap.size, 1, none⟩ = some (.string r.2.1) ∧ W.cell? ⟨w.heap.size, 2, none⟩ = some (.bool r.2.2.1.1) ∧ W.cell? ⟨w.heap.size, 3, none⟩ = some (.slice Ar r.2.2.1.2.length cr) ∧ W.cell? ⟨w.heap.size, 4, none⟩ = some (.int .i64 r.2.2.2) ∧ Hid (Chg [] w1 W))
      ((refine KL.out _ ?_; (first | exact HC2.out | exact HCr.out | exact HC0.out | exact HC2.out.drew1 | exact HCr.out.drew1 | exact HC0.out.drew1 | exact HC2.out.trans (Chg.of_below (below_al (Below.refl _ _) _)) | exact HCr.out.trans (Chg.of_below (below_al (Below.refl _ _) _)) | exact HC0.out.trans (Chg.of_below (below_al (Below.refl _ _) _)) | fail)))
      (first
        | (go_at_call 47; (have hBB := (‹_ ∧ _ ∧ _ ∧ _ ∧ _ ∧ Hid (Chg [] w1 _)›).2.2.2.2.2); (with_reducible refine (specDecText_any _ r.2.2 _ hl (ODr.out _ (BBF.out _ hBB.out))).mono ?_); rintro e w2 ⟨rfl, b2⟩; have HC2 := Lib.hid (hBB.out.trans (Chg.of_below b2)); have HBZ2 := Lib.hid hBB.out.size; clear hBB))
    all_goals
      have bb2 := BBF.out _ HC2.out
      replace kr := kr.chg HC2.out (fun i hi hm => by simp at hm)
      go_wp2
      go_ret
      exact ⟨ret_str HV.out.symm, bb2⟩
  · have ok' : okE r = false := by simpa using ok
    have HV := Lib.hid (textE_no ok)
    rw [ok']
    clear ok ok'
    go_wp2
    go_ret
    exact ⟨ret_str HV.out.symm, bb1⟩
end Go.Proofs.YtbpfabicampdkaaDoor
