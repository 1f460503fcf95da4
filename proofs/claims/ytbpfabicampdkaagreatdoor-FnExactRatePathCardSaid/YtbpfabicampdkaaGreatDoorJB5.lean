/-
  Chapter 11 of package impl: where the rate of a pair stands.
  A map that counts pairs: one step of 'counts[k]++', whatever its order; what the map holds, in plain words.
  Chapter 11 of package impl: whether no pair is counted twice (pairsDiffer).
  Chapter 11 of package impl: RatesOk.
  Plain facts on fractions: a signed numerator, the limbs of a denominator.
  Values of type impl.Rat: what laws.toRat, eqRat, markRat, heldRat and szRat return.
  The words that kind R, impl.Rat, answers to: to, eq, sz, mark, held.
  Chapter 6 of package spec: what its functions on fractions return (begun: l05Gcd).
  What RatOk of package spec returns.
  What l05Low of package spec returns: a fraction in lowest terms.
  Plain facts on the parts of fractions: how long products and sums of theirs are.
-/
import Derived.Shelf.Abstract
import Derived.Maps.RangeWalk
import Derived.WideKeyEntry
import Derived.DeepKeys4
import Derived.Carry
import Derived.Deep.RegionHeld3
import Derived.Deep.DeepCutAuto
import Derived.Test.YtbpfabicampdkaaGreatDoorJB4
namespace Go.Proofs.YtbpfabicampdkaaGreatDoor
open Go.RowKit

set_option maxHeartbeats 2000000 in
set_option maxRecDepth 100000 in
theorem rateAt1_any (vr : Value) (r : EI) (B : Nat) (p q : ByteArray) (w : World) (hr : RdE w vr r) (kp : At [B] (BoxAt B #[.string p, .string q] 101) w) :
    Calls Tryz.prog 120 #[vr, .pointer (some ⟨B, 0, none⟩)] w (Postb (decide (r.1 = p) && decide (r.2.1 = q)) w) := by
  have HR := Lib.hid (show ∀ W, Below w.heap.size w W → RdE W vr r from fun W hb => hr.below hb)
  obtain ⟨Ar, cr, rfl⟩ := rdE_form hr
  clear hr
  have hB := kp.lt B (by simp)
  have bb0 : Below w.heap.size w (w.alloc (.cells #[.string r.1, .string r.2.1, .bool r.2.2.1.1, .slice Ar r.2.2.1.2.length cr, .int .i64 r.2.2.2] 41)) := below_al (Below.refl _ _) _
  have kr := (box_new w #[.string r.1, .string r.2.1, .bool r.2.2.1.1, .slice Ar r.2.2.1.2.length cr, .int .i64 r.2.2.2] 41)
  replace kp := kp.below bb0
  by_cases h1 : r.1 = p
  · have e1 : (r.1.toList == p.toList) = true := by rw [h1]; exact beq_self_eq_true _
    by_cases h2 : r.2.1 = q
    · have e2 : (r.2.1.toList == q.toList) = true := by rw [h2]; exact beq_self_eq_true _
      have HV := Lib.hid (show (decide (r.1 = p) && decide (r.2.1 = q)) = true by rw [decide_eq_true h1, decide_eq_true h2]; rfl)
      clear h1 h2
      go_enter Tryz.func120, Tryz.ntmps120
      have kr_c0 := kr.here.cell 0 _ rfl
      have kr_c1 := kr.here.cell 1 _ rfl
      have kr_c2 := kr.here.cell 2 _ rfl
      have kr_c3 := kr.here.cell 3 _ rfl
      have kr_c4 := kr.here.cell 4 _ rfl
      have kp_c0 := kp.here.cell 0 _ rfl
      have kp_c1 := kp.here.cell 1 _ rfl
      go_wp2_with fail
      have HC0 := Lib.hid (show Chg [] (w.alloc (.cells #[.string r.1, .string r.2.1, .bool r.2.2.1.1, .slice Ar r.2.2.1.2.length cr, .int .i64 r.2.2.2] 41)) (w.alloc (.cells #[.string r.1, .string r.2.1, .bool r.2.2.1.1, .slice Ar r.2.2.1.2.length cr, .int .i64 r.2.2.2] 41)).drew from (Chg.refl _ _).drew1)
      have HCr := Lib.hid (show Chg [] (w.alloc (.cells #[.string r.1, .string r.2.1, .bool r.2.2.1.1, .slice Ar r.2.2.1.2.length cr, .int .i64 r.2.2.2] 41)) (w.alloc (.cells #[.string r.1, .string r.2.1, .bool r.2.2.1.1, .slice Ar r.2.2.1.2.length cr, .int .i64 r.2.2.2] 41)) from Chg.refl _ _)
      have KL := Lib.hid (show ∀ W, Chg [] (w.alloc (.cells #[.string r.1, .string r.2.1, .bool r.2.2.1.1, .slice Ar r.2.2.1.2.length cr, .int .i64 r.2.2.2] 41)) W → W.cell? ⟨w.heap.size, 0, none⟩ = some (.string r.1) ∧ W.cell? ⟨w.heap.size, 1, none⟩ = some (.string r.2.1) ∧ W.cell? ⟨w.heap.size, 2, none⟩ = some (.bool r.2.2.1.1) ∧ W.cell? ⟨w.heap.size, 3, none⟩ = some (.slice Ar r.2.2.1.2.length cr) ∧ W.cell? ⟨w.heap.size, 4, none⟩ = some (.int .i64 r.2.2.2) ∧ W.cell? ⟨B, 0, none⟩ = some (.string p) ∧ W.cell? ⟨B, 1, none⟩ = some (.string q) ∧ Hid (Chg [] (w.alloc (.cells #[.string r.1, .string r.2.1, .bool r.2.2.1.1, .slice Ar r.2.2.1.2.length cr, .int .i64 r.2.2.2] 41)) W) from fun W hc => ⟨(kr.chg hc (fun i hi hm => by simp at hm)).here.cell 0 _ rfl, (kr.chg hc (fun i hi hm => by simp at hm)).here.cell 1 _ rfl, (kr.chg hc (fun i hi hm => by simp at hm)).here.cell 2 _ rfl, (kr.chg hc (fun i hi hm => by simp at hm)).here.cell 3 _ rfl, (kr.chg hc (fun i hi hm => by simp at hm)).here.cell 4 _ rfl, (kp.chg hc (fun i hi hm => by simp at hm)).here.cell 0 _ rfl, (kp.chg hc (fun i hi hm => by simp at hm)).here.cell 1 _ rfl, Lib.hid hc⟩)
      have BBF := Lib.hid (show ∀ W, Chg [] (w.alloc (.cells #[.string r.1, .string r.2.1, .bool r.2.2.1.1, .slice Ar r.2.2.1.2.length cr, .int .i64 r.2.2.2] 41)) W → Below w.heap.size w W from fun W hc => below_chg bb0 hc bb0.size (fun i hi => by simp at hi))
      clear kr_c0 kr_c1 kr_c2 kr_c3 kr_c4 kp_c0 kp_c1
      go_region_held3 (fun W => W.cell? ⟨w.heap.size, 0, none⟩ = some (.string r.1) ∧ W.cell? ⟨w.heap.size, 1, none⟩ = some (.string r.2.1) ∧ W.cell? ⟨w.heap.size, 2, none⟩ = some (.bool r.2.2.1.1) ∧ W.cell? ⟨w.heap.size, 3, none⟩ = some (.slice Ar r.2.2.1.2.length cr) ∧ W.cell? ⟨w.heap.size, 4, none⟩ = some (.int .i64 r.2.2.2) ∧ W.cell? ⟨B, 0, none⟩ = some (.string p) ∧ W.cell? ⟨B, 1, none⟩ = some (.string q) ∧ Hid (Chg [] (w.alloc (.cells #[.string r.1, .string r.2.1, .bool r.2.2.1.1, .slice Ar r.2.2.1.2.length cr, .int .i64 r.2.2.2] 41)) W))
        ((refine KL.out _ ?_; (first | exact HC1.out | exact HCr.out | exact HC0.out | exact HC1.out.drew1 | exact HCr.out.drew1 | exact HC0.out.drew1 | exact HC1.out.trans (Chg.of_below (below_al (Below.refl _ _) _)) | exact HCr.out.trans (Chg.of_below (below_al (Below.refl _ _) _)) | exact HC0.out.trans (Chg.of_below (below_al (Below.refl _ _) _)) | fail)))
        (first
          | (go_at_call 63; (have hBB := (‹_ ∧ _ ∧ _ ∧ _ ∧ _ ∧ _ ∧ _ ∧ Hid (Chg [] (w.alloc (.cells #[.string r.1, .string r.2.1, .bool r.2.2.1.1, .slice Ar r.2.2.1.2.length cr, .int .i64 r.2.2.2] 41)) _)›).2.2.2.2.2.2.2); (with_reducible refine (pairOf_any _ r _ (HR.out _ (BBF.out _ hBB.out))).mono ?_); rintro e w1 ⟨rfl, b1⟩; have HC1 := Lib.hid (hBB.out.trans (Chg.of_below b1)); have HBZ1 := Lib.hid hBB.out.size; clear hBB))
      have bb1 := BBF.out _ HC1.out
      replace kr := kr.chg HC1.out (fun i hi hm => by simp at hm)
      replace kp := kp.chg HC1.out (fun i hi hm => by simp at hm)
      clear HC0 HCr KL BBF kr kp
      go_wp2
      go_ret
      exact ⟨ret_bool HV.out.symm, bb1⟩
    · have e2 := bytes_neC h2
      have HV := Lib.hid (show (decide (r.1 = p) && decide (r.2.1 = q)) = false by rw [decide_eq_false h2, Bool.and_false])
      clear h1 h2
      go_enter Tryz.func120, Tryz.ntmps120
      have kr_c0 := kr.here.cell 0 _ rfl
      have kr_c1 := kr.here.cell 1 _ rfl
      have kr_c2 := kr.here.cell 2 _ rfl
      have kr_c3 := kr.here.cell 3 _ rfl
      have kr_c4 := kr.here.cell 4 _ rfl
      have kp_c0 := kp.here.cell 0 _ rfl
      have kp_c1 := kp.here.cell 1 _ rfl
      go_wp2_with fail
      have HC0 := Lib.hid (show Chg [] (w.alloc (.cells #[.string r.1, .string r.2.1, .bool r.2.2.1.1, .slice Ar r.2.2.1.2.length cr, .int .i64 r.2.2.2] 41)) (w.alloc (.cells #[.string r.1, .string r.2.1, .bool r.2.2.1.1, .slice Ar r.2.2.1.2.length cr, .int .i64 r.2.2.2] 41)).drew from (Chg.refl _ _).drew1)
      have HCr := Lib.hid (show Chg [] (w.alloc (.cells #[.string r.1, .string r.2.1, .bool r.2.2.1.1, .slice Ar r.2.2.1.2.length cr, .int .i64 r.2.2.2] 41)) (w.alloc (.cells #[.string r.1, .string r.2.1, .bool r.2.2.1.1, .slice Ar r.2.2.1.2.length cr, .int .i64 r.2.2.2] 41)) from Chg.refl _ _)
      have KL := Lib.hid (show ∀ W, Chg [] (w.alloc (.cells #[.string r.1, .string r.2.1, .bool r.2.2.1.1, .slice Ar r.2.2.1.2.length cr, .int .i64 r.2.2.2] 41)) W → W.cell? ⟨w.heap.size, 0, none⟩ = some (.string r.1) ∧ W.cell? ⟨w.heap.size, 1, none⟩ = some (.string r.2.1) ∧ W.cell? ⟨w.heap.size, 2, none⟩ = some (.bool r.2.2.1.1) ∧ W.cell? ⟨w.heap.size, 3, none⟩ = some (.slice Ar r.2.2.1.2.length cr) ∧ W.cell? ⟨w.heap.size, 4, none⟩ = some (.int .i64 r.2.2.2) ∧ W.cell? ⟨B, 0, none⟩ = some (.string p) ∧ W.cell? ⟨B, 1, none⟩ = some (.string q) ∧ Hid (Chg [] (w.alloc (.cells #[.string r.1, .string r.2.1, .bool r.2.2.1.1, .slice Ar r.2.2.1.2.length cr, .int .i64 r.2.2.2] 41)) W) from fun W hc => ⟨(kr.chg hc (fun i hi hm => by simp at hm)).here.cell 0 _ rfl, (kr.chg hc (fun i hi hm => by simp at hm)).here.cell 1 _ rfl, (kr.chg hc (fun i hi hm => by simp at hm)).here.cell 2 _ rfl, (kr.chg hc (fun i hi hm => by simp at hm)).here.cell 3 _ rfl, (kr.chg hc (fun i hi hm => by simp at hm)).here.cell 4 _ rfl, (kp.chg hc (fun i hi hm => by simp at hm)).here.cell 0 _ rfl, (kp.chg hc (fun i hi hm => by simp at hm)).here.cell 1 _ rfl, Lib.hid hc⟩)
      have BBF := Lib.hid (show ∀ W, Chg [] (w.alloc (.cells #[.string r.1, .string r.2.1, .bool r.2.2.1.1, .slice Ar r.2.2.1.2.length cr, .int .i64 r.2.2.2] 41)) W → Below w.heap.size w W from fun W hc => below_chg bb0 hc bb0.size (fun i hi => by simp at hi))
      clear kr_c0 kr_c1 kr_c2 kr_c3 kr_c4 kp_c0 kp_c1
      go_region_held3 (fun W => W.cell? ⟨w.heap.size, 0, none⟩ = some (.string r.1) ∧ W.cell? ⟨w.heap.size, 1, none⟩ = some (.string r.2.1) ∧ W.cell? ⟨w.heap.size, 2, none⟩ = some (.bool r.2.2.1.1) ∧ W.cell? ⟨w.heap.size, 3, none⟩ = some (.slice Ar r.2.2.1.2.length cr) ∧ W.cell? ⟨w.heap.size, 4, none⟩ = some (.int .i64 r.2.2.2) ∧ W.cell? ⟨B, 0, none⟩ = some (.string p) ∧ W.cell? ⟨B, 1, none⟩ = some (.string q) ∧ Hid (Chg [] (w.alloc (.cells #[.string r.1, .string r.2.1, .bool r.2.2.1.1, .slice Ar r.2.2.1.2.length cr, .int .i64 r.2.2.2] 41)) W))
        ((refine KL.out _ ?_; (first | exact HC1.out | exact HCr.out | exact HC0.out | exact HC1.out.drew1 | exact HCr.out.drew1 | exact HC0.out.drew1 | exact HC1.out.trans (Chg.of_below (below_al (Below.refl _ _) _)) | exact HCr.out.trans (Chg.of_below (below_al (Below.refl _ _) _)) | exact HC0.out.trans (Chg.of_below (below_al (Below.refl _ _) _)) | fail)))
        (first
          | (go_at_call 63; (have hBB := (‹_ ∧ _ ∧ _ ∧ _ ∧ _ ∧ _ ∧ _ ∧ Hid (Chg [] (w.alloc (.cells #[.string r.1, .string r.2.1, .bool r.2.2.1.1, .slice Ar r.2.2.1.2.length cr, .int .i64 r.2.2.2] 41)) _)›).2.2.2.2.2.2.2); (with_reducible refine (pairOf_any _ r _ (HR.out _ (BBF.out _ hBB.out))).mono ?_); rintro e w1 ⟨rfl, b1⟩; have HC1 := Lib.hid (hBB.out.trans (Chg.of_below b1)); have HBZ1 := Lib.hid hBB.out.size; clear hBB))
      have bb1 := BBF.out _ HC1.out
      replace kr := kr.chg HC1.out (fun i hi hm => by simp at hm)
      replace kp := kp.chg HC1.out (fun i hi hm => by simp at hm)
      clear HC0 HCr KL BBF kr kp
      go_wp2
      go_ret
      exact ⟨ret_bool HV.out.symm, bb1⟩
  · have e1 := bytes_neC h1
    have HV := Lib.hid (show (decide (r.1 = p) && decide (r.2.1 = q)) = false by rw [decide_eq_false h1, Bool.false_and])
    clear h1
    go_enter Tryz.func120, Tryz.ntmps120
    have kr_c0 := kr.here.cell 0 _ rfl
    have kr_c1 := kr.here.cell 1 _ rfl
    have kr_c2 := kr.here.cell 2 _ rfl
    have kr_c3 := kr.here.cell 3 _ rfl
    have kr_c4 := kr.here.cell 4 _ rfl
    have kp_c0 := kp.here.cell 0 _ rfl
    have kp_c1 := kp.here.cell 1 _ rfl
    go_wp2_with fail
    have HC0 := Lib.hid (show Chg [] (w.alloc (.cells #[.string r.1, .string r.2.1, .bool r.2.2.1.1, .slice Ar r.2.2.1.2.length cr, .int .i64 r.2.2.2] 41)) (w.alloc (.cells #[.string r.1, .string r.2.1, .bool r.2.2.1.1, .slice Ar r.2.2.1.2.length cr, .int .i64 r.2.2.2] 41)).drew from (Chg.refl _ _).drew1)
    have HCr := Lib.hid (show Chg [] (w.alloc (.cells #[.string r.1, .string r.2.1, .bool r.2.2.1.1, .slice Ar r.2.2.1.2.length cr, .int .i64 r.2.2.2] 41)) (w.alloc (.cells #[.string r.1, .string r.2.1, .bool r.2.2.1.1, .slice Ar r.2.2.1.2.length cr, .int .i64 r.2.2.2] 41)) from Chg.refl _ _)
    have KL := Lib.hid (show ∀ W, Chg [] (w.alloc (.cells #[.string r.1, .string r.2.1, .bool r.2.2.1.1, .slice Ar r.2.2.1.2.length cr, .int .i64 r.2.2.2] 41)) W → W.cell? ⟨w.heap.size, 0, none⟩ = some (.string r.1) ∧ W.cell? ⟨w.heap.size, 1, none⟩ = some (.string r.2.1) ∧ W.cell? ⟨w.heap.size, 2, none⟩ = some (.bool r.2.2.1.1) ∧ W.cell? ⟨w.heap.size, 3, none⟩ = some (.slice Ar r.2.2.1.2.length cr) ∧ W.cell? ⟨w.heap.size, 4, none⟩ = some (.int .i64 r.2.2.2) ∧ W.cell? ⟨B, 0, none⟩ = some (.string p) ∧ W.cell? ⟨B, 1, none⟩ = some (.string q) ∧ Hid (Chg [] (w.alloc (.cells #[.string r.1, .string r.2.1, .bool r.2.2.1.1, .slice Ar r.2.2.1.2.length cr, .int .i64 r.2.2.2] 41)) W) from fun W hc => ⟨(kr.chg hc (fun i hi hm => by simp at hm)).here.cell 0 _ rfl, (kr.chg hc (fun i hi hm => by simp at hm)).here.cell 1 _ rfl, (kr.chg hc (fun i hi hm => by simp at hm)).here.cell 2 _ rfl, (kr.chg hc (fun i hi hm => by simp at hm)).here.cell 3 _ rfl, (kr.chg hc (fun i hi hm => by simp at hm)).here.cell 4 _ rfl, (kp.chg hc (fun i hi hm => by simp at hm)).here.cell 0 _ rfl, (kp.chg hc (fun i hi hm => by simp at hm)).here.cell 1 _ rfl, Lib.hid hc⟩)
    have BBF := Lib.hid (show ∀ W, Chg [] (w.alloc (.cells #[.string r.1, .string r.2.1, .bool r.2.2.1.1, .slice Ar r.2.2.1.2.length cr, .int .i64 r.2.2.2] 41)) W → Below w.heap.size w W from fun W hc => below_chg bb0 hc bb0.size (fun i hi => by simp at hi))
    clear kr_c0 kr_c1 kr_c2 kr_c3 kr_c4 kp_c0 kp_c1
    go_region_held3 (fun W => W.cell? ⟨w.heap.size, 0, none⟩ = some (.string r.1) ∧ W.cell? ⟨w.heap.size, 1, none⟩ = some (.string r.2.1) ∧ W.cell? ⟨w.heap.size, 2, none⟩ = some (.bool r.2.2.1.1) ∧ W.cell? ⟨w.heap.size, 3, none⟩ = some (.slice Ar r.2.2.1.2.length cr) ∧ W.cell? ⟨w.heap.size, 4, none⟩ = some (.int .i64 r.2.2.2) ∧ W.cell? ⟨B, 0, none⟩ = some (.string p) ∧ W.cell? ⟨B, 1, none⟩ = some (.string q) ∧ Hid (Chg [] (w.alloc (.cells #[.string r.1, .string r.2.1, .bool r.2.2.1.1, .slice Ar r.2.2.1.2.length cr, .int .i64 r.2.2.2] 41)) W))
      ((refine KL.out _ ?_; (first | exact HC1.out | exact HCr.out | exact HC0.out | exact HC1.out.drew1 | exact HCr.out.drew1 | exact HC0.out.drew1 | exact HC1.out.trans (Chg.of_below (below_al (Below.refl _ _) _)) | exact HCr.out.trans (Chg.of_below (below_al (Below.refl _ _) _)) | exact HC0.out.trans (Chg.of_below (below_al (Below.refl _ _) _)) | fail)))
      (first
        | (go_at_call 63; (have hBB := (‹_ ∧ _ ∧ _ ∧ _ ∧ _ ∧ _ ∧ _ ∧ Hid (Chg [] (w.alloc (.cells #[.string r.1, .string r.2.1, .bool r.2.2.1.1, .slice Ar r.2.2.1.2.length cr, .int .i64 r.2.2.2] 41)) _)›).2.2.2.2.2.2.2); (with_reducible refine (pairOf_any _ r _ (HR.out _ (BBF.out _ hBB.out))).mono ?_); rintro e w1 ⟨rfl, b1⟩; have HC1 := Lib.hid (hBB.out.trans (Chg.of_below b1)); have HBZ1 := Lib.hid hBB.out.size; clear hBB))
    have bb1 := BBF.out _ HC1.out
    replace kr := kr.chg HC1.out (fun i hi hm => by simp at hm)
    replace kp := kp.chg HC1.out (fun i hi hm => by simp at hm)
    clear HC0 HCr KL BBF kr kp
    go_wp2
    go_ret
    exact ⟨ret_bool HV.out.symm, bb1⟩
theorem rateAt1_enters : ∀ (args : Array Value) (w : World), (callFunc 120 args).run Tryz.prog w = .ok (.enter 120 args) w := enters_of Tryz.func120 (by kernel_rfl) rfl
set_option maxHeartbeats 4000000 in
set_option maxRecDepth 100000 in
theorem indexE_any (v : Value) (l : List EI) (B : Nat) (p q : ByteArray) (w : World) (hl : l.length ≤ 140737488355328) (h : RdEL w v l) (kp : At [B] (BoxAt B #[.string p, .string q] 101) w) :
    Calls Tryz.prog 119 #[v, .func (.func 120) #[] #[.pointer (some ⟨B, 0, none⟩)]] w (Postn (posE l p q) w) := by
  obtain ⟨A, c, rfl, hc⟩ := h
  have HC := Lib.hid hc
  have KP := Lib.hid (show ∀ W, Below w.heap.size w W → At [B] (BoxAt B #[.string p, .string q] 101) W from fun W hb => kp.below hb)
  have he := rateAt1_enters
  clear hc kp
  go_enter Tryz.func119, Tryz.ntmps119
  go_wp2
  go_loopw [5, 8] (fun _ i wr => ∃ k : Nat, k ≤ l.length ∧ i = .int .i64 k ∧ Hid (k ≤ atE l p q) ∧ Below w.heap.size w wr) (fun _ i _ => l.length - (intOf i).toNat)
  case atStart => exact ⟨0, Nat.zero_le _, rfl, Lib.hid (Nat.zero_le _), Below.refl _ _⟩
  case round =>
    obtain ⟨k, hk, rfl, HK, hb⟩ := hrel
    by_cases hlt : k < l.length
    · obtain ⟨x, hxk⟩ : ∃ x, l[k]? = some x := ⟨_, List.getElem?_eq_getElem hlt⟩
      obtain ⟨a, u, rfl, ha, hc0, hc1, hc2, hc3, hc4, hr⟩ := HC.out k x hxk
      obtain ⟨A1, c1, rfl⟩ := row_form hr
      rw [intsV_length] at hc3 hr
      have k0 := (cell_keep5' hb ha k).trans hc0
      have k1 := (cell_keep5 hb ha k 1).trans hc1
      have k2 := (cell_keep5 hb ha k 2).trans hc2
      have k3 := (cell_keep5 hb ha k 3).trans hc3
      have k4 := (cell_keep5 hb ha k 4).trans hc4
      have hcall := rateAt1_any (.agg #[.string x.1, .string x.2.1, .bool x.2.2.1.1, .slice A1 x.2.2.1.2.length c1, .int .i64 x.2.2.2]) x B p q wr (RdE.below ⟨_, rfl, hr⟩ hb) (KP.out _ hb)
      have HB := Lib.hid hb
      clear hc0 hc1 hc2 hc3 hc4 hr ha hb
      by_cases hp : x.1 = p ∧ x.2.1 = q
      · have HV := Lib.hid (posE_hit HK.out hxk hp)
        rw [show (decide (x.1 = p) && decide (x.2.1 = q)) = true by rw [decide_eq_true hp.1, decide_eq_true hp.2]; rfl] at hcall
        clear hp hxk
        go_wp2_with (go_at_fn 120; refine hcall.mono ?_; rintro e w1 ⟨rfl, b1⟩)
        go_ret
        exact ⟨ret_int HV.out.symm, Below.next HB.out b1⟩
      · have HN := Lib.hid (atE_next HK.out hxk hp)
        rw [show (decide (x.1 = p) && decide (x.2.1 = q)) = false by
          by_cases h1 : x.1 = p
          · rw [decide_eq_false (fun h2 => hp ⟨h1, h2⟩), Bool.and_false]
          · rw [decide_eq_false h1, Bool.false_and]] at hcall
        clear hp hxk
        go_wp2_with (go_at_fn 120; refine hcall.mono ?_; rintro e w1 ⟨rfl, b1⟩)
        go_roundw
        case rel => exact ⟨k + 1, by omega, by go_num, HN, Below.next HB.out b1⟩
        case measure => simp [intOf]; omega
    · obtain rfl : k = l.length := by omega
      have HV := Lib.hid (posE_none HK.out)
      go_wp2
      go_ret
      exact ⟨ret_int HV.out.symm, hb⟩
set_option maxHeartbeats 2000000 in
set_option maxRecDepth 100000 in
theorem rateAt_any (v : Value) (l : List EI) (p q : ByteArray) (w : World) (hl : l.length ≤ 140737488355328) (h : RdEL w v l) :
    Calls Tryz.prog 62 #[v, .agg #[.string p, .string q]] w (Postn (posE l p q) w) := by
  have hcall := indexE_any v l w.heap.size p q _ hl (h.below (below_al (Below.refl _ _) (.cells #[.string p, .string q] 101))) (box_new w #[.string p, .string q] 101)
  obtain ⟨A, c, rfl, _⟩ := h
  go_enter Tryz.func62, Tryz.ntmps62
  go_wp2_with fail
  refine hcall.mono ?_
  rintro e w1 ⟨rfl, b1⟩
  have bb := Below.next (below_al (Below.refl _ _) _) b1
  go_wp2
  go_ret
  exact ⟨rfl, bb⟩
end Go.Proofs.YtbpfabicampdkaaGreatDoor

namespace Go.Proofs.YtbpfabicampdkaaGreatDoor
open Go.RowKit
open Go.ChangeMaps (setBlock heap_setBlock_same)
open Go.Maps (Keyed)

section
variable {H : Type} {P : Program} {k e t : TypeId} {R : Value → Option (DataW H × List MemPlace)} {w : World} {b n : Nat} {D : DataW H}
/-- behind the making of a place the map reads there as it did -/
theorem entry_world (K : WideMaps.KeyLaw P k) (ht : P.underlying t = some (.map k e)) {z : Value} (hz : ∀ u : World, (zeroValue e).run P u = .ok z u) (h : w.ownsMap P k R b n D) (hn : n < maxLen) {key : Value} {kl : Lit} (hkey : keyOf P k key = some kl) {zd : DataW H} {ps : List MemPlace} (hzd : R z = some (zd, ps))
    {v : Value} {W2 : World} (hrun : (Instr.mapEntry t (.map (some b)) key).run P w = .ok v W2) : ∃ D2, W2.ownsMap P k R b (n + 1) D2 ∧ D2.atKey kl zd = D.atKey kl zd := by
  have h0 := h
  have KK := Keyed.of_law K
  obtain ⟨es, clock, hb, F, hs, rfl⟩ := h
  rcases K.find w hkey es.toList F.keys with ⟨h1, h2⟩ | ⟨j, e0, h1, h2, h3⟩
  · obtain ⟨w', hup, hown, _⟩ := h0.update KK ht hn hkey hzd
    have e : W2 = w' := by
      simp [Instr.mapEntry, run_underlying ht, MapKept.run_getObj_map hb, K.check w false hkey, h1, hz, MapKept.run_setObj_map _ hb, Result.andThen] at hrun
      simp [Instr.mapUpdate, run_underlying ht, MapKept.run_getObj_map hb, K.check w false hkey, h1, MapKept.run_setObj_map _ hb, Result.andThen] at hup
      rw [← hrun.2, ← hup]
    subst e
    refine ⟨_, hown, ?_⟩
    rw [Maps.atKey_put_same ⟨_, rfl⟩ (KK.key hkey), WideElems.atKey_none K F hkey h2]
  · have hj : es[j]? = some e0 := by simpa using h2
    have hsame : es.modify j (fun e => { e with key := key }) = es := by
      apply Array.ext
      · simp
      · intro i i1 i2
        rw [Array.getElem_modify]
        split
        · rename_i hij
          subst hij
          have hj0 : es[j] = e0 := (Array.getElem?_eq_some_iff.1 hj).2
          rw [hj0, ← h3]
        · rfl
    simp [Instr.mapEntry, run_underlying ht, MapKept.run_getObj_map hb, K.check w false hkey, h1, hj, h3, K.stays w hkey, hsame, MapKept.run_setObj_map _ hb, Result.andThen] at hrun
    rw [← hrun.2]
    exact ⟨_, ⟨es, clock, heap_setBlock_same hb _, F, by omega, rfl⟩, rfl⟩
/-- one step of 'm[k]++' -/
theorem count_step (K : WideMaps.KeyLaw P k) (ht : P.underlying t = some (.map k e)) (he : P.underlying e = some (.int .i64)) (hz : ∀ u : World, (zeroValue e).run P u = .ok (.int .i64 0) u) (h : w.ownsMap P k (plainElem P e) b n D) (hn : n < maxLen) {key : Value} {kl : Lit} (hkey : keyOf P k key = some kl)
    {c : Int} (hc : D.atKey kl (.lit (.int .i64 0)) = .lit (.int .i64 c)) (hc0 : 0 ≤ c) (hc1 : c ≤ 1048576) :
    ∃ (v0 : Value) (st : Nat) (W2 W3 : World), (Instr.lookup t (.map (some b)) key false).run P w = .ok (.int .i64 c) w ∧ (Instr.lookup t (.map (some b)) key false).run P W2 = .ok (.int .i64 c) W2 ∧ (Instr.mapEntry t (.map (some b)) key).run P w = .ok (.tuple #[v0, .int .i64 st]) W2 ∧
      (Instr.entryStore t (.map (some b)) (.int .i64 st) (.int .i64 (c + 1))).run P W2 = .ok () W3 ∧ W3.ownsMap P k (plainElem P e) b (n + 1) (D.put kl (.lit (.int .i64 (c + 1)))) ∧ w.grownBy W3 (some b) := by
  have KK := Keyed.of_law K
  have wf0 : (Lit.int .i64 0).wf = true := by decide
  have wf1 : (Lit.int .i64 (c + 1)).wf = true := by simp [Lit.wf, IntKind.min, IntKind.max, IntKind.signed, IntKind.bits]; omega
  obtain ⟨c1, hl, hat, _⟩ := h.lookup_int KK ht he (hz w) hkey
  obtain rfl : c1 = c := by
    rw [hc] at hat
    injection hat with e1
    injection e1 with _ e1
    exact e1.symm
  have h' := h
  obtain ⟨es, clock, hb, F, hs, _⟩ := h'
  obtain ⟨v0, st, es1, clock1, hent, _, hst⟩ := WideElems.entry_then_store K ht hz hb F hkey
  obtain ⟨D2, h2, hat2⟩ := entry_world K ht hz h hn hkey (plainElem_int he wf0) hent
  obtain ⟨c2, hl2, hat2', _⟩ := h2.lookup_int KK ht he (hz _) hkey
  obtain rfl : c2 = c1 := by
    rw [hat2, hc] at hat2'
    injection hat2' with e1
    injection e1 with _ e1
    exact e1.symm
  obtain ⟨es', clock', hs', hup⟩ := hst _ (.int .i64 (c2 + 1)) (heap_setBlock_same hb _)
  obtain ⟨w', hup', hown, hgr⟩ := h.update KK ht hn hkey (plainElem_int he wf1)
  rw [hup] at hup'
  have ew : setBlock (setBlock w b (.map es1 clock1)) b (.map es' clock') = w' := by
    injection hup' with _ e1
    rw [← e1]
    simp [setBlock]
  refine ⟨v0, st, _, _, hl, hl2, hent, hs', ?_, ?_⟩
  · rw [ew]; exact hown
  · rw [ew]; exact hgr
end
/-! ### pairs as keys -/
theorem pairLaid : laidOutB Tryz.prog = true := by kernel_rfl
theorem pairRow : (101 : TypeId) < Tryz.prog.types.size := of_decide_eq_true (by kernel_rfl)
theorem pairWide : (match Tryz.prog.underlying 101 with | some (.array _ _) | some (.struct _) => true | _ => false) = true := by kernel_rfl
set_option maxRecDepth 100000 in
theorem pairLaw : WideMaps.KeyLaw Tryz.prog 101 := deep_law_laid pairLaid (m := 2) (by omega) pairRow (by kernel_rfl) pairWide
def pairV (a b : ByteArray) : Value := .agg #[.string a, .string b]
theorem pair_key (a b : ByteArray) (ha : a.size ≤ maxLen) (hb : b.size ≤ maxLen) : ∃ kl, keyOf Tryz.prog 101 (pairV a b) = some kl := by
  have hk : Tryz.prog.keyType 101 = true := by kernel_rfl
  have hc : Tryz.prog.cellsOf 101 = 2 := by kernel_rfl
  have hs : Tryz.prog.cellsOf 9 = 1 := by kernel_rfl
  have hf : (pairV a b).formed Tryz.prog 101 = true := by simp [pairV, Value.formed, Tryz.underlying101, hc]
  obtain ⟨n, hn⟩ : ∃ n, Tryz.prog.types.size = n + 1 := Nat.exists_eq_succ_of_ne_zero (Nat.ne_of_gt (Nat.lt_of_le_of_lt (Nat.zero_le _) pairRow))
  have hl : ∃ ls, Tryz.prog.keyLits (Tryz.prog.types.size + 1) 101 (pairV a b).cells.toList = some ls := by
    rw [hn]
    simp [Program.keyLits, Tryz.underlying101, Tryz.underlying9, pairV, Value.cells, hc, hs, ha, hb]
  obtain ⟨ls, hl⟩ := hl
  refine ⟨.string (keyBytes ls), ?_⟩
  unfold keyOf
  rw [Tryz.underlying101]
  dsimp only
  rw [hk, hf, hl]
  rfl
/-- what the map of counts holds -/
def CntD (D : DataW Unit) (l : List EI) : Prop :=
  (∀ a b kl, keyOf Tryz.prog 101 (pairV a b) = some kl → D.atKey kl (.lit (.int .i64 0)) = .lit (.int .i64 (cntE l a b))) ∧ ∀ kl, Maps.has D kl = true → ∃ r ∈ l, keyOf Tryz.prog 101 (pairV r.1 r.2.1) = some kl
theorem cntD_nil : CntD (.map []) [] := ⟨fun _ _ _ _ => rfl, fun kl h => by cases h⟩
theorem pairV_inj {a b p q : ByteArray} (h : pairV a b = pairV p q) : p = a ∧ q = b := by
  unfold pairV at h
  injection h with h
  simp at h
  exact ⟨h.1.symm, h.2.symm⟩
theorem cntD_put {D : DataW Unit} {l : List EI} {k : Nat} {x : EI} {kl : Lit} (hD : Maps.IsMap D) (h : CntD D (l.take k)) (hx : l[k]? = some x) (hk : keyOf Tryz.prog 101 (pairV x.1 x.2.1) = some kl) :
    CntD (D.put kl (.lit (.int .i64 ((cntE (l.take k) x.1 x.2.1 : Int) + 1)))) (l.take (k + 1)) := by
  have KK := Keyed.of_law pairLaw
  refine ⟨fun a b kl' hk' => ?_, fun kl' hh => ?_⟩
  · rw [cntE_take hx]
    by_cases e : kl' = kl
    · subst e
      obtain ⟨e1, e2⟩ := pairV_inj (KK.inj hk' hk)
      rw [Maps.atKey_put_same hD (KK.key hk), if_pos ⟨e1, e2⟩, e1, e2]
      rfl
    · rw [Maps.atKey_put_other e, h.1 a b kl' hk', if_neg]
      · rfl
      · rintro ⟨rfl, rfl⟩
        rw [hk] at hk'
        exact e (Option.some.inj hk').symm
  · have hmem : ∀ r ∈ l.take k, r ∈ l.take (k + 1) := fun r hr => by
      have hj := (List.getElem?_eq_some_iff.1 hx).1
      rw [List.take_succ_eq_append_getElem hj]
      exact List.mem_append_left _ hr
    by_cases e : kl' = kl
    · subst e
      refine ⟨x, ?_, hk⟩
      have hj := (List.getElem?_eq_some_iff.1 hx).1
      rw [List.take_succ_eq_append_getElem hj, (List.getElem?_eq_some_iff.1 hx).2]
      exact List.mem_append_right _ (List.mem_singleton.2 rfl)
    · rw [Maps.has_put_other e] at hh
      obtain ⟨r, hr, hkr⟩ := h.2 kl' hh
      exact ⟨r, hmem r hr, hkr⟩
end Go.Proofs.YtbpfabicampdkaaGreatDoor

namespace Go.Proofs.YtbpfabicampdkaaGreatDoor
open Go.RowKit
open Go.Maps (Keyed)

set_option maxHeartbeats 4000000 in
set_option maxRecDepth 100000 in
theorem pairsDiffer_any (v : Value) (l : List EI) (w : World) (hl : l.length ≤ 1048576) (hs : ∀ x ∈ l, x.1.size ≤ maxLen ∧ x.2.1.size ≤ maxLen) (h : RdEL w v l) :
    Calls Tryz.prog 71 #[v] w (Postb (differE l) w) := by
  obtain ⟨A, c, rfl, hc⟩ := h
  have HC := Lib.hid hc
  have HS := Lib.hid hs
  clear hc hs
  have hzI : ∀ u : World, (zeroValue 3).run Tryz.prog u = .ok (.int .i64 0) u := fun u => by kernel_rfl
  have HREL := Lib.hid (show ∃ (k : Nat) (D : DataW Unit), k ≤ l.length ∧ Value.int .i64 0 = .int .i64 k ∧ (w.alloc (.map #[] 0)).ownsMap Tryz.prog 101 (plainElem Tryz.prog 3) w.heap.size k D ∧ Hid (CntD D (l.take k)) ∧ Below w.heap.size w (w.alloc (.map #[] 0)) from ⟨0, .map [], Nat.zero_le _, rfl, World.ownsMap_made w _ _ _, Lib.hid cntD_nil, (Below.refl _ _).alloc (Nat.le_refl _) _⟩)
  have HZI := Lib.hid hzI
  clear hzI
  have hmm := @run_makeMap Tryz.prog
  go_enter Tryz.func71, Tryz.ntmps71
  go_wp2
  go_loopw [11] (fun i wr => ∃ (k : Nat) (D : DataW Unit), k ≤ l.length ∧ i = .int .i64 k ∧ wr.ownsMap Tryz.prog 101 (plainElem Tryz.prog 3) w.heap.size k D ∧ Hid (CntD D (l.take k)) ∧ Below w.heap.size w wr) (fun i _ => l.length - (intOf i).toNat)
  case atStart => exact HREL.out
  case round =>
    clear HREL
    obtain ⟨k, D, hk, rfl, hown, HD, hb⟩ := hrel
    by_cases hlt : k < l.length
    · obtain ⟨x, hxk⟩ : ∃ x, l[k]? = some x := ⟨_, List.getElem?_eq_getElem hlt⟩
      obtain ⟨a, u, rfl, ha, hc0, hc1, hc2, hc3, hc4, hr⟩ := HC.out k x hxk
      obtain ⟨A1, c1, rfl⟩ := row_form hr
      rw [intsV_length] at hc3 hr
      have k0 := (cell_keep5' hb ha k).trans hc0
      have k1 := (cell_keep5 hb ha k 1).trans hc1
      have k2 := (cell_keep5 hb ha k 2).trans hc2
      have k3 := (cell_keep5 hb ha k 3).trans hc3
      have k4 := (cell_keep5 hb ha k 4).trans hc4
      have hsz := HS.out x (List.mem_of_getElem? hxk)
      obtain ⟨kl, hkl⟩ := pair_key x.1 x.2.1 hsz.1 hsz.2
      have hbx := below_al (Below.refl wr.heap.size wr) (.cells #[.string x.1, .string x.2.1, .bool x.2.2.1.1, .slice A1 x.2.2.1.2.length c1, .int .i64 x.2.2.2] 41)
      have kx := box_new wr #[.string x.1, .string x.2.1, .bool x.2.2.1.1, .slice A1 x.2.2.1.2.length c1, .int .i64 x.2.2.2] 41
      have HRX := Lib.hid (show ∀ W, Below wr.heap.size wr W → RdE W (.agg #[.string x.1, .string x.2.1, .bool x.2.2.1.1, .slice A1 x.2.2.1.2.length c1, .int .i64 x.2.2.2]) x from fun W h => RdE.below (RdE.below ⟨_, rfl, hr⟩ hb) h)
      have HBX := Lib.hid hbx
      have HW := Lib.hid (show ∀ W1, Below wr.heap.size wr W1 → ∃ (v0 : Value) (st : Nat) (W2 W3 : World), (Instr.lookup 159 (.map (some w.heap.size)) (.agg #[.string x.1, .string x.2.1]) false).run Tryz.prog W1 = .ok (.int .i64 (cntE (l.take k) x.1 x.2.1)) W1 ∧ (Instr.lookup 159 (.map (some w.heap.size)) (.agg #[.string x.1, .string x.2.1]) false).run Tryz.prog W2 = .ok (.int .i64 (cntE (l.take k) x.1 x.2.1)) W2 ∧
          (Instr.mapEntry 159 (.map (some w.heap.size)) (.agg #[.string x.1, .string x.2.1])).run Tryz.prog W1 = .ok (.tuple #[v0, .int .i64 st]) W2 ∧ (Instr.entryStore 159 (.map (some w.heap.size)) (.int .i64 st) (.int .i64 (cntE (l.take k) x.1 x.2.1 + 1))).run Tryz.prog W2 = .ok () W3 ∧
          Hid (∃ D' : DataW Unit, W3.ownsMap Tryz.prog 101 (plainElem Tryz.prog 3) w.heap.size (k + 1) D' ∧ CntD D' (l.take (k + 1)) ∧ Below w.heap.size w W3) from fun W1 hb1 => by
        have ho1 := hown.kept (w' := W1) (row := none) ⟨hb1.os, hb1.tape, hb1.output, hb1.size, fun i hi _ => hb1.block i hi⟩ (by simp)
        have hcn := cntE_le (l.take k) x.1 x.2.1
        rw [List.length_take] at hcn
        obtain ⟨v0, st, W2, W3, q1, q2, q3, q4, q5, q6⟩ := count_step pairLaw Tryz.underlying159 Tryz.underlying3 HZI.out ho1 (by unfold maxLen; omega) hkl (HD.out.1 _ _ _ hkl) (by omega) (by omega)
        obtain ⟨es, hes, _⟩ := ho1.entries (Keyed.of_law pairLaw)
        exact ⟨v0, st, W2, W3, q1, q2, q3, q4, Lib.hid ⟨_, q5, cntD_put ⟨es, hes⟩ HD.out hxk hkl, (Below.next hb hb1).grown q6 (by have := hb.size; have := hb1.size; omega) (fun i hi => by cases hi; exact Nat.le_refl _)⟩⟩)
      have hcw : IntKind.i64.wrap ((cntE (l.take k) x.1 x.2.1 : Int) + 1) = (cntE (l.take k) x.1 x.2.1 : Int) + 1 := IntWalk.i64_in _ (by have := cntE_le (l.take k) x.1 x.2.1; rw [List.length_take] at this; omega)
      have kx_c0 := kx.here.cell 0 _ rfl
      have kx_c1 := kx.here.cell 1 _ rfl
      have kx_c2 := kx.here.cell 2 _ rfl
      have kx_c3 := kx.here.cell 3 _ rfl
      have kx_c4 := kx.here.cell 4 _ rfl
      clear hc0 hc1 hc2 hc3 hc4 hr ha hb hbx kx hown HD hkl hsz hxk
      generalize (cntE (l.take k) x.1 x.2.1 : Int) = cn at *
      go_wp2_with fail
      go_region_with (go_at_call 63; refine (pairOf_any _ x _ (HRX.out _ (Below.drew1 HBX.out))).mono ?_; rintro e w1 ⟨rfl, b1⟩; obtain ⟨v0, st, W2, W3, q1, q2, q3, q4, HQ⟩ := HW.out w1 ((Below.drew1 HBX.out).trans (b1.mono (by simp))))
      all_goals
        obtain ⟨D', r1, r2, r3⟩ := HQ.out
        go_wp2
        go_roundw
        case rel => exact ⟨k + 1, D', by omega, by go_num, r1, Lib.hid r2, r3⟩
        case measure => simp [intOf]; omega
    · obtain rfl : k = l.length := by omega
      have hd := HD.out
      rw [List.take_length] at hd
      obtain ⟨rb, hrb⟩ : ∃ r, r = wr.heap.size := ⟨_, rfl⟩
      have HD2 := Lib.hid hd
      clear HD hd HC
      go_wp2_with (first
        | (at_range; refine wpList_range_own _ rfl _ 159 rfl 101 3 (Keyed.of_law pairLaw) Tryz.underlying159 _ w.heap.size l.length D rfl hown ?_; intro w0 hrg0 hg0 hs0)
        | go_in)
      go_frame
      rw [← hrb] at hrg0
      have HSTART := Lib.hid (show ∃ (left : Lit → Bool) (cnt : Nat), w0.ranges Tryz.prog 101 (plainElem Tryz.prog 3) w.heap.size rb l.length D left cnt ∧ Hid (∀ a b kl, keyOf Tryz.prog 101 (pairV a b) = some kl → left kl = false → cntE l a b ≤ 1) ∧ Below w.heap.size w w0 from
        ⟨_, _, hrg0, Lib.hid (fun a b kl h1 h2 => by
          have h3 := HD2.out.1 a b kl h1
          rw [Maps.atKey_of_not_has h2] at h3
          injection h3 with h3
          injection h3 with _ h3
          omega), hb.grown hg0 hb.size (fun i hi => by cases hi)⟩)
      have HRB := Lib.hid (show w.heap.size ≤ rb by rw [hrb]; exact hb.size)
      clear hrg0 hg0 hs0 hb hown
      rw [← hrb]
      clear hrb
      go_loopw [7] (fun _ wr => ∃ (left : Lit → Bool) (cnt : Nat), wr.ranges Tryz.prog 101 (plainElem Tryz.prog 3) w.heap.size rb l.length D left cnt ∧ Hid (∀ a b kl, keyOf Tryz.prog 101 (pairV a b) = some kl → left kl = false → cntE l a b ≤ 1) ∧ Below w.heap.size w wr) (fun _ wr => wr.rangeLeft w.heap.size rb)
      case atStart => exact HSTART.out
      case round =>
        clear HSTART
        obtain ⟨left, cnt, hrg, HL, hb⟩ := hrel
        go_wp2_with (first
          | (at_next; refine wpList_next_ranges _ rfl _ rfl 101 (Keyed.of_law pairLaw) (plainElem Tryz.prog 3) (id : Value → Value) (Value.int .i64) (fun key kl _ => ⟨key, rfl⟩) (fun v y hv => by obtain ⟨c, rfl, _⟩ := plainElem_int_inv Tryz.underlying3 hv; exact ⟨c, rfl⟩) w.heap.size rb l.length D left cnt rfl hrg ?_ ?_)
          | go_in)
        · intro _ hl0
          have HV := Lib.hid (show differE l = true by
            unfold differE
            rw [List.all_eq_true]
            intro r hr
            obtain ⟨kl, hkl⟩ := pair_key r.1 r.2.1 (HS.out r hr).1 (HS.out r hr).2
            exact decide_eq_true (HL.out _ _ kl hkl (hl0 kl)))
          clear hrg HL
          go_wp2
          go_ret
          exact ⟨ret_bool HV.out.symm, hb⟩
        · intro x c kl ya yb w1 cnt1 hkey hlk hv hat hrg1 hlt1 hg1 hs1 hen
          obtain ⟨c', e1, e2, _⟩ := plainElem_int_inv Tryz.underlying3 hv
          cases e1
          cases e2
          obtain ⟨r, hr, hkr⟩ := HD2.out.2 kl (Maps.has_true_of_atKey hat)
          have hcn : c = (cntE l r.1 r.2.1 : Int) := by
            have h1 := HD2.out.1 _ _ kl hkr
            rw [hat] at h1
            injection h1 with h1
            injection h1 with _ h1
          have hb1 := hb.grown hg1 hb.size (fun i hi => by cases hi; exact HRB.out)
          by_cases h1 : 1 < c
          · have HV := Lib.hid (show differE l = false by
              rw [Bool.eq_false_iff]
              intro hd
              unfold differE at hd
              rw [List.all_eq_true] at hd
              have := hd r hr
              rw [decide_eq_true_eq] at this
              omega)
            have hd1 : decide ((1 : Int) < c) = true := decide_eq_true h1
            clear hrg hrg1 hv hat hkey hkr hr hcn hlk h1
            go_wp2
            go_ret
            exact ⟨ret_bool HV.out.symm, hb1⟩
          · have hd1 : decide ((1 : Int) < c) = false := decide_eq_false h1
            have HL2 := Lib.hid (show ∀ a b kl', keyOf Tryz.prog 101 (pairV a b) = some kl' → (left kl' && !kl'.sameKey kl) = false → cntE l a b ≤ 1 from fun a b kl' hk' hf => by
              by_cases e : kl' = kl
              · subst e
                have h2 := HD2.out.1 a b kl' hk'
                rw [hat] at h2
                injection h2 with h2
                injection h2 with _ h2
                omega
              · rw [Maps.sameKey_ne e] at hf
                exact HL.out a b kl' hk' (by simpa using hf))
            have HRG := Lib.hid hrg
            have HRG1 := Lib.hid hrg1
            have HB1 := Lib.hid hb1
            clear hrg hrg1 hv hat hkey hkr hr hcn hlk h1 hb hb1 HL
            go_wp2
            go_roundw
            case rel => exact ⟨_, cnt1, HRG1.out, HL2, HB1.out⟩
            case measure => rw [HRG1.out.left_eq, HRG.out.left_eq]; omega
end Go.Proofs.YtbpfabicampdkaaGreatDoor

namespace Go.Proofs.YtbpfabicampdkaaGreatDoor
open Go.RowKit

theorem all_okE_snoc {l : List EI} {k : Nat} {x : EI} (h : (l.take k).all okE = true) (hx : l[k]? = some x) (ho : okE x = true) : (l.take (k + 1)).all okE = true := by
  have hj := (List.getElem?_eq_some_iff.1 hx).1
  rw [List.take_succ_eq_append_getElem hj, (List.getElem?_eq_some_iff.1 hx).2, List.all_append, h]
  simp [ho]
theorem known_size3 {s : ByteArray} (hk : knownC s = true) : s.size ≤ 3 := by
  obtain ⟨r, hr, e, _⟩ := known_row hk
  rw [← e]
  have h : (specT.all fun r => decide (r.1.size ≤ 3)) = true := by decide +kernel
  exact of_decide_eq_true (List.all_eq_true.1 h r hr)
set_option maxHeartbeats 4000000 in
set_option maxRecDepth 100000 in
theorem implRatesOk_any (v : Value) (t : TI) (w : World) (hl : t.2.length ≤ 1099511627776) (hx : ∀ x ∈ t.2, x.2.2.1.2.length ≤ 1048576) (h : OwnTR w v t) (ht : CurTab w) :
    Calls Tryz.prog 25 #[v] w (Postb (okT t) w) := by
  obtain ⟨A, c, rfl, hr⟩ := ownTR_form h
  have HR := Lib.hid hr
  have HT := Lib.hid ht
  clear h hr ht
  have bb0 : Below w.heap.size w (w.alloc (.cells #[.string t.1, .slice A t.2.length c] 25)) := below_al (Below.refl _ _) _
  have kt := box_new w #[.string t.1, .slice A t.2.length c] 25
  go_enter Tryz.func25, Tryz.ntmps25
  have kt_c0 := kt.here.cell 0 _ rfl
  have kt_c1 := kt.here.cell 1 _ rfl
  go_wp2_with fail
  clear kt_c0 kt_c1
  refine (implCurKnown_any t.1 _ (HT.out.below bb0)).mono ?_
  rintro e w1 ⟨rfl, b1⟩
  have bb1 := Below.next bb0 b1
  replace kt := kt.below b1
  by_cases ok0 : knownC t.1 = true
  · rw [ok0]
    have HO0 := Lib.hid ok0
    clear ok0
    by_cases hn : t.2.length ≤ 12
    · have hn1 : ¬ (12 : Int) < (t.2.length : Int) := by omega
      have HN := Lib.hid hn
      have HREL := Lib.hid (show ∃ k : Nat, k ≤ t.2.length ∧ Value.int .i64 0 = .int .i64 k ∧ Hid ((t.2.take k).all okE = true) ∧ At [w.heap.size] (BoxAt w.heap.size #[.string t.1, .slice A t.2.length c] 25) w1 ∧ Below w.heap.size w w1 from ⟨0, Nat.zero_le _, rfl, Lib.hid rfl, kt, bb1⟩)
      have kt_c0 := kt.here.cell 0 _ rfl
      have kt_c1 := kt.here.cell 1 _ rfl
      clear kt bb0 bb1 b1 hn
      go_wp2
      clear kt_c0 kt_c1
      go_loopw [18] (fun i wr => ∃ k : Nat, k ≤ t.2.length ∧ i = .int .i64 k ∧ Hid ((t.2.take k).all okE = true) ∧ At [w.heap.size] (BoxAt w.heap.size #[.string t.1, .slice A t.2.length c] 25) wr ∧ Below w.heap.size w wr) (fun i _ => t.2.length - (intOf i).toNat)
      case atStart => exact HREL.out
      case round =>
        clear HREL
        obtain ⟨k, hk, rfl, HK, kt, hb⟩ := hrel
        by_cases hlt : k < t.2.length
        · obtain ⟨x, hxk⟩ : ∃ x, t.2[k]? = some x := ⟨_, List.getElem?_eq_getElem hlt⟩
          have hrb := HR.out.below hb
          obtain ⟨A', c', e', hc'⟩ := hrb
          obtain ⟨a, u, ea, ha, hc0, hc1, hc2, hc3, hc4, hr⟩ := hc' k x hxk
          have e0 : A = A' := by injection e' with e1 e2 e3
          subst e0
          subst ea
          obtain ⟨A1, c1, rfl⟩ := own_len hr
          have hxm := List.mem_of_getElem? hxk
          have hxl := hx x hxm
          have hbx := below_al (Below.refl wr.heap.size wr) (.cells #[.string x.1, .string x.2.1, .bool x.2.2.1.1, .slice A1 x.2.2.1.2.length c1, .int .i64 x.2.2.2] 41)
          have kx := box_new wr #[.string x.1, .string x.2.1, .bool x.2.2.1.1, .slice A1 x.2.2.1.2.length c1, .int .i64 x.2.2.2] 41
          have OX := Lib.hid (show ∀ W, Below (wr.alloc (.cells #[.string x.1, .string x.2.1, .bool x.2.2.1.1, .slice A1 x.2.2.1.2.length c1, .int .i64 x.2.2.2] 41)).heap.size (wr.alloc (.cells #[.string x.1, .string x.2.1, .bool x.2.2.1.1, .slice A1 x.2.2.1.2.length c1, .int .i64 x.2.2.2] 41)) W → OwnE (.agg #[.string x.1, .string x.2.1, .bool x.2.2.1.1, .slice A1 x.2.2.1.2.length c1, .int .i64 x.2.2.2]) x W from fun W h => OwnE.mk (own_below (own_below hr hbx) h))
          have bb := Below.next hb hbx
          replace kt := kt.below hbx
          have HNO := Lib.hid (show ¬ okE x = true → okT t = false from fun h => by rw [okT_pairs, all_okE_bad hxm h, Bool.false_and, Bool.and_false, Bool.and_false])
          have HXK := Lib.hid hxk
          have cx0 := kx.here.cell 0 _ rfl
          have cx1 := kx.here.cell 1 _ rfl
          have cx2 := kx.here.cell 2 _ rfl
          have cx3 := kx.here.cell 3 _ rfl
          have cx4 := kx.here.cell 4 _ rfl
          clear hb hbx hr hc' e' ha hxm hxk kx
          have hlt' := hlt
          go_wp2_with fail
          clear cx0 cx1 cx2 cx3 cx4 hc0 hc1 hc2 hc3 hc4
          refine (implRateOk_any _ x _ hxl (OX.out _ (Below.refl _ _)) (HT.out.below bb)).mono ?_
          rintro e w2 ⟨rfl, b2⟩
          have bb2 := Below.next bb b2
          have KT := Lib.hid (kt.below b2)
          clear kt b2 bb
          by_cases okx : okE x = true
          · rw [okx]
            have HNX := Lib.hid (all_okE_snoc HK.out HXK.out okx)
            clear okx
            go_wp2
            go_roundw
            case rel => exact ⟨k + 1, by omega, by go_num, HNX, KT.out, bb2⟩
            case measure => simp [intOf]; omega
          · have okx' : okE x = false := by simpa using okx
            have HV := Lib.hid (HNO.out okx)
            rw [okx']
            clear okx okx'
            go_wp2
            go_ret
            exact ⟨ret_bool HV.out.symm, bb2⟩
        · obtain rfl : k = t.2.length := by omega
          have hall := HK.out
          rw [List.take_length] at hall
          have HV := Lib.hid (show okT t = differE t.2 by rw [okT_pairs, HO0.out, decide_eq_true HN.out, hall]; rfl)
          have hsz : ∀ x ∈ t.2, x.1.size ≤ maxLen ∧ x.2.1.size ≤ maxLen := fun x hm => by
            have hp := okE_parts (List.all_eq_true.1 hall x hm)
            have h1 := known_size3 hp.1
            have h2 := known_size3 hp.2.1
            unfold maxLen
            omega
          have hpd := pairsDiffer_any (.slice A t.2.length c) t.2 wr (by have := HN.out; omega) hsz (HR.out.below hb).rd
          have HB := Lib.hid hb
          have kt_c0 := kt.here.cell 0 _ rfl
          have kt_c1 := kt.here.cell 1 _ rfl
          clear hall hsz hb kt
          go_wp2_with fail
          refine hpd.mono ?_
          rintro e w2 ⟨rfl, b2⟩
          have bb2 := Below.next HB.out b2
          clear kt_c0 kt_c1
          go_wp2
          go_ret
          exact ⟨ret_bool HV.out.symm, bb2⟩
    · have hn1 : (12 : Int) < (t.2.length : Int) := by omega
      have HV := Lib.hid (show okT t = false by rw [okT_rows, decide_eq_false hn, Bool.false_and, Bool.and_false])
      have kt_c0 := kt.here.cell 0 _ rfl
      have kt_c1 := kt.here.cell 1 _ rfl
      clear kt bb0 b1 hn
      go_wp2
      go_ret
      exact ⟨ret_bool HV.out.symm, bb1⟩
  · have ok0' : knownC t.1 = false := by simpa using ok0
    have HV := Lib.hid (show okT t = false by rw [okT_rows, ok0', Bool.false_and])
    rw [ok0']
    clear ok0 ok0' kt
    go_wp2
    go_ret
    exact ⟨ret_bool HV.out.symm, bb1⟩
end Go.Proofs.YtbpfabicampdkaaGreatDoor

namespace Go.Proofs.YtbpfabicampdkaaGreatDoor
open Go.RowKit

/-- a fraction as data -/
abbrev QI : Type := SI × List Int
def zeroQ : QI := (zeroS, [])
/-- what RatOk answers -/
def okQ (q : QI) : Bool := okS q.1 && natOkB q.2 && decide (0 < q.2.length ∧ q.2.length ≤ 18 ∧ q.1.2.length ≤ 18 ∧ Nat.gcd (nval q.1.2).toNat (nval q.2).toNat = 1)
/-- a fraction in lowest terms, with its sign; false where it has too many limbs, or is by 0 -/
def lowQ (n : Bool) (a b : Nat) : QI × Bool :=
  if b ≠ 0 ∧ (limbs (a / Nat.gcd a b)).length ≤ 18 ∧ (limbs (b / Nat.gcd a b)).length ≤ 18 then ((mkS n (limbs (a / Nat.gcd a b)), limbs (b / Nat.gcd a b)), true) else (zeroQ, false)
def numQ (q : QI) : Int := valS q.1
def denQ (q : QI) : Nat := (nval q.2).toNat
theorem okQ_parts {q : QI} (h : okQ q = true) : okS q.1 = true ∧ natOkB q.2 = true ∧ 0 < q.2.length ∧ q.2.length ≤ 18 ∧ q.1.2.length ≤ 18 ∧ Nat.gcd (nval q.1.2).toNat (nval q.2).toNat = 1 := by
  unfold okQ at h
  rw [Bool.and_eq_true, Bool.and_eq_true, decide_eq_true_eq] at h
  exact ⟨h.1.1, h.1.2, h.2.1, h.2.2.1, h.2.2.2.1, h.2.2.2.2⟩
/-- what the functions answer -/
def makeQ (x y : SI) : QI × Bool := if okS x = true ∧ okS y = true then lowQ (x.1 != y.1) (nval x.2).toNat (nval y.2).toNat else (zeroQ, false)
def addQ (r s : QI) : QI × Bool := if okQ r = true ∧ okQ s = true then lowQ (decide (numQ r * denQ s + numQ s * denQ r < 0)) (numQ r * denQ s + numQ s * denQ r).natAbs (denQ r * denQ s) else (zeroQ, false)
def negQ (r : QI) : QI × Bool := if okQ r = true then ((negS r.1, r.2), true) else (zeroQ, false)
def mulQ (r s : QI) : QI × Bool := if okQ r = true ∧ okQ s = true then lowQ (r.1.1 != s.1.1) ((nval r.1.2).toNat * (nval s.1.2).toNat) (denQ r * denQ s) else (zeroQ, false)
def divQ (r s : QI) : QI × Bool := if okQ r = true ∧ okQ s = true then lowQ (r.1.1 != s.1.1) ((nval r.1.2).toNat * denQ s) (denQ r * (nval s.1.2).toNat) else (zeroQ, false)
def subQ (r s : QI) : QI × Bool := if (negQ s).2 = true then addQ r (negQ s).1 else (zeroQ, false)
def cmpQ (r s : QI) : Int := if okQ r = true ∧ okQ s = true then cmpI (numQ r * denQ s) (numQ s * denQ r) else 0
def oneQ : QI := (zeroS, [1])
theorem denQ_pos {q : QI} (h : okQ q = true) : 0 < denQ q := by
  have hp := okQ_parts h
  have h1 := ok_ge hp.2.1 hp.2.2.1
  have h2 := bp_pos (q.2.length - 1)
  unfold denQ
  omega
theorem oneQ_ok : okQ oneQ = true := by
  have e : nval [1] = 1 := rfl
  unfold okQ oneQ
  rw [e]
  rfl
theorem limbs_18 {n : Bool} {m : Nat} (h : (limbs m).length ≤ 18) : mkS n (limbs m) = (n && decide (0 < (limbs m).length), limbs m) := by
  unfold mkS capL
  rw [if_neg (by omega)]
/-- what comes out in lowest terms is right -/
theorem lowQ_ok (n : Bool) (a b : Nat) (h : (lowQ n a b).2 = true) : okQ (lowQ n a b).1 = true := by
  unfold lowQ at h ⊢
  split
  · rename_i hc
    obtain ⟨hb, h1, h2⟩ := hc
    have hg : 0 < Nat.gcd a b := Nat.gcd_pos_of_pos_right _ (by omega)
    have hbq : b / Nat.gcd a b ≠ 0 := by
      have := Nat.div_pos (Nat.le_of_dvd (by omega) (Nat.gcd_dvd_right a b)) hg
      omega
    have hlb : 0 < (limbs (b / Nat.gcd a b)).length := by
      rcases Nat.eq_zero_or_pos (limbs (b / Nat.gcd a b)).length with h0 | h0
      · exact absurd ((limbs_zero_iff _).1 h0) hbq
      · exact h0
    have hs : okS (mkS n (limbs (a / Nat.gcd a b))) = true := by rw [mkS_limbs]; exact ofZ_ok _
    have e2 : (mkS n (limbs (a / Nat.gcd a b))).2 = limbs (a / Nat.gcd a b) := by rw [limbs_18 h1]
    unfold okQ
    simp only
    rw [hs, limbs_okL _ (by omega), e2, limbs_val, limbs_val, Int.toNat_natCast, Int.toNat_natCast]
    simp only [Bool.true_and, decide_eq_true_eq]
    exact ⟨hlb, h2, h1, Nat.gcd_div_gcd_div_gcd_of_pos_right (by omega)⟩
  · rename_i hc
    rw [if_neg hc] at h
    cases h
end Go.Proofs.YtbpfabicampdkaaGreatDoor

namespace Go.Proofs.YtbpfabicampdkaaGreatDoor
open Go.RowKit

/-- a value that stands for it, its limbs of the call's own, those of the two parts apart -/
def OwnQ (v : Value) (q : QI) (w : World) : Prop := ∃ u d, v = .agg #[.bool q.1.1, u, d] ∧ OwnI u q.1.2 w ∧ OwnI d q.2 w ∧ (∀ g, u.ownBlock = some g → d.ownBlock ≠ some g)
def MarkQ (v : Value) (q : QI) (m : Int) (w : World) : Prop := ∃ u d, v = .agg #[.bool q.1.1, u, d] ∧ MarkI u q.1.2 m w ∧ MarkI d q.2 (m + szS q.1) w
/-- a value that reads as it -/
def RdQ (w : World) (v : Value) (q : QI) : Prop := ∃ u d, v = .agg #[.bool q.1.1, u, d] ∧ Row w 0 w.heap.size u (intsV q.1.2) ∧ Row w 0 w.heap.size d (intsV q.2)
def szQ (q : QI) : Int := szS q.1 + szI q.2
theorem OwnQ.rd {v : Value} {q : QI} {w : World} (h : OwnQ v q w) : RdQ w v q := by
  obtain ⟨u, d, rfl, o, p, _⟩ := h
  exact ⟨u, d, rfl, o.row, p.row⟩
theorem RdQ.below {w W : World} {v : Value} {q : QI} (h : RdQ w v q) (hb : Below w.heap.size w W) : RdQ W v q := by
  obtain ⟨u, d, rfl, o, p⟩ := h
  exact ⟨u, d, rfl, (o.below hb (Nat.le_refl _)).wide (Nat.le_refl _) hb.size, (p.below hb (Nat.le_refl _)).wide (Nat.le_refl _) hb.size⟩
/-- a new fraction -/
def NewQ (q : QI) (w : World) (e : Ending) (w' : World) : Prop :=
  ∃ u d, e = .returned (.agg #[.bool q.1.1, u, d]) ∧ w'.ownsRow w.heap.size 3 1 u q.1.2.length (intsV q.1.2) ∧ w'.ownsRow w.heap.size 3 1 d q.2.length (intsV q.2) ∧ (∀ g, u.ownBlock = some g → d.ownBlock ≠ some g) ∧ Below w.heap.size w w'

set_option maxHeartbeats 400000 in
set_option maxRecDepth 100000 in
theorem eqRat_at (u v : Value) (x y : QI) (w : World) (hl : x.1.2.length ≤ 9223372036854775807) (hl2 : x.2.length ≤ 9223372036854775807) (hu : RdQ w u x) (hv : RdQ w v y) :
    Calls Tryz.prog 31 #[u, v] w fun e w' => e = .returned (.bool (decide (x = y))) ∧ Below w.heap.size w w' := by
  obtain ⟨p, d, rfl, hp, hd⟩ := hu
  obtain ⟨q, f, rfl, hq, hf⟩ := hv
  obtain ⟨Ap, cp, rfl⟩ := row_form hp
  obtain ⟨Ad, cd, rfl⟩ := row_form hd
  obtain ⟨Aq, cq, rfl⟩ := row_form hq
  obtain ⟨Af, cf, rfl⟩ := row_form hf
  simp only [intsV_length] at hp hd hq hf ⊢
  have hb : Below w.heap.size w ((w.alloc (.cells #[.bool x.1.1, .slice Ap x.1.2.length cp, .slice Ad x.2.length cd] 32)).alloc (.cells #[.bool y.1.1, .slice Aq y.1.2.length cq, .slice Af y.2.length cf] 32)) := below_al (below_al (Below.refl _ _) _) _
  have kx := (box_new w #[.bool x.1.1, .slice Ap x.1.2.length cp, .slice Ad x.2.length cd] 32).below (below_al (Below.refl _ _) (.cells #[.bool y.1.1, .slice Aq y.1.2.length cq, .slice Af y.2.length cf] 32))
  have ky := box_new (w.alloc (.cells #[.bool x.1.1, .slice Ap x.1.2.length cp, .slice Ad x.2.length cd] 32)) #[.bool y.1.1, .slice Aq y.1.2.length cq, .slice Af y.2.length cf] 32
  rw [show (w.alloc (.cells #[.bool x.1.1, .slice Ap x.1.2.length cp, .slice Ad x.2.length cd] 32)).heap.size = w.heap.size + 1 by simp] at ky
  go_enter Tryz.func31, Tryz.ntmps31
  go_wp2_with fail
  refine (eqSigned_at _ _ x.1 y.1 _ hl (rdS_below hp hb) (rdS_below hq hb)).mono ?_
  rintro e w1 ⟨rfl, b1⟩
  have bb1 := Below.next hb b1
  replace kx := kx.below b1
  replace ky := ky.below b1
  have cx2 := kx.here.cell 2 _ rfl
  have cy2 := ky.here.cell 2 _ rfl
  have hd1 := hd.below bb1 (Nat.le_refl _)
  have hf1 := hf.below bb1 (Nat.le_refl _)
  clear hp hq kx ky hd hf
  by_cases h1 : x.1 = y.1
  · rw [decide_eq_true h1]
    have H1 := Lib.hid h1
    clear h1
    go_wp2_with fail
    refine (eqIntS_any _ _ x.2 y.2 0 w.heap.size 0 w.heap.size _ hl2 hd1 hf1).mono ?_
    rintro e w2 ⟨rfl, n, rfl⟩
    by_cases h2 : x.2 = y.2
    · rw [decide_eq_true h2]
      have HV := Lib.hid (show decide (x = y) = true from decide_eq_true (Prod.ext H1.out h2))
      clear h2
      go_wp2
      go_ret
      exact ⟨ret_bool HV.out.symm, below_drewN bb1 n⟩
    · rw [decide_eq_false h2]
      have HV := Lib.hid (show decide (x = y) = false from decide_eq_false (fun e => h2 (by rw [e])))
      clear h2
      go_wp2
      go_ret
      exact ⟨ret_bool HV.out.symm, below_drewN bb1 n⟩
  · rw [decide_eq_false h1]
    have HV := Lib.hid (show decide (x = y) = false from decide_eq_false (fun e => h1 (by rw [e])))
    clear h1
    go_wp2
    go_ret
    exact ⟨ret_bool HV.out.symm, bb1⟩


theorem set3_at {g : Nat} {a b c c0 c1 c2 : Value} {T : TypeId} {W : World} (h : BoxAt g #[c0, c1, c2] T W) : BoxAt g #[a, b, c2] T ((W.setCell ⟨g, 0, none⟩ a).setCell ⟨g, 1, none⟩ b) ∧ BoxAt g #[c0, c1, c] T (W.setCell ⟨g, 2, none⟩ c) := by
  have h' : W.heap[g]? = some (.cells #[c0, c1, c2] T (0, 0)) := h
  exact ⟨by simp [BoxAt, World.setCell, Array.getElem?_modify, h'], by simp [BoxAt, World.setCell, Array.getElem?_modify, h']⟩

/-- the blocks of the limbs of both parts -/
def partsB (u d : Value) : List Nat := u.ownBlock.toList ++ d.ownBlock.toList
theorem At.both {S T : List Nat} {φ ψ : World → Prop} {w : World} (h : At S φ w) (k : At T ψ w) : At (S ++ T) (fun w => φ w ∧ ψ w) w :=
  ⟨⟨h.here, k.here⟩, fun g hg => by rcases List.mem_append.1 hg with hg | hg; exact h.lt g hg; exact k.lt g hg,
    fun w' hk => ⟨h.stays w' fun g hg => hk g (List.mem_append_left _ hg), k.stays w' fun g hg => hk g (List.mem_append_right _ hg)⟩⟩
set_option maxHeartbeats 400000 in
set_option maxRecDepth 100000 in
theorem markRat_at (u d : Value) (x : QI) (m : Int) (w : World) (hm : m + szQ x ≤ 9223372036854775807) (hm0 : 0 ≤ m) (ou : OwnI u x.1.2 w) (od : OwnI d x.2 w) (hap : ∀ g, u.ownBlock = some g → d.ownBlock ≠ some g) :
    Calls Tryz.prog 33 #[.agg #[.bool x.1.1, u, d], .int .i64 m] w fun e w' => e = .returned (.int .i64 (m + szQ x)) ∧ At (partsB u d) (MarkQ (.agg #[.bool x.1.1, u, d]) x m) w' ∧ Chg (partsB u d) w w' := by
  obtain ⟨A, c, rfl⟩ := own_len ou
  obtain ⟨B, f, rfl⟩ := own_len od
  have hs0 : 0 ≤ szS x.1 := by unfold szS szI; omega
  have hs1 : 0 ≤ szI x.2 := by unfold szI; omega
  have HZ := Lib.hid (show szQ x = szS x.1 + szI x.2 from rfl)
  rw [HZ.out] at hm
  have hbx := below_al (Below.refl w.heap.size w) (.cells #[.bool x.1.1, .slice A x.1.2.length c, .slice B x.2.length f] 32)
  have kx := box_new w #[.bool x.1.1, .slice A x.1.2.length c, .slice B x.2.length f] 32
  have au := (own_at' ou).below hbx
  have ad := (own_at' od).below hbx
  have hltu := (own_at' ou).lt
  have hltd := (own_at' od).lt
  have dis : ∀ g ∈ (Value.slice B x.2.length f).ownBlock.toList, g ∉ (Value.slice A x.1.2.length c).ownBlock.toList := fun g hg hm => hap g (by simpa using hm) (by simpa using hg)
  have DIS := Lib.hid dis
  have HLU := Lib.hid hltu
  have HLD := Lib.hid hltd
  clear ou od hap dis hltu hltd
  go_enter Tryz.func33, Tryz.ntmps33
  go_wp2_with fail
  refine (markSigned_at _ x.1 _ m _ (by omega) hm0 (au.imp fun _ h => OwnS.mk (x := x.1) h)).mono ?_
  rintro e w1 ⟨rfl, mu, c1⟩
  replace ad := ad.chg c1 DIS.out
  replace kx := kx.chg c1 (fun i hi hm => by have := HLU.out i hm; simp at hi; omega)
  have cx2 := kx.here.cell 2 _ rfl
  have HC1 := Lib.hid c1
  have HMU := Lib.hid mu
  clear kx c1 au mu
  go_wp2_with fail
  refine (markIntS_at _ x.2 _ (m + szS x.1) _ (by omega) (by omega) ad).mono ?_
  rintro e w2 ⟨rfl, md, c2⟩
  have mu2 := HMU.out.chg c2 (fun i hi hm => DIS.out i hm hi)
  have hall := Lib.hid (show At (partsB (.slice A x.1.2.length c) (.slice B x.2.length f)) (MarkQ (.agg #[.bool x.1.1, .slice A x.1.2.length c, .slice B x.2.length f]) x m) w2 from
    (At.both mu2 md).imp fun W hh => by
      obtain ⟨⟨u', e1, hu'⟩, hd'⟩ := hh
      injection e1 with e1
      have e2 : u' = .slice A x.1.2.length c := by simpa using e1.symm
      rw [e2] at hu'
      exact ⟨_, _, rfl, hu', hd'⟩)
  have hchg := Lib.hid (show Chg (partsB (.slice A x.1.2.length c) (.slice B x.2.length f)) w w2 from
    (Chg.of_below hbx).trans ((HC1.out.more fun g hg => List.mem_append_left _ hg).trans (c2.more fun g hg => List.mem_append_right _ hg)))
  clear md c2 mu2 ad HMU
  go_wp2
  go_ret
  exact ⟨ret_int (by rw [HZ.out]; omega), hall.out, hchg.out⟩

set_option maxHeartbeats 400000 in
set_option maxRecDepth 100000 in
theorem heldRat_at (v : Value) (x : QI) (m : Int) (w : World) (hm : m + szQ x ≤ 9223372036854775807) (hm0 : 0 ≤ m) (h : MarkQ v x m w) :
    Calls Tryz.prog 34 #[v, .int .i64 m] w fun e w' => e = .returned (.int .i64 (m + szQ x)) ∧ Below w.heap.size w w' := by
  obtain ⟨u, d, rfl, ou, od⟩ := h
  obtain ⟨A, c, rfl⟩ := own_len ou
  obtain ⟨B, f, rfl⟩ := own_len od
  have hs0 : 0 ≤ szS x.1 := by unfold szS szI; omega
  have hs1 : 0 ≤ szI x.2 := by unfold szI; omega
  have HZ := Lib.hid (show szQ x = szS x.1 + szI x.2 from rfl)
  rw [HZ.out] at hm
  have hbx := below_al (Below.refl w.heap.size w) (.cells #[.bool x.1.1, .slice A x.1.2.length c, .slice B x.2.length f] 32)
  have kx := box_new w #[.bool x.1.1, .slice A x.1.2.length c, .slice B x.2.length f] 32
  have ou1 : MarkS (.agg #[.bool x.1.1, .slice A x.1.2.length c]) x.1 m _ := ⟨_, rfl, own_below ou hbx⟩
  have od1 := own_below od hbx
  clear ou od
  go_enter Tryz.func34, Tryz.ntmps34
  go_wp2_with fail
  refine (heldSigned_at _ x.1 m _ (by omega) hm0 ou1).mono ?_
  rintro e w1 ⟨rfl, b1⟩
  have bb1 := Below.next hbx b1
  replace kx := kx.below b1
  replace od1 := own_below od1 b1
  have cx2 := kx.here.cell 2 _ rfl
  have hn1 : decide (m + szS x.1 < 0) = false := decide_eq_false (by omega)
  clear ou1 kx
  go_wp2_with fail
  refine (heldIntS_at _ x.2 (m + szS x.1) _ (by omega) (by omega) od1).mono ?_
  rintro e w2 ⟨rfl, b2⟩
  have bb2 := Below.next bb1 b2
  have hn2 : decide (m + szS x.1 + szI x.2 < 0) = false := decide_eq_false (by omega)
  clear hn1
  go_wp2
  go_ret
  exact ⟨ret_int (by rw [HZ.out]; omega), bb2⟩
end Go.Proofs.YtbpfabicampdkaaGreatDoor

namespace Go.Proofs.YtbpfabicampdkaaGreatDoor
open Go.RowKit

/-! ### kind R: impl.Rat -/
def capQ (x : QI) : Prop := x.1.2.length ≤ 9223372036854775807 ∧ x.2.length ≤ 9223372036854775807
theorem szQ_nonneg (x : QI) : 0 ≤ szQ x := by unfold szQ szS szI; omega
theorem szQ_len {x : QI} (h : szQ x ≤ 1048576) : x.1.2.length ≤ 1048576 ∧ x.2.length ≤ 1048576 := by unfold szQ szS szI at h; omega
theorem capQ_of {x : QI} (h : szQ x ≤ 1048576) : capQ x := by have := szQ_len h; unfold capQ; omega
theorem ownQ_form {v : Value} {x : QI} {w : World} (h : OwnQ v x w) : ∃ A c B d, v = .agg #[.bool x.1.1, .slice A x.1.2.length c, .slice B x.2.length d] := by
  obtain ⟨u, d, rfl, o, p, _⟩ := h
  obtain ⟨A, c, rfl⟩ := own_len o
  obtain ⟨B, d, rfl⟩ := own_len p
  exact ⟨A, c, B, d, rfl⟩
theorem rdQ_form {v : Value} {x : QI} {w : World} (h : RdQ w v x) : ∃ A c B d, v = .agg #[.bool x.1.1, .slice A x.1.2.length c, .slice B x.2.length d] := by
  obtain ⟨u, d, rfl, o, p⟩ := h
  obtain ⟨A, c, rfl⟩ := row_form o
  obtain ⟨B, d, rfl⟩ := row_form p
  rw [intsV_length, intsV_length]
  exact ⟨A, c, B, d, rfl⟩
theorem partsQ_at {u d : Value} {x : QI} {B C : Nat} {w : World} (ou : w.ownsRow B 3 1 u x.1.2.length (intsV x.1.2)) (od : w.ownsRow C 3 1 d x.2.length (intsV x.2)) (hap : ∀ g, u.ownBlock = some g → d.ownBlock ≠ some g) :
    At (partsB u d) (OwnQ (.agg #[.bool x.1.1, u, d]) x) w := (At.both (own_at' ou) (own_at' od)).imp fun _ h => ⟨u, d, rfl, h.1, h.2, hap⟩
theorem NewQ.newV {x : QI} {w w' : World} {e : Ending} (h : NewQ x w e w') : NewV (fun v => OwnQ v x) w e w' := by
  obtain ⟨u, d, rfl, o, p, hap, b⟩ := h
  exact ⟨_, partsB u d, rfl, partsQ_at o p hap, fun g hg => by
    rcases List.mem_append.1 hg with hg | hg
    · exact own_within o g hg
    · exact own_within p g hg, b⟩
theorem eqQ_cal (u v : Value) (x y : QI) (w : World) (hz : capQ x) (hu : RdQ w u x) (hv : RdQ w v y) : Calls Tryz.prog 31 #[u, v] w (Postb (decide (x = y)) w) :=
  eqRat_at u v x y w hz.1 hz.2 hu hv
theorem ownQ_open {u d : Value} {c : Value} {x : QI} {w : World} (h : OwnQ (.agg #[c, u, d]) x w) : c = .bool x.1.1 ∧ OwnI u x.1.2 w ∧ OwnI d x.2 w ∧ (∀ g, u.ownBlock = some g → d.ownBlock ≠ some g) := by
  obtain ⟨u', d', e, hu, hd, hap⟩ := h
  injection e with e
  simp at e
  obtain ⟨e1, e2, e3⟩ := e
  subst e1 e2 e3
  exact ⟨rfl, hu, hd, hap⟩
theorem markQ_cal (v : Value) (x : QI) (S : List Nat) (m : Int) (w : World) (hm : m + szQ x ≤ 9223372036854775807) (hm0 : 0 ≤ m) (h : At S (OwnQ v x) w) :
    Calls Tryz.prog 33 #[v, .int .i64 m] w fun e w' => e = .returned (.int .i64 (m + szQ x)) ∧ At S (MarkQ v x m) w' ∧ Chg S w w' := by
  obtain ⟨u, d, rfl, ou, od, hap⟩ := h.here
  have hs : ∀ g ∈ partsB u d, g ∈ S := fun g hg => by
    rcases List.mem_append.1 hg with hg | hg
    · exact toList_own (at_ints_mem h fun w' k => (ownQ_open k).2.1) g hg
    · exact toList_own (at_ints_mem h fun w' k => (ownQ_open k).2.2.1) g hg
  refine (markRat_at u d x m w hm hm0 ou od hap).mono fun e w' k => ?_
  obtain ⟨e1, k1, k2⟩ := k
  have hc := k2.more hs
  exact ⟨e1, k1.more hs (fun g hg => Nat.lt_of_lt_of_le (h.lt g hg) hc.size), hc⟩
theorem heldQ_cal (v : Value) (x : QI) (m : Int) (w : World) (hm : m + szQ x ≤ 9223372036854775807) (hm0 : 0 ≤ m) (h : MarkQ v x m w) : Calls Tryz.prog 34 #[v, .int .i64 m] w (Postn (m + szQ x) w) :=
  heldRat_at v x m w hm hm0 h

/-! ### what calls answer: a new fraction or signed number, and scalars with it -/
def PostQb (R0 : QI) (R1 : Bool) (w : World) (e : Ending) (w' : World) : Prop :=
  ∃ (v : Value) (S : List Nat), e = .returned (.tuple #[v, .bool R1]) ∧ At S (OwnQ v R0) w' ∧ Within S w.heap.size w'.heap.size ∧ Below w.heap.size w w'
end Go.Proofs.YtbpfabicampdkaaGreatDoor

namespace Go.Proofs.YtbpfabicampdkaaGreatDoor
open Go.RowKit

/-- the state of l05Gcd's loop -/
def GcdR (w : World) (G : Nat) (n : Nat) (x y : Value) (wr : World) : Prop :=
  ∃ X Y : Nat, n = Y ∧ Nat.gcd X Y = G ∧ (limbs X).length ≤ 50 ∧ (limbs Y).length ≤ 50 ∧ wr.ownsRow 0 3 1 x (limbs X).length (intsV (limbs X)) ∧ wr.ownsRow 0 3 1 y (limbs Y).length (intsV (limbs Y)) ∧ Below w.heap.size w wr
set_option maxHeartbeats 1000000 in
set_option maxRecDepth 100000 in
theorem l05Gcd_any (va vb : Value) (X0 Y0 : Nat) (w : World) (hX0 : (limbs X0).length ≤ 50) (hY0 : (limbs Y0).length ≤ 50) (oa : OwnI va (limbs X0) w) (ob : OwnI vb (limbs Y0) w) :
    Calls Tryz.prog 182 #[va, vb] w fun e w' => ∃ v, e = .returned v ∧ OwnI v (limbs (Nat.gcd X0 Y0)) w' ∧ Below w.heap.size w w' := by
  have HS : Hid (GcdR w (Nat.gcd X0 Y0) Y0 va vb w) := Lib.hid ⟨X0, Y0, rfl, rfl, hX0, hY0, oa, ob, Below.refl _ _⟩
  clear oa ob
  go_enter Tryz.func182, Tryz.ntmps182
  go_wp2
  go_loopg [5, 6] Y0 (fun n x y wr => GcdR w (Nat.gcd X0 Y0) n x y wr)
  case atStart => exact HS.out
  case round =>
    clear HS hX0 hY0
    obtain ⟨X, Y, hn, hG, hX, hY, ox, oy, hb⟩ := hrel
    have HNE := Lib.hid hn
    have HG := Lib.hid hG
    clear hn hG
    have oy0 := oy
    obtain ⟨B, c, rfl⟩ := own_len oy
    by_cases hpos : 0 < (limbs Y).length
    · have hY0 := limbs_some hpos
      go_wp2_with fail
      refine (specDiv_any _ _ (limbs X) (limbs Y) _ _ _ _ _ hX hY hpos (Nat.le_refl _) (Nat.le_refl _) (limbs_digN _) ⟨limbs_digN _, limbs_lastN _⟩ (Row.of_own ox) (Row.of_own oy0)).mono ?_
      rintro e w3 ⟨v3, v4, rfl, o3, o4, _, b3⟩
      rw [limbs_val, limbs_val, show ((X : Int) % (Y : Int)).toNat = X % Y by omega] at o4
      have HS2 : Hid (GcdR w (Nat.gcd X0 Y0) (X % Y) (.slice B (limbs Y).length c) v4 w3) := Lib.hid ⟨Y, X % Y, rfl, by rw [gcd_step]; exact HG.out, hY, limbs_mod_len X Y hY hY0, own_below oy0 b3, own_zero o4, Below.next hb b3⟩
      clear ox oy oy0 o3 o4
      go_wp2
      go_roundg (X % Y)
      case measure => rw [HNE.out]; exact Nat.mod_lt X hY0
      case rel => exact HS2.out
    · have hY0 := Lib.hid (limbs_empty hpos)
      have HF : Hid (X = Nat.gcd X0 Y0) := Lib.hid (by have := HG.out; rw [hY0.out, Nat.gcd_zero_right] at this; exact this)
      go_wp2
      go_ret
      exact ⟨_, rfl, by rw [← HF.out]; exact ox, hb⟩
end Go.Proofs.YtbpfabicampdkaaGreatDoor

namespace Go.Proofs.YtbpfabicampdkaaGreatDoor
open Go.RowKit
theorem one_val : nval [1] = 1 := rfl
theorem one_dig : DigN [1] ∧ [(1 : Int)].getLastD 1 ≠ 0 := by
  refine ⟨fun d hd => ?_, by decide⟩
  simp at hd
  omega
theorem one_limbs : limbs 1 = [1] := by rw [limbs, dif_neg (by decide), show 1 / 1000000000 = 0 from rfl, limbs, dif_pos rfl]; rfl
/-- a slice literal in its block -/
theorem box_row {g : Nat} {cs : Array Value} {T : TypeId} {w : World} (h : BoxAt g cs T w) : Row w 0 w.heap.size (.slice (some ⟨g, 0, none⟩) cs.size cs.size) cs.toList := by
  have hg := (Array.getElem?_eq_some_iff.1 h).1
  refine ⟨some ⟨g, 0, none⟩, cs.size, by simp, fun j u hj => ⟨⟨g, 0, none⟩, rfl, Nat.zero_le _, hg, ?_⟩⟩
  have e1 : (Addr.add ⟨g, 0, none⟩ j) = ⟨g, j, none⟩ := by
    unfold Addr.add
    cases j with
    | zero => rfl
    | succ n => simp
  rw [e1, Lib.cell_of_heap h]
  simpa using hj
theorem gcdN_small (a b : List Int) : (gcdN a b).length ≤ 50 := by
  unfold gcdN
  split
  · rename_i h
    have pa := natOk_limbs h.1
    have pb := natOk_limbs h.2
    have la := (natOk_parts h.1).2.1
    have lb := (natOk_parts h.2).2.1
    have na := nval_ok h.1
    have nb := nval_ok h.2
    by_cases h0 : 0 < (nval a).toNat
    · have hm := limbs_mono (m := ((Nat.gcd (nval a).toNat (nval b).toNat : Nat) : Int)) (n := nval a) (by omega) (by have := Nat.gcd_le_left (nval b).toNat h0; omega)
      rw [Int.toNat_natCast, ← pa] at hm
      omega
    · rw [show (nval a).toNat = 0 by omega, Nat.gcd_zero_left, ← pb]
      exact lb
  · simp
theorem gcd_one_iff {x : QI} (h1 : natOkB x.1.2 = true) (h2 : natOkB x.2 = true) : (cmpI (nval (gcdN x.1.2 x.2)) (nval [1]) = 0) ↔ Nat.gcd (nval x.1.2).toNat (nval x.2).toNat = 1 := by
  unfold gcdN
  rw [if_pos ⟨h1, h2⟩, limbs_val, one_val]
  unfold cmpI
  split
  · omega
  · split <;> omega
set_option maxHeartbeats 1000000 in
set_option maxRecDepth 100000 in
theorem specRatOk_any (v : Value) (x : QI) (w : World) (hz : szQ x ≤ 1048576) (h : OwnQ v x w) :
    Calls Tryz.prog 139 #[v] w (Postb (okQ x) w) := by
  obtain ⟨u, d, rfl, ou, od, hap⟩ := h
  obtain ⟨A, c, rfl⟩ := own_len ou
  obtain ⟨B, f, rfl⟩ := own_len od
  have hl := szQ_len hz
  have hl1 := hl.1
  have hl2 := hl.2
  have bb0 : Below w.heap.size w (w.alloc (.cells #[.bool x.1.1, .slice A x.1.2.length c, .slice B x.2.length f] 32)) := below_al (Below.refl _ _) _
  have kr := box_new w #[.bool x.1.1, .slice A x.1.2.length c, .slice B x.2.length f] 32
  have OU := Lib.hid (show ∀ W, Below w.heap.size w W → OwnI (.slice A x.1.2.length c) x.1.2 W from fun W hb => own_below ou hb)
  have OD := Lib.hid (show ∀ W, Below w.heap.size w W → OwnI (.slice B x.2.length f) x.2 W from fun W hb => own_below od hb)
  clear ou od hap hl hz
  have kr_c0 := kr.here.cell 0 _ rfl
  have kr_c1 := kr.here.cell 1 _ rfl
  go_enter Tryz.func139, Tryz.ntmps139
  go_wp2_with fail
  refine (specIntOk_any _ x.1 _ hl1 (OwnS.rd (OwnS.mk (x := x.1) (OU.out _ bb0)))).mono ?_
  rintro e w1 ⟨rfl, b1⟩
  have bb1 := Below.next bb0 b1
  replace kr := kr.below b1
  clear kr_c0 kr_c1
  by_cases ok1 : okS x.1 = true
  · rw [ok1]
    have HO1 := Lib.hid ok1
    have kr_c0 := kr.here.cell 0 _ rfl
    have kr_c1 := kr.here.cell 1 _ rfl
    have kr_c2 := kr.here.cell 2 _ rfl
    clear ok1
    go_wp2_with fail
    refine (specNatOk_any _ x.2 _ _ _ hl2 (OD.out _ bb1).row).mono ?_
    rintro e w2 ⟨rfl, rfl⟩
    by_cases ok2 : natOkB x.2 = true
    · rw [ok2]
      have HO2 := Lib.hid ok2
      clear ok2
      by_cases hs : 0 < x.2.length ∧ x.2.length ≤ 18 ∧ x.1.2.length ≤ 18
      · have h1 : ((x.2.length : Int) == 0) = false := by rw [beq_eq_false_iff_ne]; omega
        have h2 : decide ((18 : Int) < (x.2.length : Int)) = false := decide_eq_false (by omega)
        have h3 : decide ((18 : Int) < (x.1.2.length : Int)) = false := decide_eq_false (by omega)
        have HG := Lib.hid (gcd_one_iff (okS_parts HO1.out).1 HO2.out)
        have HV := Lib.hid (show okQ x = decide (Nat.gcd (nval x.1.2).toNat (nval x.2).toNat = 1) by unfold okQ; rw [HO1.out, HO2.out]; simp [hs])
        have hgl : (gcdN x.1.2 x.2).length ≤ 1048576 := by have := gcdN_small x.1.2 x.2; omega
        have HD := Lib.hid (show DigN (gcdN x.1.2 x.2) ∧ (gcdN x.1.2 x.2).getLastD 1 ≠ 0 by unfold gcdN; split; exact ⟨limbs_digN _, limbs_lastN _⟩; exact ⟨fun d hd => (by cases hd), by decide⟩)
        clear hs
        go_wp2_with fail
        refine (specNatGcd_any _ _ x.1.2 x.2 0 _ 0 _ _ hl1 hl2 (Nat.le_refl _) (Nat.le_refl _) (own_noCap (OU.out _ bb1)) (own_noCap (OD.out _ bb1)) (OU.out _ bb1).row (OD.out _ bb1).row).mono ?_
        rintro e w2 ⟨v2, rfl, o2, b2⟩
        have bb2 := Below.next bb1 b2
        go_wp2_with fail
        have hrow := box_row (box_new w2 #[.int .i64 1] 3).here
        have o2' := own_up o2 (below_al (Below.refl _ _) (.cells #[.int .i64 1] 3))
        refine (specCmp_any _ _ (gcdN x.1.2 x.2) [1] _ _ _ _ _ hgl (by decide) HD.out one_dig (Row.of_own o2') hrow).mono ?_
        rintro e w3 ⟨rfl, q3, rfl⟩
        have HB := Lib.hid (Below.next bb2 (below_al (Below.refl _ _) (.cells #[.int .i64 1] 3)))
        have HZ : (cmpI (nval (gcdN x.1.2 x.2)) (nval [1]) == 0) = okQ x := by
          rw [HV.out]
          by_cases hg : cmpI (nval (gcdN x.1.2 x.2)) (nval [1]) = 0
          · rw [decide_eq_true (HG.out.1 hg), hg]; rfl
          · rw [decide_eq_false (fun e => hg (HG.out.2 e)), beq_eq_false_iff_ne]; exact hg
        generalize cmpI (nval (gcdN x.1.2 x.2)) (nval [1]) = z at *
        generalize okQ x = b at *
        clear o2 o2' hrow hgl h1 h2 h3 hl1 hl2 HG HV
        go_wp2
        go_ret
        exact ⟨rfl, below_drewN HB.out q3⟩
      · have HV := Lib.hid (show okQ x = false by unfold okQ; rw [HO1.out, HO2.out, decide_eq_false (fun h => hs ⟨h.1, h.2.1, h.2.2.1⟩)]; rfl)
        by_cases g1 : 0 < x.2.length
        · have h1 : ((x.2.length : Int) == 0) = false := by rw [beq_eq_false_iff_ne]; omega
          by_cases g2 : x.2.length ≤ 18
          · have h2 : decide ((18 : Int) < (x.2.length : Int)) = false := decide_eq_false (by omega)
            have h3 : decide ((18 : Int) < (x.1.2.length : Int)) = true := decide_eq_true (by omega)
            clear hs g1 g2
            go_wp2
            go_ret
            exact ⟨ret_bool HV.out.symm, bb1⟩
          · have h2 : decide ((18 : Int) < (x.2.length : Int)) = true := decide_eq_true (by omega)
            clear hs g1 g2
            go_wp2
            go_ret
            exact ⟨ret_bool HV.out.symm, bb1⟩
        · have h1 : ((x.2.length : Int) == 0) = true := by rw [beq_iff_eq]; omega
          clear hs g1
          go_wp2
          go_ret
          exact ⟨ret_bool HV.out.symm, bb1⟩
    · have ok2' : natOkB x.2 = false := by simpa using ok2
      have HV := Lib.hid (show okQ x = false by unfold okQ; rw [HO1.out, ok2']; rfl)
      rw [ok2']
      clear ok2 ok2'
      go_wp2
      go_ret
      exact ⟨ret_bool HV.out.symm, bb1⟩
  · have ok1' : okS x.1 = false := by simpa using ok1
    have HV := Lib.hid (show okQ x = false by unfold okQ; rw [ok1']; rfl)
    rw [ok1']
    clear ok1 ok1'
    go_wp2
    go_ret
    exact ⟨ret_bool HV.out.symm, bb1⟩
end Go.Proofs.YtbpfabicampdkaaGreatDoor

namespace Go.Proofs.YtbpfabicampdkaaGreatDoor
open Go.RowKit
theorem trim_ok (n : Nat) : trimL (limbs n) = limbs n := trim_last _ (limbs_lastN n)
theorem oneCells (l : List Int) : ∀ u ∈ intsV l, u.oneCell' = true := fun u hu => by obtain ⟨x, _, rfl⟩ := List.mem_map.1 hu; rfl
/-- a struct result that lies in its cells at block r: a new value and a bool with it -/
theorem newQb_ret {r : Nat} {u d c0 c1 c2 : Value} {x : QI} {b : Bool} {w W : World} {B C : Nat} (hb : BoxAt r #[c0, c1, c2] 32 W) (o : W.ownsRow B 3 1 u x.1.2.length (intsV x.1.2)) (p : W.ownsRow C 3 1 d x.2.length (intsV x.2))
    (hap : ∀ g, u.ownBlock = some g → d.ownBlock ≠ some g) (hB : w.heap.size ≤ B) (hC : w.heap.size ≤ C) (hr : w.heap.size ≤ r) (hW : Below w.heap.size w W) :
    PostQb x b w (.returned (.tuple #[.agg #[.bool x.1.1, u, d], .bool b])) (((W.setCell ⟨r, 0, none⟩ (.bool x.1.1)).setCell ⟨r, 1, none⟩ u).setCell ⟨r, 2, none⟩ d) := by
  have hn1 := Lib.ownBlock_ne o hb (by decide)
  have hn2 := Lib.ownBlock_ne p hb (by decide)
  have hc : Chg [r] W (((W.setCell ⟨r, 0, none⟩ (.bool x.1.1)).setCell ⟨r, 1, none⟩ u).setCell ⟨r, 2, none⟩ d) := (((Chg.refl _ _).setCell (by simp) _).setCell (by simp) _).setCell (by simp) _
  have hz := hc.size
  refine ⟨_, partsB u d, rfl, (partsQ_at o p hap).chg hc (fun i hi hm => ?_), fun i hi => ?_, below_set3 hW hr⟩
  · simp at hm
    subst hm
    rcases List.mem_append.1 hi with hi | hi
    · exact hn1 (by simpa using hi)
    · exact hn2 (by simpa using hi)
  · rcases List.mem_append.1 hi with hi | hi
    · have := own_lt o (g := i) (by simpa using hi)
      omega
    · have := own_lt p (g := i) (by simpa using hi)
      omega
theorem ownQ_zero (w : World) : OwnQ (.agg #[.bool false, .slice none 0 0, .slice none 0 0]) zeroQ w := ⟨_, _, rfl, World.ownsRow_nil _ _ _ _, World.ownsRow_nil _ _ _ _, fun g hg => by cases hg⟩
theorem newQb_zero {w W : World} (b : Bool) (hW : Below w.heap.size w W) : PostQb zeroQ b w (.returned (.tuple #[.agg #[.bool false, .slice none 0 0, .slice none 0 0], .bool b])) W :=
  ⟨_, [], rfl, ⟨ownQ_zero _, (fun g hg => by cases hg), fun w' _ => ownQ_zero _⟩, (fun g hg => by cases hg), hW⟩
theorem div_toNat (a b : Nat) : ((a : Int) / (b : Int)).toNat = a / b := by rw [← Int.natCast_ediv]; exact Int.toNat_natCast _
set_option maxHeartbeats 1000000 in
set_option maxRecDepth 100000 in
theorem l05Low_any (n : Bool) (va vb : Value) (X Y : Nat) (w : World) (hX : (limbs X).length ≤ 50) (hY : (limbs Y).length ≤ 50) (oa : OwnI va (limbs X) w) (ob : OwnI vb (limbs Y) w) :
    Calls Tryz.prog 140 #[.bool n, va, vb] w (PostQb (lowQ n X Y).1 (lowQ n X Y).2 w) := by
  obtain ⟨i0, hi0, hz0, hz1, hz2⟩ := info_parts intInfo
  have bb0 := below_al (Below.refl w.heap.size w) (.cells #[.bool false, .slice none 0 0, .slice none 0 0] 32)
  have kr := box_new w #[.bool false, .slice none 0 0, .slice none 0 0] 32
  have oa1 := own_up oa bb0
  have ob1 := own_up ob bb0
  clear oa ob
  go_enter Tryz.func140, Tryz.ntmps140
  go_wp2_with fail
  refine (specTrim_any _ _ _ _ (by omega) oa1).mono ?_
  rintro e w1 ⟨rfl, v1, rfl, o1⟩
  rw [trim_ok] at o1
  go_wp2_with fail
  refine (specTrim_any _ _ _ _ (by omega) ob1).mono ?_
  rintro e w1 ⟨rfl, v2, rfl, o2⟩
  rw [trim_ok] at o2
  obtain ⟨A1, c1, rfl⟩ := own_len o1
  obtain ⟨A2, c2, rfl⟩ := own_len o2
  clear oa1 ob1
  by_cases hy : 0 < (limbs Y).length
  · have h1 : (((limbs Y).length : Int) == 0) = false := by rw [beq_eq_false_iff_ne]; omega
    have hY0 := limbs_some hy
    go_wp2_with fail
    refine (l05Gcd_any _ _ X Y _ hX hY o1 o2).mono ?_
    rintro e w3 ⟨v3, rfl, o3, b3⟩
    have bb3 := Below.next bb0 b3
    replace kr := kr.below b3
    replace o1 := own_up o1 b3
    replace o2 := own_up o2 b3
    have HG := Lib.hid (Nat.gcd_pos_of_pos_right X hY0)
    have hgl : (limbs (Nat.gcd X Y)).length ≤ 50 := by
      have := limbs_mono (m := ((Nat.gcd X Y : Nat) : Int)) (n := (Y : Int)) (by omega) (by have := Nat.gcd_le_right X hY0; omega)
      rw [Int.toNat_natCast, Int.toNat_natCast] at this
      omega
    have hg0 : 0 < (limbs (Nat.gcd X Y)).length := by
      rcases Nat.eq_zero_or_pos (limbs (Nat.gcd X Y)).length with h | h
      · have := (limbs_zero_iff _).1 h
        have := HG.out
        omega
      · exact h
    have HLOW := Lib.hid (show lowQ n X Y = if (limbs (X / Nat.gcd X Y)).length ≤ 18 ∧ (limbs (Y / Nat.gcd X Y)).length ≤ 18 then ((mkS n (limbs (X / Nat.gcd X Y)), limbs (Y / Nat.gcd X Y)), true) else (zeroQ, false) by unfold lowQ; simp [show Y ≠ 0 by omega])
    clear hy hY0
    go_wp2_with fail
    refine (specDiv_any _ _ (limbs X) (limbs (Nat.gcd X Y)) _ _ _ _ _ hX hgl hg0 (Nat.le_refl _) (Nat.le_refl _) (limbs_digN _) ⟨limbs_digN _, limbs_lastN _⟩ (Row.of_own o1) (Row.of_own o3)).mono ?_
    rintro e w4 ⟨v4, v5, rfl, o4, o5, _, b4⟩
    rw [limbs_val, limbs_val, div_toNat] at o4
    have bb4 := Below.next bb3 b4
    replace kr := kr.below b4
    replace o2 := own_up o2 b4
    replace o3 := own_up o3 b4
    clear o1 o5
    go_wp2_with fail
    refine (specDiv_any _ _ (limbs Y) (limbs (Nat.gcd X Y)) _ _ _ _ _ hY hgl hg0 (Nat.le_refl _) (Nat.le_refl _) (limbs_digN _) ⟨limbs_digN _, limbs_lastN _⟩ (Row.of_own o2) (Row.of_own o3)).mono ?_
    rintro e w5 ⟨v6, v7, rfl, o6, o7, _, b5⟩
    rw [limbs_val, limbs_val, div_toNat] at o6
    have bb5 := Below.next bb4 b5
    replace kr := kr.below b5
    replace o4 := own_up o4 b5
    obtain ⟨A4, c4, rfl⟩ := own_len o4
    obtain ⟨A6, c6, rfl⟩ := own_len o6
    clear o2 o3 o7 hg0 hgl
    have hz5 := b5.size
    have hz4 := b4.size
    have hz3 := b3.size
    by_cases hp : (limbs (X / Nat.gcd X Y)).length ≤ 18
    · have h2 : decide ((18 : Int) < ((limbs (X / Nat.gcd X Y)).length : Int)) = false := decide_eq_false (by omega)
      by_cases hq : (limbs (Y / Nat.gcd X Y)).length ≤ 18
      · have h3 : decide ((18 : Int) < ((limbs (Y / Nat.gcd X Y)).length : Int)) = false := decide_eq_false (by omega)
        have HV := Lib.hid (show lowQ n X Y = ((mkS n (limbs (X / Nat.gcd X Y)), limbs (Y / Nat.gcd X Y)), true) by rw [HLOW.out, if_pos ⟨hp, hq⟩])
        go_wp2_with fail
        refine (l04Make_any n _ (limbs (X / Nat.gcd X Y)) _ _ (by omega) o4).mono ?_
        rintro e w6 ⟨u6, rfl, o8, b6⟩
        rw [trim_ok] at o8 ⊢
        have bb6 := Below.next bb5 b6
        replace kr := kr.below b6
        replace o6 := own_up o6 b6
        obtain ⟨A8, c8, rfl⟩ := own_len o8
        clear hp h2 h3 o4
        have HONE := Lib.hid oneCells
        go_wp2_with (at_builtin; refine append_row rfl _ _ 28 rfl w6.heap.size 3 i0 (.int .i64 0) 8 Tryz.underlying28 hi0 hz0 hz1 hz2 rfl _ 0 [] rfl (World.ownsRow_made w6 #[] 0 (Nat.le_refl _) (Nat.zero_le _) rfl) _ _ _ (intsV (limbs (Y / Nat.gcd X Y))) rfl ((Row.of_own o6).below (below_al (Below.refl _ _) _) (Nat.le_refl _)) (own_noCap o6) (HONE.out _) ?c3 ?c4 ?c5 ?_)
        case c3 => rw [intsV_length]; unfold maxLen; omega
        case c4 => rw [intsV_length]; omega
        case c5 => simp
        intro v9 w7 o9 g9
        have b7 : Below w6.heap.size w6 w7 := ((Below.refl _ w6).alloc (Nat.le_refl _) _).grown g9 (by simp) (fun k hk => by cases hk; exact Nat.le_refl _)
        have bb7 := Below.next bb6 b7
        have hz6 := b6.size
        replace kr := kr.below b7
        have hap : ∀ g, (Value.slice A8 (mkS n (limbs (X / Nat.gcd X Y))).2.length c8).ownBlock = some g → v9.ownBlock ≠ some g := fun g h1 h2 => by
          have := (own_lt o8 h1).2
          have := (own_lt o9 h2).1
          omega
        replace o8 := own_up o8 b7
        replace o9 : w7.ownsRow w6.heap.size 3 1 v9 (limbs (Y / Nat.gcd X Y)).length (intsV (limbs (Y / Nat.gcd X Y))) := by simpa [intsV_length] using o9
        obtain ⟨A9, c9, rfl⟩ := own_len o9
        have cz0 := kr.here.cell 0 _ rfl
        have cz1 := kr.here.cell 1 _ rfl
        have cz2 := kr.here.cell 2 _ rfl
        have fz0 := Lib.frozen_of_heap kr.here 0
        have fz1 := Lib.frozen_of_heap kr.here 1
        have fz2 := Lib.frozen_of_heap kr.here 2
        have HR := Lib.hid (newQb_ret (x := (mkS n (limbs (X / Nat.gcd X Y)), limbs (Y / Nat.gcd X Y))) (b := true) kr.here o8 o9 hap bb5.size bb6.size (Nat.le_refl _) bb7)
        clear g9 b7 hap o8 o9 o6 kr HONE hq
        go_wp2
        refine bodyPost_ret (v := .tuple #[.agg #[.bool _, .slice A8 _ c8, .slice A9 _ c9], .bool true]) (by simp [results, Tryz.results140, go_sem, cz0, cz1, cz2]; exact ⟨rfl, rfl, rfl⟩) rfl ?_
        rw [HV.out]
        exact HR.out
      · have h3 : decide ((18 : Int) < ((limbs (Y / Nat.gcd X Y)).length : Int)) = true := decide_eq_true (by omega)
        have HV := Lib.hid (show lowQ n X Y = (zeroQ, false) by rw [HLOW.out, if_neg (fun h => hq h.2)])
        have cz0 := kr.here.cell 0 _ rfl
        have cz1 := kr.here.cell 1 _ rfl
        have cz2 := kr.here.cell 2 _ rfl
        have fz0 := Lib.frozen_of_heap kr.here 0
        have fz1 := Lib.frozen_of_heap kr.here 1
        have fz2 := Lib.frozen_of_heap kr.here 2
        clear hp hq o4 o6 kr
        go_wp2
        refine bodyPost_ret (v := .tuple #[.agg #[.bool false, .slice none 0 0, .slice none 0 0], .bool false]) (by simp [results, Tryz.results140, go_sem, cz0, cz1, cz2]) rfl ?_
        rw [HV.out]
        exact newQb_zero _ (below_set3 bb5 (Nat.le_refl _))
    · have h2 : decide ((18 : Int) < ((limbs (X / Nat.gcd X Y)).length : Int)) = true := decide_eq_true (by omega)
      have HV := Lib.hid (show lowQ n X Y = (zeroQ, false) by rw [HLOW.out, if_neg (fun h => hp h.1)])
      have cz0 := kr.here.cell 0 _ rfl
      have cz1 := kr.here.cell 1 _ rfl
      have cz2 := kr.here.cell 2 _ rfl
      have fz0 := Lib.frozen_of_heap kr.here 0
      have fz1 := Lib.frozen_of_heap kr.here 1
      have fz2 := Lib.frozen_of_heap kr.here 2
      clear hp o4 o6 kr
      go_wp2
      refine bodyPost_ret (v := .tuple #[.agg #[.bool false, .slice none 0 0, .slice none 0 0], .bool false]) (by simp [results, Tryz.results140, go_sem, cz0, cz1, cz2]) rfl ?_
      rw [HV.out]
      exact newQb_zero _ (below_set3 bb5 (Nat.le_refl _))
  · have h1 : (((limbs Y).length : Int) == 0) = true := by rw [beq_iff_eq]; omega
    have HV := Lib.hid (show lowQ n X Y = (zeroQ, false) by unfold lowQ; simp [limbs_empty hy])
    have cz0 := kr.here.cell 0 _ rfl
    have cz1 := kr.here.cell 1 _ rfl
    have cz2 := kr.here.cell 2 _ rfl
    have fz0 := Lib.frozen_of_heap kr.here 0
    have fz1 := Lib.frozen_of_heap kr.here 1
    have fz2 := Lib.frozen_of_heap kr.here 2
    clear hy o1 o2 kr
    go_wp2
    refine bodyPost_ret (v := .tuple #[.agg #[.bool false, .slice none 0 0, .slice none 0 0], .bool false]) (by simp [results, Tryz.results140, go_sem, cz0, cz1, cz2]) rfl ?_
    rw [HV.out]
    exact newQb_zero _ bb0
end Go.Proofs.YtbpfabicampdkaaGreatDoor

namespace Go.Proofs.YtbpfabicampdkaaGreatDoor
open Go.RowKit

def topN (q : QI) : Nat := (nval q.1.2).toNat
structure Parts (q : QI) : Prop where
  okn : okS q.1 = true
  okd : natOkB q.2 = true
  n50 : q.1.2.length ≤ 18
  d50 : q.2.length ≤ 18
  n : q.1.2 = limbs (topN q)
  d : q.2 = limbs (denQ q)
  nlt : (topN q : Int) < bp 18
  dlt : (denQ q : Int) < bp 18
  pos : 0 < denQ q
  top : numQ q = if q.1.1 = true then -(topN q : Int) else topN q
theorem parts_of {q : QI} (h : okQ q = true) : Parts q := by
  obtain ⟨h1, h2, h3, h4, h5, h6⟩ := okQ_parts h
  have p1 := okS_parts h1
  have n1 := nval_ok p1.1
  have n2 := nval_ok h2
  have l1 := nval_lt _ (natOk_parts p1.1).1
  have l2 := nval_lt _ (natOk_parts h2).1
  have m1 := bp_mono h5
  have m2 := bp_mono h4
  refine ⟨h1, h2, h5, h4, natOk_limbs p1.1, natOk_limbs h2, by unfold topN; omega, by unfold denQ; omega, denQ_pos h, ?_⟩
  unfold numQ valS topN
  split <;> omega
theorem prod_lt {X Y : Nat} (hx : (X : Int) < bp 18) (hy : (Y : Int) < bp 18) : ((X * Y : Nat) : Int) < bp 36 := by
  have e : bp 36 = bp 18 * bp 18 := bp_add 18 18
  have p := bp_pos 18
  rw [e, Int.natCast_mul]
  rcases Nat.eq_zero_or_pos Y with h | h
  · subst h
    have := Int.mul_pos p p
    simpa using this
  · have h1 : (X : Int) * Y < bp 18 * Y := Int.mul_lt_mul_of_pos_right hx (by omega)
    have h2 : bp 18 * (Y : Int) ≤ bp 18 * bp 18 := Int.mul_le_mul_of_nonneg_left (by omega) (by omega)
    omega
theorem prod_len {X Y : Nat} (hx : (X : Int) < bp 18) (hy : (Y : Int) < bp 18) : (limbs (X * Y)).length ≤ 36 := limbs_length_le _ 36 (prod_lt hx hy)
theorem mul_toNat {a b : List Int} (ha : natOkB a = true) (hb : natOkB b = true) : (nval a * nval b).toNat = (nval a).toNat * (nval b).toNat := by
  have n1 := nval_ok ha
  have n2 := nval_ok hb
  rw [Int.toNat_mul n1 n2]
theorem bp37 : bp 36 + bp 36 ≤ bp 37 := by
  have e : bp 37 = 1000000000 * bp 36 := rfl
  have p := bp_pos 36
  omega
/-- a cross product with its sign -/
theorem cross_ofZ {n : Bool} {X Y : Nat} : mkS n (limbs (X * Y)) = ofZ (if n = true then -((X * Y : Nat) : Int) else ((X * Y : Nat) : Int)) ∧ okS (mkS n (limbs (X * Y))) = true ∧ (mkS n (limbs (X * Y))).2.length ≤ 50 := by
  rw [mkS_limbs]
  exact ⟨rfl, ofZ_ok _, ofZ_len _⟩
theorem cross_val {n : Bool} {X Y : Nat} (hx : (X : Int) < bp 18) (hy : (Y : Int) < bp 18) : valS (mkS n (limbs (X * Y))) = (if n = true then -(X : Int) else X) * Y := by
  have h := limbs_length_le _ 36 (prod_lt hx hy)
  rw [mkS_limbs, ofZ_val]
  · split
    · rw [Int.natCast_mul, Int.neg_mul]
    · rw [Int.natCast_mul]
  · rw [show (if n = true then -((X * Y : Nat) : Int) else ((X * Y : Nat) : Int)).natAbs = X * Y by split <;> omega]
    omega
theorem abs_lt {z : Int} {m : Nat} {b : Int} (h : z.natAbs = m) (hb : (m : Int) < b) : -b < z ∧ z < b := by omega
theorem cross_lt {n : Bool} {X Y : Nat} (hx : (X : Int) < bp 18) (hy : (Y : Int) < bp 18) : -(bp 36) < (if n = true then -(X : Int) else X) * Y ∧ (if n = true then -(X : Int) else X) * Y < bp 36 := by
  have h := prod_lt hx hy
  refine abs_lt (m := X * Y) ?_ h
  split
  · rw [Int.neg_mul, Int.natAbs_neg, ← Int.natCast_mul]; omega
  · rw [← Int.natCast_mul]; omega
/-- the sum of two cross products -/
theorem sum_ofZ {z : Int} (h1 : -(bp 37) < z) (h2 : z < bp 37) : ofZ z = (decide (z < 0), limbs z.natAbs) ∧ (limbs z.natAbs).length ≤ 37 := by
  have hl := limbs_length_le z.natAbs 37 (by omega)
  unfold ofZ
  rw [if_pos (by omega)]
  exact ⟨rfl, hl⟩
theorem lowQ_sz (n : Bool) (a b : Nat) : szQ (lowQ n a b).1 ≤ 1048576 := by
  unfold lowQ
  split
  · rename_i h
    unfold szQ szS szI
    simp only
    have : (mkS n (limbs (a / Nat.gcd a b))).2.length ≤ 50 := by rw [mkS_limbs]; exact ofZ_len _
    omega
  · decide
theorem zeroQ_sz : szQ zeroQ ≤ 1048576 := by decide
/-- a result that lies in its cells at block r: a new fraction and a bool with it -/
theorem newQb_at {r B : Nat} {S : List Nat} {c0 c1 c2 : Value} {x : QI} {b : Bool} {w W : World} (o : At S (OwnQ (.agg #[c0, c1, c2]) x) W) (l : Within S B W.heap.size) (hrB : r < B) (hr : w.heap.size ≤ r) (hW : Below w.heap.size w W) :
    PostQb x b w (.returned (.tuple #[.agg #[c0, c1, c2], .bool b])) (((W.setCell ⟨r, 0, none⟩ c0).setCell ⟨r, 1, none⟩ c1).setCell ⟨r, 2, none⟩ c2) := by
  have hc : Chg [r] W (((W.setCell ⟨r, 0, none⟩ c0).setCell ⟨r, 1, none⟩ c1).setCell ⟨r, 2, none⟩ c2) := (((Chg.refl _ _).setCell (by simp) _).setCell (by simp) _).setCell (by simp) _
  have hz := hc.size
  exact ⟨_, S, rfl, o.chg hc (fun i hi hm => by have := l i hi; simp at hm; omega), fun i hi => by have := l i hi; omega, below_set3 hW hr⟩
theorem Chg.setNew {T : List Nat} {w w1 : World} {p : Addr} (h : Chg T w w1) (hp : w.heap.size ≤ p.block) (u : Value) : Chg T w (w1.setCell p u) :=
  ⟨h.os, h.tape, h.output, by simpa [World.setCell] using h.size, fun i hi hn => (Below.heap_setCell _ _ _ _ (by omega)).trans (h.block i hi hn)⟩
theorem below_of_chg {w w1 : World} (h : Chg [] w w1) : Below w.heap.size w w1 := ⟨h.os, h.tape, h.output, h.size, fun i hi => h.block i hi (by simp)⟩
theorem mulX_any (va vb : Value) (a b : List Int) (X : Nat) (w : World) (hal : a.length ≤ 18) (hbl : b.length ≤ 18) (oa : natOkB a = true) (ob : natOkB b = true) (hX : (nval a * nval b).toNat = X) (ha : OwnI va a w) (hb : OwnI vb b w) :
    Calls Tryz.prog 141 #[va, vb] w (NewV (fun u => OwnI u (limbs X)) w) := by
  subst hX
  exact (specMulV_any va vb a b 0 _ 0 _ w (by omega) (by omega) (Nat.le_refl _) (Nat.le_refl _) (natOk_parts oa).1 (natOk_parts ob).1 ha.row hb.row).mono fun _ _ h => h.newV
theorem makeX_any (n : Bool) (v : Value) (X : Nat) (A : SI) (w : World) (hl : (limbs X).length ≤ 50) (hA : mkS n (limbs X) = A) (ho : OwnI v (limbs X) w) : Calls Tryz.prog 135 #[.bool n, v] w (NewV (fun u => OwnS u A) w) := by
  subst hA
  have h := l04Make_any n v (limbs X) 0 w (by omega) ho
  rw [trim_ok] at h
  exact h.mono fun _ _ h => h.newV
theorem lowX_any (n : Bool) (va vb : Value) (a b : List Int) (X Y : Nat) (w : World) (hX : (limbs X).length ≤ 50) (hY : (limbs Y).length ≤ 50) (ha : a = limbs X) (hb : b = limbs Y) (oa : OwnI va a w) (ob : OwnI vb b w) :
    Calls Tryz.prog 140 #[.bool n, va, vb] w (PostQb (lowQ n X Y).1 (lowQ n X Y).2 w) := by
  subst ha hb
  exact l05Low_any n va vb X Y w hX hY oa ob
end Go.Proofs.YtbpfabicampdkaaGreatDoor
