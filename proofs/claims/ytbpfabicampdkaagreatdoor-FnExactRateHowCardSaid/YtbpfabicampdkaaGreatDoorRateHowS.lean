/-
  Chapter 11 of package spec: how a rate is found (l10Leg, RateHow).
-/
import Derived.Test.YtbpfabicampdkaaGreatDoorJB4
namespace Go.Proofs.YtbpfabicampdkaaGreatDoor
open Go.RowKit

set_option maxHeartbeats 2000000 in
set_option maxRecDepth 100000 in
theorem l10Leg_any (v : Value) (t : TI) (p q : ByteArray) (w : World) (hl : t.2.length ≤ 1099511627776) (h : OwnTR w v t) :
    Calls Tryz.prog 74 #[v, .string p, .string q] w (Postn (legT t.2 p q) w) := by
  obtain ⟨A, c, rfl, hr⟩ := ownTR_form h
  have HR := Lib.hid (show ∀ W, Below w.heap.size w W → OwnER W (.slice A t.2.length c) t.2 from fun W h => hr.below h)
  have HTR := Lib.hid (show ∀ W, Below w.heap.size w W → OwnTR W (.agg #[.string t.1, .slice A t.2.length c]) t from fun W h => ⟨_, rfl, hr.below h⟩)
  clear h hr
  have bb0 : Below w.heap.size w (w.alloc (.cells #[.string t.1, .slice A t.2.length c] 25)) := below_al (Below.refl _ _) _
  have kt := (box_new w #[.string t.1, .slice A t.2.length c] 25)
  go_enter Tryz.func74, Tryz.ntmps74
  have kt_c0 := kt.here.cell 0 _ rfl
  have kt_c1 := kt.here.cell 1 _ rfl
  go_wp2_with fail
  clear kt_c0 kt_c1
  refine (l10At_any _ t.2 p q _ (by omega) (HR.out _ bb0)).mono ?_
  rintro e w1 ⟨rfl, b1⟩
  have bb1 := Below.next bb0 b1
  replace kt := kt.below b1
  have HE := Lib.hid (show legT t.2 p q = if 0 ≤ posE t.2 p q then 2 else if 0 ≤ posE t.2 q p then 3 else 0 from rfl)
  generalize posE t.2 p q = z at *
  by_cases h0 : 0 ≤ z
  · have HV := Lib.hid (show legT t.2 p q = 2 by rw [HE.out, if_pos h0])
    have hz : decide (0 ≤ z) = true := decide_eq_true h0
    clear kt
    go_wp2
    go_ret
    exact ⟨ret_int HV.out.symm, bb1⟩
  · have HE2 := Lib.hid (show legT t.2 p q = if 0 ≤ posE t.2 q p then 3 else 0 by rw [HE.out, if_neg h0])
    have hz : decide (0 ≤ z) = false := decide_eq_false h0
    clear HE
    have kt_c0 := kt.here.cell 0 _ rfl
    have kt_c1 := kt.here.cell 1 _ rfl
    go_wp2_with fail
    clear kt_c0 kt_c1
    refine (l10At_any _ t.2 q p _ (by omega) (HR.out _ bb1)).mono ?_
    rintro e w2 ⟨rfl, b2⟩
    have bb2 := Below.next bb1 b2
    replace kt := kt.below b2
    clear hz h0
    generalize posE t.2 q p = y at *
    by_cases h1 : 0 ≤ y
    · have HV := Lib.hid (show legT t.2 p q = 3 by rw [HE2.out, if_pos h1])
      have hz : decide (0 ≤ y) = true := decide_eq_true h1
      clear kt
      go_wp2
      go_ret
      exact ⟨ret_int HV.out.symm, bb2⟩
    · have HV := Lib.hid (show legT t.2 p q = 0 by rw [HE2.out, if_neg h1])
      have hz : decide (0 ≤ y) = false := decide_eq_false h1
      clear kt
      go_wp2
      go_ret
      exact ⟨ret_int HV.out.symm, bb2⟩
set_option maxHeartbeats 4000000 in
set_option maxRecDepth 100000 in
theorem specRateHow_any (v : Value) (t : TI) (p q : ByteArray) (w : World) (hl : t.2.length ≤ 1099511627776) (hx : ∀ x ∈ t.2, x.2.2.1.2.length ≤ 1048576) (h : OwnTR w v t) :
    Calls Tryz.prog 27 #[v, .string p, .string q] w (Postn (howT t p q) w) := by
  obtain ⟨A, c, rfl, hr⟩ := ownTR_form h
  have HR := Lib.hid (show ∀ W, Below w.heap.size w W → OwnER W (.slice A t.2.length c) t.2 from fun W h => hr.below h)
  have HTR := Lib.hid (show ∀ W, Below w.heap.size w W → OwnTR W (.agg #[.string t.1, .slice A t.2.length c]) t from fun W h => ⟨_, rfl, hr.below h⟩)
  clear h hr
  have bb0 : Below w.heap.size w (w.alloc (.cells #[.string t.1, .slice A t.2.length c] 25)) := below_al (Below.refl _ _) _
  have kt := (box_new w #[.string t.1, .slice A t.2.length c] 25)
  go_enter Tryz.func27, Tryz.ntmps27
  have kt_c0 := kt.here.cell 0 _ rfl
  have kt_c1 := kt.here.cell 1 _ rfl
  go_wp2_with fail
  clear kt_c0 kt_c1
  refine (specRatesOk_any _ t _ hl hx (HTR.out _ bb0)).mono ?_
  rintro e w1 ⟨rfl, b1⟩
  have bb1 := Below.next bb0 b1
  replace kt := kt.below b1
  clear hx
  by_cases ok0 : okT t = true
  · rw [ok0]
    have HOok0 := Lib.hid ok0
    clear ok0
    have kt_c0 := kt.here.cell 0 _ rfl
    have kt_c1 := kt.here.cell 1 _ rfl
    go_wp2_with fail
    clear kt_c0 kt_c1
    refine (specCurKnown_any p _).mono ?_
    rintro e w2 ⟨rfl, b2⟩
    have bb2 := Below.next bb1 b2
    replace kt := kt.below b2
    by_cases ok1 : knownC p = true
    · rw [ok1]
      have HOok1 := Lib.hid ok1
      clear ok1
      have kt_c0 := kt.here.cell 0 _ rfl
      have kt_c1 := kt.here.cell 1 _ rfl
      go_wp2_with fail
      clear kt_c0 kt_c1
      refine (specCurKnown_any q _).mono ?_
      rintro e w3 ⟨rfl, b3⟩
      have bb3 := Below.next bb2 b3
      replace kt := kt.below b3
      by_cases ok2 : knownC q = true
      · rw [ok2]
        have HOok2 := Lib.hid ok2
        clear ok2
        have HE := Lib.hid (show howT t p q = if p = q then 1 else if legT t.2 p q ≠ 0 then legT t.2 p q else if ¬ p = t.1 ∧ ¬ q = t.1 ∧ legT t.2 p t.1 ≠ 0 ∧ legT t.2 t.1 q ≠ 0 then 4 else 0 by unfold howT; rw [if_pos ⟨HOok0.out, HOok1.out, HOok2.out⟩])
        clear HOok0 HOok1 HOok2
        by_cases ab : p = q
        · have HV := Lib.hid (show howT t p q = 1 by rw [HE.out, if_pos ab])
          have e1 : (p.toList == q.toList) = true := by rw [ab]; exact beq_self_eq_true _
          clear ab kt
          go_wp2
          go_ret
          exact ⟨ret_int HV.out.symm, bb3⟩
        · have HE2 := Lib.hid (show howT t p q = _ from HE.out.trans (if_neg ab))
          have e1 := bytes_neC ab
          clear ab HE
          have kt_c0 := kt.here.cell 0 _ rfl
          have kt_c1 := kt.here.cell 1 _ rfl
          go_wp2_with fail
          clear kt_c0 kt_c1
          refine (l10Leg_any _ t p q _ hl (HTR.out _ bb3)).mono ?_
          rintro e w4 ⟨rfl, b4⟩
          have bb4 := Below.next bb3 b4
          replace kt := kt.below b4
          clear e1
          generalize legT t.2 p q = z at *
          by_cases hz : z = 0
          · have HE3 := Lib.hid (show howT t p q = _ from HE2.out.trans (if_neg (fun h => h hz)))
            subst hz
            clear HE2
            by_cases pa : p = t.1
            · have HV := Lib.hid (show howT t p q = 0 from HE3.out.trans (if_neg (fun h => h.1 pa)))
              have e1 : (p.toList == t.1.toList) = true := by rw [pa]; exact beq_self_eq_true _
              have e2 : (p.toList != t.1.toList) = false := by rw [bne, e1]; rfl
              have kt_c0 := kt.here.cell 0 _ rfl
              have kt_c1 := kt.here.cell 1 _ rfl
              clear pa kt
              go_wp2
              go_ret
              exact ⟨ret_int HV.out.symm, bb4⟩
            · have e1 := bytes_neC pa
              have e2 : (p.toList != t.1.toList) = true := by rw [bne, e1]; rfl
              have PA := Lib.hid pa
              clear pa
              by_cases qa : q = t.1
              · have HV := Lib.hid (show howT t p q = 0 from HE3.out.trans (if_neg (fun h => h.2.1 qa)))
                have e3 : (q.toList == t.1.toList) = true := by rw [qa]; exact beq_self_eq_true _
                have e4 : (q.toList != t.1.toList) = false := by rw [bne, e3]; rfl
                have kt_c0 := kt.here.cell 0 _ rfl
                have kt_c1 := kt.here.cell 1 _ rfl
                clear qa kt
                go_wp2
                go_ret
                exact ⟨ret_int HV.out.symm, bb4⟩
              · have e3 := bytes_neC qa
                have e4 : (q.toList != t.1.toList) = true := by rw [bne, e3]; rfl
                have QA := Lib.hid qa
                clear qa
                have kt_c0 := kt.here.cell 0 _ rfl
                have kt_c1 := kt.here.cell 1 _ rfl
                go_wp2_with fail
                clear kt_c0 kt_c1
                refine (l10Leg_any _ t p t.1 _ hl (HTR.out _ bb4)).mono ?_
                rintro e w5 ⟨rfl, b5⟩
                have bb5 := Below.next bb4 b5
                replace kt := kt.below b5
                clear e1 e2 e3 e4
                generalize legT t.2 p t.1 = y at *
                by_cases hy : y = 0
                · have HV := Lib.hid (show howT t p q = 0 from HE3.out.trans (if_neg (fun h => h.2.2.1 hy)))
                  subst hy
                  clear kt
                  go_wp2
                  go_ret
                  exact ⟨ret_int HV.out.symm, bb5⟩
                · have hy1 : (y != 0) = true := by simpa using hy
                  have HY := Lib.hid hy
                  clear hy
                  have kt_c0 := kt.here.cell 0 _ rfl
                  have kt_c1 := kt.here.cell 1 _ rfl
                  go_wp2_with fail
                  clear kt_c0 kt_c1
                  refine (l10Leg_any _ t t.1 q _ hl (HTR.out _ bb5)).mono ?_
                  rintro e w6 ⟨rfl, b6⟩
                  have bb6 := Below.next bb5 b6
                  replace kt := kt.below b6
                  clear hy1
                  generalize legT t.2 t.1 q = x at *
                  by_cases hx : x = 0
                  · have HV := Lib.hid (show howT t p q = 0 from HE3.out.trans (if_neg (fun h => h.2.2.2 hx)))
                    subst hx
                    clear kt
                    go_wp2
                    go_ret
                    exact ⟨ret_int HV.out.symm, bb6⟩
                  · have HV := Lib.hid (show howT t p q = 4 from HE3.out.trans (if_pos ⟨PA.out, QA.out, HY.out, hx⟩))
                    have hx1 : (x != 0) = true := by simpa using hx
                    clear hx kt
                    go_wp2
                    go_ret
                    exact ⟨ret_int HV.out.symm, bb6⟩
          · have HV := Lib.hid (show howT t p q = z from HE2.out.trans (if_pos hz))
            have hz1 : (z != 0) = true := by simpa using hz
            clear hz kt
            go_wp2
            go_ret
            exact ⟨ret_int HV.out.symm, bb4⟩
      · have ok2' : knownC q = false := by simpa using ok2
        have HV := Lib.hid (show howT t p q = 0 by unfold howT; rw [if_neg (fun h => ok2 h.2.2)])
        rw [ok2']
        clear ok2 ok2' kt
        go_wp2
        go_ret
        exact ⟨ret_int HV.out.symm, bb3⟩
    · have ok1' : knownC p = false := by simpa using ok1
      have HV := Lib.hid (show howT t p q = 0 by unfold howT; rw [if_neg (fun h => ok1 h.2.1)])
      rw [ok1']
      clear ok1 ok1' kt
      go_wp2
      go_ret
      exact ⟨ret_int HV.out.symm, bb2⟩
  · have ok0' : okT t = false := by simpa using ok0
    have HV := Lib.hid (show howT t p q = 0 by unfold howT; rw [if_neg (fun h => ok0 h.1)])
    rw [ok0']
    clear ok0 ok0' kt
    go_wp2
    go_ret
    exact ⟨ret_int HV.out.symm, bb1⟩
end Go.Proofs.YtbpfabicampdkaaGreatDoor
