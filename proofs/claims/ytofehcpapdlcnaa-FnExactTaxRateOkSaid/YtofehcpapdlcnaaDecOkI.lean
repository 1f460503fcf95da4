/-
  Chapter 8 of package impl: DecOk.
-/
import Derived.Test.YtofehcpapdlcnaaDecSpec
import Derived.Test.YtofehcpapdlcnaaIntOkI
namespace Go.Proofs.Ytofehcpapdlcnaa
open Go.RowKit

set_option maxHeartbeats 1000000 in
set_option maxRecDepth 100000 in
theorem implDecOk_any (vd : Value) (d : DI) (w : World) (hl : d.1.2.length ≤ 1048576) (hd : OwnD vd d w) :
    Calls Try.prog 15 #[vd] w (Postb (okD d) w) := by
  have Hd := Lib.hid hd
  obtain ⟨Ad, cd, rfl⟩ := ownD_form hd
  have ODd := Lib.hid (show ∀ W, Below w.heap.size w W → OwnD (.agg #[.bool d.1.1, .slice Ad d.1.2.length cd, .int .i64 d.2]) d W from fun W hb => OwnD.below Hd.out hb)
  have OId := Lib.hid (show ∀ W, Below w.heap.size w W → OwnI (.slice Ad d.1.2.length cd) d.1.2 W from fun W hb => ownD_open (ODd.out W hb))
  have OSd := Lib.hid (show ∀ W, Below w.heap.size w W → OwnS (.agg #[.bool d.1.1, .slice Ad d.1.2.length cd]) d.1 W from fun W hb => OwnS.mk (OId.out W hb))
  clear hd
  have bb0 : Below w.heap.size w (w.alloc (.cells #[.bool d.1.1, .slice Ad d.1.2.length cd, .int .i64 d.2] 31)) := below_al (Below.refl _ _) _
  have kd := (box_new w #[.bool d.1.1, .slice Ad d.1.2.length cd, .int .i64 d.2] 31)
  go_enter Try.func15, Try.ntmps15
  have kd_c0 := kd.here.cell 0 _ rfl
  have kd_c1 := kd.here.cell 1 _ rfl
  have kd_c2 := kd.here.cell 2 _ rfl
  go_wp2_with fail
  clear kd_c0 kd_c1 kd_c2
  refine (implIntOk_any _ d.1 _ hl (OwnS.rd (OSd.out _ bb0))).mono ?_
  rintro e w1 ⟨rfl, b1⟩
  have bb1 := Below.next bb0 b1
  replace kd := kd.below b1
  by_cases ok1 : okS d.1 = true
  · rw [ok1]
    have HO1 := Lib.hid ok1
    clear ok1
    by_cases hs : d.1.2.length ≤ 6
    · have HV0 := Lib.hid (show okD d = decide (0 ≤ d.2 ∧ d.2 ≤ 30) by unfold okD; rw [HO1.out, decide_eq_true hs]; rfl)
      have hs6 : (d.1.2.length : Int) ≤ 6 := by omega
      have hs7 : ¬ (6 : Int) < (d.1.2.length : Int) := by omega
      clear hs
      have kd_c0 := kd.here.cell 0 _ rfl
      have kd_c1 := kd.here.cell 1 _ rfl
      have kd_c2 := kd.here.cell 2 _ rfl
      by_cases h0 : 0 ≤ d.2
      · have h0n : ¬ d.2 < 0 := by omega
        have HV := Lib.hid (show okD d = decide (d.2 ≤ 30) by rw [HV0.out, decide_eq_decide]; exact ⟨fun h => h.2, fun h => ⟨h0, h⟩⟩)
        go_wp2
        go_ret
        exact ⟨ret_bool HV.out.symm, bb1⟩
      · have h0n : d.2 < 0 := by omega
        have HV := Lib.hid (show okD d = false by rw [HV0.out]; exact decide_eq_false (fun h => h0 h.1))
        go_wp2
        go_ret
        exact ⟨ret_bool HV.out.symm, bb1⟩
    · have HV := Lib.hid (show okD d = false by unfold okD; rw [decide_eq_false hs, Bool.false_and, Bool.and_false])
      have hs6 : ¬ (d.1.2.length : Int) ≤ 6 := by omega
      have hs7 : (6 : Int) < (d.1.2.length : Int) := by omega
      clear hs
      have kd_c0 := kd.here.cell 0 _ rfl
      have kd_c1 := kd.here.cell 1 _ rfl
      have kd_c2 := kd.here.cell 2 _ rfl
      go_wp2
      go_ret
      exact ⟨ret_bool HV.out.symm, bb1⟩
  · have ok1' : okS d.1 = false := by simpa using ok1
    have HV := Lib.hid (show okD d = false by unfold okD; rw [ok1']; rfl)
    rw [ok1']
    clear ok1 ok1'
    go_wp2
    go_ret
    exact ⟨ret_bool HV.out.symm, bb1⟩
end Go.Proofs.Ytofehcpapdlcnaa
