/-
  Chapter 5 of package impl: IntOk.
-/
import Derived.Test.YtofehcpapdlcnaaSignSpec
import Derived.Test.YtofehcpapdlcnaaNatImpl
namespace Go.Proofs.Ytofehcpapdlcnaa
open Go.RowKit

set_option maxHeartbeats 400000 in
set_option maxRecDepth 100000 in
theorem implIntOk_any (v : Value) (x : SI) (w : World) (hl : x.2.length ≤ 1048576) (h : RdS w v x) :
    Calls Try.prog 28 #[v] w fun e w' => e = .returned (.bool (okS x)) ∧ Below w.heap.size w w' := by
  obtain ⟨n, xs⟩ := x
  obtain ⟨u, rfl, hp⟩ := h
  obtain ⟨A, c, rfl⟩ := row_form hp
  rw [intsV_length] at hp ⊢
  simp only at hl hp ⊢
  have hbx : Below w.heap.size w (w.alloc (.cells #[.bool n, .slice A xs.length c] 29)) := below_al (Below.refl _ _) _
  have HV := Lib.hid (show okS (n, xs) = (natOkB xs && (!n || decide (0 < xs.length))) from rfl)
  by_cases ok : natOkB xs = true
  · rw [ok] at HV
    go_enter Try.func28, Try.ntmps28
    go_wp2_with fail
    refine (implNatOk_same _ xs 0 w.heap.size _ (by omega) (hp.below hbx (Nat.le_refl _))).mono ?_
    rintro e w1 ⟨rfl, rfl⟩
    rw [ok]
    by_cases hz : xs.length = 0
    · have hb : ((xs.length : Int) == 0) = true := by rw [hz]; rfl
      have hd : decide (0 < xs.length) = false := decide_eq_false (by omega)
      rw [hd] at HV
      clear hz hd
      cases n <;>
      · go_wp2
        go_ret
        exact ⟨ret_bool (by rw [HV.out]; rfl), hbx⟩
    · have hb : ((xs.length : Int) == 0) = false := by rw [beq_eq_false_iff_ne]; omega
      have hd : decide (0 < xs.length) = true := decide_eq_true (by omega)
      rw [hd] at HV
      clear hz hd
      cases n <;>
      · go_wp2
        go_ret
        exact ⟨ret_bool (by rw [HV.out]; rfl), hbx⟩
  · have ok' : natOkB xs = false := by simpa using ok
    rw [ok'] at HV
    clear ok
    go_enter Try.func28, Try.ntmps28
    go_wp2_with fail
    refine (implNatOk_same _ xs 0 w.heap.size _ (by omega) (hp.below hbx (Nat.le_refl _))).mono ?_
    rintro e w1 ⟨rfl, rfl⟩
    rw [ok']
    go_wp2
    go_ret
    exact ⟨ret_bool (by rw [HV.out]; rfl), hbx⟩

theorem Below.drew1 {B : Nat} {w w1 : World} (h : Below B w w1) : Below B w w1.drew := ⟨h.os, h.tape, h.output, h.size, h.block⟩
end Go.Proofs.Ytofehcpapdlcnaa
