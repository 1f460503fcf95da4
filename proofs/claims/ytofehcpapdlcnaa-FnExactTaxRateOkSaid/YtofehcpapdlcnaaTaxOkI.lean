/-
  Chapter 14 of package impl: TaxRateOk.
-/
import Derived.Test.YtofehcpapdlcnaaTaxB
import Derived.Test.YtofehcpapdlcnaaDecImpl2
import Derived.Test.YtofehcpapdlcnaaSignImpl4
import Derived.Test.YtofehcpapdlcnaaSignImplCmp
namespace Go.Proofs.Ytofehcpapdlcnaa
open Go.RowKit

set_option maxHeartbeats 4000000 in
set_option maxRecDepth 100000 in
theorem implTaxRateOk_any (vd : Value) (d : DI) (w : World) (hl : d.1.2.length ≤ 1048576) (hd : OwnD vd d w) :
    Calls Try.prog 7 #[vd] w (Postb (taxB d) w) := by
  have Hd := Lib.hid hd
  obtain ⟨Ad, cd, rfl⟩ := ownD_form hd
  have ODd := Lib.hid (show ∀ W, Below w.heap.size w W → OwnD (.agg #[.bool d.1.1, .slice Ad d.1.2.length cd, .int .i64 d.2]) d W from fun W hb => OwnD.below Hd.out hb)
  have OId := Lib.hid (show ∀ W, Below w.heap.size w W → OwnI (.slice Ad d.1.2.length cd) d.1.2 W from fun W hb => ownD_open (ODd.out W hb))
  have OSd := Lib.hid (show ∀ W, Below w.heap.size w W → OwnS (.agg #[.bool d.1.1, .slice Ad d.1.2.length cd]) d.1 W from fun W hb => OwnS.mk (OId.out W hb))
  clear hd
  have bb0 : Below w.heap.size w (w.alloc (.cells #[.bool d.1.1, .slice Ad d.1.2.length cd, .int .i64 d.2] 31)) := below_al (Below.refl _ _) _
  have kd := (box_new w #[.bool d.1.1, .slice Ad d.1.2.length cd, .int .i64 d.2] 31)
  obtain ⟨O, hO⟩ : ∃ O, ofZ 1 = O := ⟨_, rfl⟩
  have HOL := Lib.hid (show O.2.length ≤ 1048576 by have := ofZ_len 1; rw [hO] at this; omega)
  obtain ⟨c, hc⟩ : ∃ c, cmpD d oneD = c := ⟨_, rfl⟩
  have EC0 := Lib.hid hc
  have EC := Lib.hid (show cmpD d (O, 0) = c by rw [← hO]; exact hc)
  have EO := Lib.hid hO
  clear hO hc
  go_enter Try.func7, Try.ntmps7
  go_wp2_with fail
  refine ((implIntOf_any 1 _ (by omega) (by omega)).mono fun _ _ h => newS_is EO.out h).mono ?_
  rintro e w1 ⟨ui, Si, rfl, oi, li, b1⟩
  obtain ⟨Ai, ci, rfl⟩ := ownS_form oi.here
  have bb1 := Below.next bb0 b1
  replace kd := kd.below b1
  have ke := box_new (w1) #[.bool O.1, .slice Ai O.2.length ci, .int .i64 0] 31
  have ale := below_al (Below.refl (w1).heap.size (w1)) (.cells #[.bool O.1, .slice Ai O.2.length ci, .int .i64 0] 31)
  have bbe := Below.next bb1 ale
  replace kd := kd.below ale
  replace oi := oi.below ale
  have kd_c0 := kd.here.cell 0 _ rfl
  have kd_c1 := kd.here.cell 1 _ rfl
  have kd_c2 := kd.here.cell 2 _ rfl
  go_wp2_with fail
  clear kd_c0 kd_c1 kd_c2
  refine (implDecOk_any _ d _ hl (ODd.out _ bbe)).mono ?_
  rintro e w2 ⟨rfl, b2⟩
  have bb2 := Below.next bbe b2
  replace kd := kd.below b2
  replace oi := oi.below b2
  replace ke := ke.below b2
  by_cases ok : okD d = true
  · rw [ok]
    have HO := Lib.hid ok
    have hso := (partsD ok).ok
    have HSO := Lib.hid hso
    clear ok hso
    by_cases hs : d.1.2.length ≤ 1
    · have hs1 : (d.1.2.length : Int) ≤ 1 := by omega
      have HS1 := Lib.hid hs
      clear hs
      have kd_c0 := kd.here.cell 0 _ rfl
      have kd_c1 := kd.here.cell 1 _ rfl
      have kd_c2 := kd.here.cell 2 _ rfl
      go_wp2_with fail
      clear kd_c0 kd_c1 kd_c2
      refine (implIntSign_any _ d.1 _ hl (OSd.out _ bb2)).mono ?_
      rintro e w3 ⟨rfl, b3⟩
      have bb3 := Below.next bb2 b3
      replace kd := kd.below b3
      replace oi := oi.below b3
      replace ke := ke.below b3
      have hsg := sign_neg HSO.out
      generalize cmpS d.1 zeroS = s at *
      by_cases hn : s < 0
      · have HV := Lib.hid (show taxB d = false from taxB_neg (by rw [← hsg]; exact decide_eq_true hn))
        have hn1 : ¬ 0 ≤ s := by omega
        clear hsg
        go_wp2
        go_ret
        exact ⟨ret_bool HV.out.symm, bb3⟩
      · have HV := Lib.hid (show taxB d = decide (c ≤ 0) by rw [← EC0.out]; exact taxB_is HO.out (by rw [← hsg]; exact decide_eq_false hn) HS1.out)
        have hn1 : 0 ≤ s := by omega
        clear hsg
        have kd_c0 := kd.here.cell 0 _ rfl
        have kd_c1 := kd.here.cell 1 _ rfl
        have kd_c2 := kd.here.cell 2 _ rfl
        have ke_c0 := ke.here.cell 0 _ rfl
        have ke_c1 := ke.here.cell 1 _ rfl
        have ke_c2 := ke.here.cell 2 _ rfl
        go_wp2_with fail
        clear kd_c0 kd_c1 kd_c2 ke_c0 ke_c1 ke_c2
        refine ((implDecCmp_any _ _ d (O, 0) _ hl HOL.out (ODd.out _ bb3) (OwnD.mk (q := (O, 0)) (ownS_openD oi.here))).mono fun _ _ h => postn_eqD EC.out h).mono ?_
        rintro e w4 ⟨rfl, b4⟩
        have bb4 := Below.next bb3 b4
        replace kd := kd.below b4
        replace oi := oi.below b4
        replace ke := ke.below b4
        clear oi kd ke
        go_wp2
        go_ret
        exact ⟨ret_bool HV.out.symm, bb4⟩
    · have HV := Lib.hid (show taxB d = false from taxB_long hs)
      have hs1 : ¬ (d.1.2.length : Int) ≤ 1 := by omega
      have hs2 : (1 : Int) < (d.1.2.length : Int) := by omega
      clear hs
      have kd_c0 := kd.here.cell 0 _ rfl
      have kd_c1 := kd.here.cell 1 _ rfl
      have kd_c2 := kd.here.cell 2 _ rfl
      go_wp2
      go_ret
      exact ⟨ret_bool HV.out.symm, bb2⟩
  · have ok' : okD d = false := by simpa using ok
    rw [ok']
    have HV := Lib.hid (show taxB d = false from taxB_bad ok')
    clear ok ok'
    go_wp2
    go_ret
    exact ⟨ret_bool HV.out.symm, bb2⟩
end Go.Proofs.Ytofehcpapdlcnaa
