/-
  RatMoneyI, MoneyRatI, TaxOnI, SignedArg, DecArg, MoneyArg
-/
import Derived.Lib.SmallJoins
import Derived.ChangeArms
import Derived.Test.YtofehcpapdlcnaaGreatDoorJQ9
namespace Go.Proofs.YtofehcpapdlcnaaGreatDoor
open Go.RowKit

set_option maxHeartbeats 4000000 in
set_option maxRecDepth 100000 in
theorem implRatMoney_any (cu : ByteArray) (vr : Value) (r : QI) (m : Int) (w : World) (hz : szQ r ≤ 1048576) (hr : OwnQ vr r w) (ht : CurTab w) (hsen : Sen w) :
    Calls Tryz.prog 39 #[.string cu, vr, .int .i64 m] w (PostMQb (rmM cu r m) (rmQ cu r m) (rmB cu r m) w) := by
  have HT := Lib.hid ht
  have HS := Lib.hid hsen
  clear ht hsen
  have Hr := Lib.hid hr
  obtain ⟨Ar, cr, Br, dr, rfl⟩ := ownQ_form hr
  have OQr := Lib.hid (show ∀ W, Below w.heap.size w W → OwnQ (.agg #[.bool r.1.1, .slice Ar r.1.2.length cr, .slice Br r.2.length dr]) r W from fun W hb => OwnQ.below Hr.out hb)
  clear hr
  have bb0 : Below w.heap.size w (((w.alloc (.cells #[.bool r.1.1, .slice Ar r.1.2.length cr, .slice Br r.2.length dr] 35)).alloc (.cells #[.string ⟨#[]⟩, .bool false, .slice none 0 0] 33)).alloc (.cells #[.bool false, .slice none 0 0, .slice none 0 0] 35)) := below_al (below_al (below_al (Below.refl _ _) _) _) _
  have kr := (box_new w #[.bool r.1.1, .slice Ar r.1.2.length cr, .slice Br r.2.length dr] 35).below (below_al (below_al (Below.refl _ _) (.cells #[.string ⟨#[]⟩, .bool false, .slice none 0 0] 33)) (.cells #[.bool false, .slice none 0 0, .slice none 0 0] 35))
  have ko := (box_new (w.alloc (.cells #[.bool r.1.1, .slice Ar r.1.2.length cr, .slice Br r.2.length dr] 35)) #[.string ⟨#[]⟩, .bool false, .slice none 0 0] 33).below (below_al (Below.refl _ _) (.cells #[.bool false, .slice none 0 0, .slice none 0 0] 35))
  rw [show (w.alloc (.cells #[.bool r.1.1, .slice Ar r.1.2.length cr, .slice Br r.2.length dr] 35)).heap.size = w.heap.size + 1 by simp] at ko
  have kp := (box_new ((w.alloc (.cells #[.bool r.1.1, .slice Ar r.1.2.length cr, .slice Br r.2.length dr] 35)).alloc (.cells #[.string ⟨#[]⟩, .bool false, .slice none 0 0] 33)) #[.bool false, .slice none 0 0, .slice none 0 0] 35)
  rw [show ((w.alloc (.cells #[.bool r.1.1, .slice Ar r.1.2.length cr, .slice Br r.2.length dr] 35)).alloc (.cells #[.string ⟨#[]⟩, .bool false, .slice none 0 0] 33)).heap.size = w.heap.size + 1 + 1 by simp] at kp
  have HKO := Lib.hid (ko.lt (w.heap.size + 1) (by simp))
  have HKP := Lib.hid (kp.lt (w.heap.size + 1 + 1) (by simp))
  have hzX : (restS r m).2.length ≤ 1048576 := restS_len r m
  obtain ⟨X, hX⟩ : ∃ X, restS r m = X := ⟨_, rfl⟩
  obtain ⟨Y, hY⟩ : ∃ Y, restQ r m = Y := ⟨_, rfl⟩
  obtain ⟨rb, hrb⟩ : ∃ b, restB r m = b := ⟨_, rfl⟩
  obtain ⟨⟨Q, qb⟩, hQ⟩ : ∃ Q, makeM cu X = Q := ⟨_, rfl⟩
  have EX := Lib.hid hX
  have EY := Lib.hid hY
  have EQ := Lib.hid hQ
  have EG := Lib.hid (show rb = true → qb = true → rmM cu r m = Q ∧ rmQ cu r m = Y ∧ rmB cu r m = true from fun h1 h2 => by have h := rm_good (cu := cu) (r := r) (m := m) (by rw [hrb]; exact h1) (by rw [hX, hQ]; exact h2); rw [hX, hQ, hY] at h; exact h)
  have EB := Lib.hid (show rb = false ∨ qb = false → rmM cu r m = zeroM ∧ rmQ cu r m = zeroQ ∧ rmB cu r m = false from fun h => rm_bad (by rw [hrb, hX, hQ]; exact h))
  have ER := Lib.hid hrb
  rw [hX] at hzX
  clear hX hY hrb hQ
  generalize rmM cu r m = RM at *
  generalize rmQ cu r m = RQ at *
  generalize rmB cu r m = RB at *
  go_enter Tryz.func39, Tryz.ntmps39
  have kr_c0 := kr.here.cell 0 _ rfl
  have kr_c1 := kr.here.cell 1 _ rfl
  have kr_c2 := kr.here.cell 2 _ rfl
  go_wp2_with fail
  clear kr_c0 kr_c1 kr_c2
  refine ((implRatRest_any _ r m _ hz (OQr.out _ bb0) (HS.out.below bb0)).mono fun _ _ h => postSQb_isM EX.out EY.out ER.out h).mono ?_
  rintro e w1 ⟨ux, uy, Sx, Sy, rfl, ox, oy, hap, lx, ly, b1⟩
  obtain ⟨Ax, cx, rfl⟩ := ownS_form ox.here
  obtain ⟨Ay, cy, By, dy, rfl⟩ := ownQ_form oy.here
  have bb1 := Below.next bb0 b1
  replace kr := kr.below b1
  replace ko := ko.below b1
  replace kp := kp.below b1
  have kx := box_new (w1) #[.bool X.1, .slice Ax X.2.length cx] 31
  have alx := below_al (Below.refl (w1).heap.size (w1)) (.cells #[.bool X.1, .slice Ax X.2.length cx] 31)
  have bbx := Below.next bb1 alx
  replace kr := kr.below alx
  replace ko := ko.below alx
  replace kp := kp.below alx
  replace ox := ox.below alx
  replace oy := oy.below alx
  have ky := box_new ((w1.alloc (.cells #[.bool X.1, .slice Ax X.2.length cx] 31))) #[.bool Y.1.1, .slice Ay Y.1.2.length cy, .slice By Y.2.length dy] 35
  have aly := below_al (Below.refl ((w1.alloc (.cells #[.bool X.1, .slice Ax X.2.length cx] 31))).heap.size ((w1.alloc (.cells #[.bool X.1, .slice Ax X.2.length cx] 31)))) (.cells #[.bool Y.1.1, .slice Ay Y.1.2.length cy, .slice By Y.2.length dy] 35)
  have bby := Below.next bbx aly
  replace kr := kr.below aly
  replace ko := ko.below aly
  replace kp := kp.below aly
  replace ox := ox.below aly
  replace oy := oy.below aly
  replace kx := kx.below aly
  have kx_c0 := kx.here.cell 0 _ rfl
  have kx_c1 := kx.here.cell 1 _ rfl
  go_wp2_with fail
  clear kx_c0 kx_c1
  refine ((validMoney_any cu _ X _ _ hzX ox (HT.out.below bby)).mono fun _ _ h => keptM_eq EQ.out h).mono ?_
  rintro e w2 ⟨um, Sm, rfl, om, sm, b2⟩
  obtain ⟨Am, cm, rfl⟩ := ownM_form om.here
  have bb2 := Below.next bby b2
  replace kr := kr.below b2
  replace ko := ko.below b2
  replace kp := kp.below b2
  replace ox := ox.below b2
  replace oy := oy.below b2
  replace kx := kx.below b2
  replace ky := ky.below b2
  have km := box_new (w2) #[.string Q.1, .bool Q.2.1, .slice Am Q.2.2.length cm] 33
  have alm := below_al (Below.refl (w2).heap.size (w2)) (.cells #[.string Q.1, .bool Q.2.1, .slice Am Q.2.2.length cm] 33)
  have bbm := Below.next bb2 alm
  replace kr := kr.below alm
  replace ko := ko.below alm
  replace kp := kp.below alm
  replace ox := ox.below alm
  replace oy := oy.below alm
  replace kx := kx.below alm
  replace ky := ky.below alm
  replace om := om.below alm
  cases rb with
  | false =>
    have HV := Lib.hid (EB.out (.inl rfl))
    have cko0 := ko.here.cell 0 _ rfl
    have fko0 := Lib.frozen_of_heap ko.here 0
    have cko1 := ko.here.cell 1 _ rfl
    have fko1 := Lib.frozen_of_heap ko.here 1
    have cko2 := ko.here.cell 2 _ rfl
    have fko2 := Lib.frozen_of_heap ko.here 2
    have ckp0 := kp.here.cell 0 _ rfl
    have fkp0 := Lib.frozen_of_heap kp.here 0
    have ckp1 := kp.here.cell 1 _ rfl
    have fkp1 := Lib.frozen_of_heap kp.here 1
    have ckp2 := kp.here.cell 2 _ rfl
    have fkp2 := Lib.frozen_of_heap kp.here 2
    clear ox oy om ko kp kr kx ky km lx ly sm hap
    go_wp2
    refine bodyPost_ret (v := .tuple #[.agg #[.string ⟨#[]⟩, .bool false, .slice none 0 0], .agg #[.bool false, .slice none 0 0, .slice none 0 0], .bool false]) (by simp [results, Tryz.results39, go_sem, cko0, cko1, cko2, ckp0, ckp1, ckp2]) rfl ?_
    rw [HV.out.1, HV.out.2.1, HV.out.2.2]
    have hle1 : w.heap.size ≤ w.heap.size + 1 := by omega
    have hle2 : w.heap.size ≤ w.heap.size + 1 + 1 := by omega
    first | with_reducible exact newMQb_zero (below_set3 (below_set3 bbm hle1) hle2) | with_reducible exact newMQb_zero bbm
  | true =>
    cases qb with
    | false =>
      have HV := Lib.hid (EB.out (.inr rfl))
      have cko0 := ko.here.cell 0 _ rfl
      have fko0 := Lib.frozen_of_heap ko.here 0
      have cko1 := ko.here.cell 1 _ rfl
      have fko1 := Lib.frozen_of_heap ko.here 1
      have cko2 := ko.here.cell 2 _ rfl
      have fko2 := Lib.frozen_of_heap ko.here 2
      have ckp0 := kp.here.cell 0 _ rfl
      have fkp0 := Lib.frozen_of_heap kp.here 0
      have ckp1 := kp.here.cell 1 _ rfl
      have fkp1 := Lib.frozen_of_heap kp.here 1
      have ckp2 := kp.here.cell 2 _ rfl
      have fkp2 := Lib.frozen_of_heap kp.here 2
      clear ox oy om ko kp kr kx ky km lx ly sm hap
      go_wp2
      refine bodyPost_ret (v := .tuple #[.agg #[.string ⟨#[]⟩, .bool false, .slice none 0 0], .agg #[.bool false, .slice none 0 0, .slice none 0 0], .bool false]) (by simp [results, Tryz.results39, go_sem, cko0, cko1, cko2, ckp0, ckp1, ckp2]) rfl ?_
      rw [HV.out.1, HV.out.2.1, HV.out.2.2]
      have hle1 : w.heap.size ≤ w.heap.size + 1 := by omega
      have hle2 : w.heap.size ≤ w.heap.size + 1 + 1 := by omega
      first | with_reducible exact newMQb_zero (below_set3 (below_set3 bbm hle1) hle2) | with_reducible exact newMQb_zero bbm
    | true =>
      have HV := Lib.hid (EG.out rfl rfl)
      have z1 := b1.size
      have z2 := b2.size
      have zx := alx.size
      have zy := aly.size
      have zm := alm.size
      have e1 : (w1.alloc (.cells #[.bool X.1, .slice Ax X.2.length cx] 31)).heap.size = w1.heap.size + 1 := by simp
      have e2 : ((w1.alloc (.cells #[.bool X.1, .slice Ax X.2.length cx] 31)).alloc (.cells #[.bool Y.1.1, .slice Ay Y.1.2.length cy, .slice By Y.2.length dy] 35)).heap.size = w1.heap.size + 1 + 1 := by simp
      have hko := HKO.out
      have hkp := HKP.out
      have HW := Lib.hid (newMQb_at (b := true) (r := w.heap.size + 1) (p := w.heap.size + 1 + 1) om oy (B := w.heap.size + 3) (C := w.heap.size + 3) (fun i hi => ⟨by have := (lx i (sm i hi)).1; simp at this; omega, om.lt i hi⟩) (fun i hi => ⟨by have := (ly i hi).1; simp at this; omega, oy.lt i hi⟩) (fun i hi => hap i (sm i hi)) (by omega) (by omega) (by omega) (by omega) (by omega) bbm)
      have hw1 : w.heap.size + 3 ≤ w1.heap.size := by simp at z1; omega
      have hw2 : w1.heap.size + 2 ≤ w2.heap.size := by rw [e2] at z2; omega
      have hn_w1_1 : ¬ w1.heap.size = w.heap.size + 1 := by omega
      have hn_w1_1' : ¬ w.heap.size + 1 = w1.heap.size := by omega
      have hn_w1_2 : ¬ w1.heap.size = w.heap.size + 1 + 1 := by omega
      have hn_w1_2' : ¬ w.heap.size + 1 + 1 = w1.heap.size := by omega
      have hn_w2_1 : ¬ w2.heap.size = w.heap.size + 1 := by omega
      have hn_w2_1' : ¬ w.heap.size + 1 = w2.heap.size := by omega
      have hn_w2_2 : ¬ w2.heap.size = w.heap.size + 1 + 1 := by omega
      have hn_w2_2' : ¬ w.heap.size + 1 + 1 = w2.heap.size := by omega
      have hn_y_1 : ¬ w1.heap.size + 1 = w.heap.size + 1 := by omega
      have hn_y_1' : ¬ w.heap.size + 1 = w1.heap.size + 1 := by omega
      have hn_y_2 : ¬ w1.heap.size + 1 = w.heap.size + 1 + 1 := by omega
      have hn_y_2' : ¬ w.heap.size + 1 + 1 = w1.heap.size + 1 := by omega
      rw [e1] at ky
      have cko0 := ko.here.cell 0 _ rfl
      have fko0 := Lib.frozen_of_heap ko.here 0
      have cko1 := ko.here.cell 1 _ rfl
      have fko1 := Lib.frozen_of_heap ko.here 1
      have cko2 := ko.here.cell 2 _ rfl
      have fko2 := Lib.frozen_of_heap ko.here 2
      have ckp0 := kp.here.cell 0 _ rfl
      have fkp0 := Lib.frozen_of_heap kp.here 0
      have ckp1 := kp.here.cell 1 _ rfl
      have fkp1 := Lib.frozen_of_heap kp.here 1
      have ckp2 := kp.here.cell 2 _ rfl
      have fkp2 := Lib.frozen_of_heap kp.here 2
      have ckm0 := km.here.cell 0 _ rfl
      have ckm1 := km.here.cell 1 _ rfl
      have ckm2 := km.here.cell 2 _ rfl
      have cky0 := ky.here.cell 0 _ rfl
      have cky1 := ky.here.cell 1 _ rfl
      have cky2 := ky.here.cell 2 _ rfl
      clear ox oy om ko kp kr kx ky km lx ly sm hap z1 z2 zx zy zm e1 e2 hko hkp hw1 hw2
      go_wp2_with fail
      go_region
      all_goals (go_wp2; refine bodyPost_ret (v := .tuple #[.agg #[.string Q.1, .bool Q.2.1, .slice Am Q.2.2.length cm], .agg #[.bool Y.1.1, .slice Ay Y.1.2.length cy, .slice By Y.2.length dy], .bool true]) (by simp [results, Tryz.results39, go_sem, cko0, cko1, cko2, ckp0, ckp1, ckp2]) rfl ?_)
      all_goals (rw [HV.out.1, HV.out.2.1, HV.out.2.2]; refine HW.out _ ?_; repeat (first | with_reducible exact Chg.refl _ _ | with_reducible refine Chg.drew1 ?_ | with_reducible refine Chg.setCell ?_ (by simp) _))
end Go.Proofs.YtofehcpapdlcnaaGreatDoor

namespace Go.Proofs.YtofehcpapdlcnaaGreatDoor
open Go.RowKit

set_option maxHeartbeats 2000000 in
set_option maxRecDepth 100000 in
theorem implMoneyRat_any (vm : Value) (m : MI) (w : World) (hz : szS m.2 ≤ 1048576) (hm : OwnM vm m w) (ht : CurTab w) (hs : Sen w) : Calls Tryz.prog 37 #[vm] w (NewV (fun v => OwnQ v (ratM m)) w) := by
  have HT := Lib.hid ht
  have HS := Lib.hid hs
  clear ht hs
  have Hm := Lib.hid hm
  obtain ⟨Am, cm, rfl⟩ := ownM_form hm
  have OMm := Lib.hid (show ∀ W, Below w.heap.size w W → OwnM (.agg #[.string m.1, .bool m.2.1, .slice Am m.2.2.length cm]) m W from fun W hb => OwnM.below Hm.out hb)
  have OSm := Lib.hid (show ∀ W, Below w.heap.size w W → OwnS (.agg #[.bool m.2.1, .slice Am m.2.2.length cm]) m.2 W from fun W hb => OwnS.mk (ownM_open (OMm.out W hb)))
  clear hm
  have hl : m.2.2.length ≤ 1048576 := by unfold szS szI at hz; omega
  have bb0 : Below w.heap.size w ((w.alloc (.cells #[.string m.1, .bool m.2.1, .slice Am m.2.2.length cm] 33)).alloc (.cells #[.bool false, .slice none 0 0, .slice none 0 0] 35)) := below_al (below_al (Below.refl _ _) _) _
  have km := (box_new w #[.string m.1, .bool m.2.1, .slice Am m.2.2.length cm] 33).below (below_al (Below.refl _ _) (.cells #[.bool false, .slice none 0 0, .slice none 0 0] 35))
  have ko := box_new (w.alloc (.cells #[.string m.1, .bool m.2.1, .slice Am m.2.2.length cm] 33)) #[.bool false, .slice none 0 0, .slice none 0 0] 35
  rw [show (w.alloc (.cells #[.string m.1, .bool m.2.1, .slice Am m.2.2.length cm] 33)).heap.size = w.heap.size + 1 by simp] at ko
  have hko := ko.lt (w.heap.size + 1) (by simp)
  have HKO := Lib.hid hko
  go_enter Tryz.func37, Tryz.ntmps37
  have km_c0 := km.here.cell 0 _ rfl
  have km_c1 := km.here.cell 1 _ rfl
  have km_c2 := km.here.cell 2 _ rfl
  go_wp2_with fail
  clear km_c0 km_c1 km_c2 hko
  refine (implMoneyOk_any _ m _ hl (OMm.out _ bb0) (HT.out.below bb0)).mono ?_
  rintro e w1 ⟨rfl, b1⟩
  have bb1 := Below.next bb0 b1
  replace km := km.below b1
  replace ko := ko.below b1
  by_cases hk : okM m = true
  · rw [hk]
    have HV := Lib.hid (show ratM m = (makeQ m.2 (ofZ 1)).1 by unfold ratM; rw [if_pos hk])
    clear hk
    have km_c0 := km.here.cell 0 _ rfl
    have km_c1 := km.here.cell 1 _ rfl
    have km_c2 := km.here.cell 2 _ rfl
    go_wp2_with fail
    clear km_c0 km_c1 km_c2
    refine (implRatInt_any _ m.2 _ hz (OSm.out _ bb1) (HS.out.below bb1)).mono ?_
    generalize makeQ m.2 (ofZ 1) = Q at *
    rintro e w2 ⟨uf, Sf, rfl, of, lf, b2⟩
    obtain ⟨Af, cf, Bf, df, rfl⟩ := ownQ_form of.here
    have bb2 := Below.next bb1 b2
    have al := below_al (Below.refl w2.heap.size w2) (.cells #[.bool Q.1.1.1, .slice Af Q.1.1.2.length cf, .slice Bf Q.1.2.length df] 35)
    have kr := box_new w2 #[.bool Q.1.1.1, .slice Af Q.1.1.2.length cf, .slice Bf Q.1.2.length df] 35
    have z1 := b1.size
    have hz0 := HKO.out
    have HW := Lib.hid (newV_chg (φ := fun v => OwnQ v Q.1) (T := [w.heap.size + 1]) (of.below al) (fun i hi hm => by have := (lf i hi).1; simp at hm; omega) (fun i hi => by simp at hi; omega) (fun i hi => by have := (lf i hi).1; have := bb1.size; omega) (Below.next bb2 al))
    have ko2 := (ko.below b2).below al
    have cz0 := ko2.here.cell 0 _ rfl
    have cz1 := ko2.here.cell 1 _ rfl
    have cz2 := ko2.here.cell 2 _ rfl
    have fz0 := Lib.frozen_of_heap ko2.here 0
    have fz1 := Lib.frozen_of_heap ko2.here 1
    have fz2 := Lib.frozen_of_heap ko2.here 2
    have kr0 := kr.here.cell 0 _ rfl
    have kr1 := kr.here.cell 1 _ rfl
    have kr2 := kr.here.cell 2 _ rfl
    clear ko ko2 of al kr km bb2 b2 hz0
    go_wp2
    refine bodyPost_ret (v := .agg #[.bool Q.1.1.1, .slice Af Q.1.1.2.length cf, .slice Bf Q.1.2.length df]) (by simp [results, Tryz.results37, go_sem, cz0, cz1, cz2]) rfl ?_
    rw [HV.out]
    refine HW.out _ ?_
    repeat (first | exact Chg.refl _ _ | refine Chg.setCell ?_ (by simp) _)
  · have hk' : okM m = false := by simpa using hk
    rw [hk']
    have HV := Lib.hid (show ratM m = zeroQ by unfold ratM; rw [if_neg hk])
    clear hk hk'
    have cz0 := ko.here.cell 0 _ rfl
    have cz1 := ko.here.cell 1 _ rfl
    have cz2 := ko.here.cell 2 _ rfl
    have fz0 := Lib.frozen_of_heap ko.here 0
    have fz1 := Lib.frozen_of_heap ko.here 1
    have fz2 := Lib.frozen_of_heap ko.here 2
    have HW := Lib.hid (newV_chg (φ := fun v => OwnQ v zeroQ) (v := .agg #[.bool false, .slice none 0 0, .slice none 0 0]) (T := [w.heap.size + 1]) (S := []) ⟨⟨_, _, rfl, World.ownsRow_nil _ _ _ _, World.ownsRow_nil _ _ _ _, fun g hg => by cases hg⟩, fun _ hg => absurd hg List.not_mem_nil, fun w' _ => ⟨_, _, rfl, World.ownsRow_nil _ _ _ _, World.ownsRow_nil _ _ _ _, fun g hg => by cases hg⟩⟩ (fun i hi => absurd hi List.not_mem_nil) (fun i hi => by simp at hi; omega) (fun i hi => absurd hi List.not_mem_nil) bb1)
    clear ko km
    go_wp2
    refine bodyPost_ret (v := .agg #[.bool false, .slice none 0 0, .slice none 0 0]) (by simp [results, Tryz.results37, go_sem, cz0, cz1, cz2]) rfl ?_
    rw [HV.out]
    refine HW.out _ ?_
    repeat (first | exact Chg.refl _ _ | refine Chg.setCell ?_ (by simp) _)
end Go.Proofs.YtofehcpapdlcnaaGreatDoor

namespace Go.Proofs.YtofehcpapdlcnaaGreatDoor
open Go.RowKit

set_option maxHeartbeats 8000000 in
set_option maxRecDepth 100000 in
theorem implTaxOn_any (vm vd : Value) (m : MI) (d : DI) (k : Int) (w : World) (hzm : szS m.2 ≤ 1048576) (hl : d.1.2.length ≤ 1048576) (hm : OwnM vm m w) (hd : OwnD vd d w) (ht : CurTab w) (hsen : Sen w) :
    Calls Tryz.prog 12 #[vm, vd, .int .i64 k] w (PostMQb (rmM m.1 (onX m d) k) (rmQ m.1 (onX m d) k) (rmB m.1 (onX m d) k) w) := by
  have HT := Lib.hid ht
  have HS := Lib.hid hsen
  clear ht hsen
  have hlm : m.2.2.length ≤ 1048576 := by unfold szS szI at hzm; omega
  have Hm := Lib.hid hm
  obtain ⟨Am, cm, rfl⟩ := ownM_form hm
  have OMm := Lib.hid (show ∀ W, Below w.heap.size w W → OwnM (.agg #[.string m.1, .bool m.2.1, .slice Am m.2.2.length cm]) m W from fun W hb => OwnM.below Hm.out hb)
  have OIm := Lib.hid (show ∀ W, Below w.heap.size w W → OwnI (.slice Am m.2.2.length cm) m.2.2 W from fun W hb => ownM_open (OMm.out W hb))
  have OSm := Lib.hid (show ∀ W, Below w.heap.size w W → OwnS (.agg #[.bool m.2.1, .slice Am m.2.2.length cm]) m.2 W from fun W hb => OwnS.mk (OIm.out W hb))
  clear hm
  have Hd := Lib.hid hd
  obtain ⟨Ad, cd, rfl⟩ := ownD_form hd
  have ODd := Lib.hid (show ∀ W, Below w.heap.size w W → OwnD (.agg #[.bool d.1.1, .slice Ad d.1.2.length cd, .int .i64 d.2]) d W from fun W hb => OwnD.below Hd.out hb)
  have OId := Lib.hid (show ∀ W, Below w.heap.size w W → OwnI (.slice Ad d.1.2.length cd) d.1.2 W from fun W hb => ownD_open (ODd.out W hb))
  have OSd := Lib.hid (show ∀ W, Below w.heap.size w W → OwnS (.agg #[.bool d.1.1, .slice Ad d.1.2.length cd]) d.1 W from fun W hb => OwnS.mk (OId.out W hb))
  clear hd
  have bb0 : Below w.heap.size w ((((w.alloc (.cells #[.string m.1, .bool m.2.1, .slice Am m.2.2.length cm] 33)).alloc (.cells #[.bool d.1.1, .slice Ad d.1.2.length cd, .int .i64 d.2] 40)).alloc (.cells #[.string ⟨#[]⟩, .bool false, .slice none 0 0] 33)).alloc (.cells #[.bool false, .slice none 0 0, .slice none 0 0] 35)) := below_al (below_al (below_al (below_al (Below.refl _ _) _) _) _) _
  have km := (box_new w #[.string m.1, .bool m.2.1, .slice Am m.2.2.length cm] 33).below (below_al (below_al (below_al (Below.refl _ _) (.cells #[.bool d.1.1, .slice Ad d.1.2.length cd, .int .i64 d.2] 40)) (.cells #[.string ⟨#[]⟩, .bool false, .slice none 0 0] 33)) (.cells #[.bool false, .slice none 0 0, .slice none 0 0] 35))
  have kd := (box_new (w.alloc (.cells #[.string m.1, .bool m.2.1, .slice Am m.2.2.length cm] 33)) #[.bool d.1.1, .slice Ad d.1.2.length cd, .int .i64 d.2] 40).below (below_al (below_al (Below.refl _ _) (.cells #[.string ⟨#[]⟩, .bool false, .slice none 0 0] 33)) (.cells #[.bool false, .slice none 0 0, .slice none 0 0] 35))
  rw [show (w.alloc (.cells #[.string m.1, .bool m.2.1, .slice Am m.2.2.length cm] 33)).heap.size = w.heap.size + 1 by simp] at kd
  have ko := (box_new ((w.alloc (.cells #[.string m.1, .bool m.2.1, .slice Am m.2.2.length cm] 33)).alloc (.cells #[.bool d.1.1, .slice Ad d.1.2.length cd, .int .i64 d.2] 40)) #[.string ⟨#[]⟩, .bool false, .slice none 0 0] 33).below (below_al (Below.refl _ _) (.cells #[.bool false, .slice none 0 0, .slice none 0 0] 35))
  rw [show ((w.alloc (.cells #[.string m.1, .bool m.2.1, .slice Am m.2.2.length cm] 33)).alloc (.cells #[.bool d.1.1, .slice Ad d.1.2.length cd, .int .i64 d.2] 40)).heap.size = w.heap.size + 1 + 1 by simp] at ko
  have kp := (box_new (((w.alloc (.cells #[.string m.1, .bool m.2.1, .slice Am m.2.2.length cm] 33)).alloc (.cells #[.bool d.1.1, .slice Ad d.1.2.length cd, .int .i64 d.2] 40)).alloc (.cells #[.string ⟨#[]⟩, .bool false, .slice none 0 0] 33)) #[.bool false, .slice none 0 0, .slice none 0 0] 35)
  rw [show (((w.alloc (.cells #[.string m.1, .bool m.2.1, .slice Am m.2.2.length cm] 33)).alloc (.cells #[.bool d.1.1, .slice Ad d.1.2.length cd, .int .i64 d.2] 40)).alloc (.cells #[.string ⟨#[]⟩, .bool false, .slice none 0 0] 33)).heap.size = w.heap.size + 1 + 1 + 1 by simp] at kp
  have HKO := Lib.hid (ko.lt (w.heap.size + 1 + 1) (by simp))
  have HKP := Lib.hid (kp.lt (w.heap.size + 1 + 1 + 1) (by simp))
  have hzr := ratM_szX m
  have hzt := taxQ_sz d
  have hzx := onX_sz m d
  obtain ⟨⟨X0, xb⟩, hX⟩ : ∃ P, mulQ (ratM m) (taxQ d) = P := ⟨_, rfl⟩
  have EX := Lib.hid hX
  have hXX : onX m d = X0 := by unfold onX; rw [hX]
  rw [hXX] at hzx ⊢
  clear hX hXX
  obtain ⟨R, hR⟩ : ∃ R, ratM m = R := ⟨_, rfl⟩
  have ER := Lib.hid hR
  rw [hR] at EX hzr
  clear hR
  obtain ⟨U, hU⟩ : ∃ U, taxQ d = U := ⟨_, rfl⟩
  have EU := Lib.hid hU
  rw [hU] at EX hzt
  clear hU
  obtain ⟨RM, hRM⟩ : ∃ x, rmM m.1 X0 k = x := ⟨_, rfl⟩
  obtain ⟨RQ, hRQ⟩ : ∃ x, rmQ m.1 X0 k = x := ⟨_, rfl⟩
  obtain ⟨RB, hRB⟩ : ∃ x, rmB m.1 X0 k = x := ⟨_, rfl⟩
  rw [hRM, hRQ, hRB]
  have ERM := Lib.hid hRM
  have ERQ := Lib.hid hRQ
  have ERB := Lib.hid hRB
  clear hRM hRQ hRB
  obtain ⟨W0, hW0⟩ : ∃ W0, W0 = ((((w.alloc (.cells #[.string m.1, .bool m.2.1, .slice Am m.2.2.length cm] 33)).alloc (.cells #[.bool d.1.1, .slice Ad d.1.2.length cd, .int .i64 d.2] 40)).alloc (.cells #[.string ⟨#[]⟩, .bool false, .slice none 0 0] 33)).alloc (.cells #[.bool false, .slice none 0 0, .slice none 0 0] 35)) := ⟨_, rfl⟩
  rw [← hW0] at bb0 km kd ko kp HKO HKP
  have HW0 := Lib.hid hW0
  clear hW0
  go_enter Tryz.func12, Tryz.ntmps12
  go_upto_region 1 with fail
  rw [← HW0.out]
  go_cut [9, 10] (fun s1 s2 wx => NewLocV 35 (fun v => OwnQ v X0) W0 s1 wx ∧ s2 = .bool xb)
  case first =>
    have HC0 := Lib.hid (show Chg [] W0 W0.drew from (Chg.refl _ _).drew1)
    have HCr := Lib.hid (show Chg [] W0 W0 from Chg.refl _ _)
    have KL := Lib.hid (show ∀ W, Chg [] W0 W → W.cell? ⟨w.heap.size, 0, none⟩ = some (.string m.1) ∧ W.cell? ⟨w.heap.size, 1, none⟩ = some (.bool m.2.1) ∧ W.cell? ⟨w.heap.size, 2, none⟩ = some (.slice Am m.2.2.length cm) ∧ W.cell? ⟨w.heap.size + 1, 0, none⟩ = some (.bool d.1.1) ∧ W.cell? ⟨w.heap.size + 1, 1, none⟩ = some (.slice Ad d.1.2.length cd) ∧ W.cell? ⟨w.heap.size + 1, 2, none⟩ = some (.int .i64 d.2) ∧ Hid (Chg [] W0 W) from fun W hc => ⟨(km.chg hc (fun i hi hm => by simp at hm)).here.cell 0 _ rfl, (km.chg hc (fun i hi hm => by simp at hm)).here.cell 1 _ rfl, (km.chg hc (fun i hi hm => by simp at hm)).here.cell 2 _ rfl, (kd.chg hc (fun i hi hm => by simp at hm)).here.cell 0 _ rfl, (kd.chg hc (fun i hi hm => by simp at hm)).here.cell 1 _ rfl, (kd.chg hc (fun i hi hm => by simp at hm)).here.cell 2 _ rfl, Lib.hid hc⟩)
    have BBF := Lib.hid (show ∀ W, Chg [] W0 W → Below w.heap.size w W from fun W hc => below_chg bb0 hc bb0.size (fun i hi => by simp at hi))
    go_region_held3 (fun W => W.cell? ⟨w.heap.size, 0, none⟩ = some (.string m.1) ∧ W.cell? ⟨w.heap.size, 1, none⟩ = some (.bool m.2.1) ∧ W.cell? ⟨w.heap.size, 2, none⟩ = some (.slice Am m.2.2.length cm) ∧ W.cell? ⟨w.heap.size + 1, 0, none⟩ = some (.bool d.1.1) ∧ W.cell? ⟨w.heap.size + 1, 1, none⟩ = some (.slice Ad d.1.2.length cd) ∧ W.cell? ⟨w.heap.size + 1, 2, none⟩ = some (.int .i64 d.2) ∧ Hid (Chg [] W0 W))
      ((refine KL.out _ ?_; (first | exact HC3.out | exact HC2.out | exact HC1.out | exact HCr.out | exact HC0.out | exact HC3.out.drew1 | exact HC2.out.drew1 | exact HC1.out.drew1 | exact HCr.out.drew1 | exact HC0.out.drew1 | exact HC3.out.trans (Chg.of_below (below_al (Below.refl _ _) _)) | exact HC2.out.trans (Chg.of_below (below_al (Below.refl _ _) _)) | exact HC1.out.trans (Chg.of_below (below_al (Below.refl _ _) _)) | exact HCr.out.trans (Chg.of_below (below_al (Below.refl _ _) _)) | exact HC0.out.trans (Chg.of_below (below_al (Below.refl _ _) _)) | exact (Chg.setNew HC3.out (by first | exact HC3.out.size | exact HC2.out.size | exact HC1.out.size | exact HCr.out.size | exact HC0.out.size) _) | exact (Chg.setNew (Chg.setNew HC3.out (by first | exact HC3.out.size | exact HC2.out.size | exact HC1.out.size | exact HCr.out.size | exact HC0.out.size) _) (by first | exact HC3.out.size | exact HC2.out.size | exact HC1.out.size | exact HCr.out.size | exact HC0.out.size) _) | exact (Chg.setNew (Chg.setNew (Chg.setNew HC3.out (by first | exact HC3.out.size | exact HC2.out.size | exact HC1.out.size | exact HCr.out.size | exact HC0.out.size) _) (by first | exact HC3.out.size | exact HC2.out.size | exact HC1.out.size | exact HCr.out.size | exact HC0.out.size) _) (by first | exact HC3.out.size | exact HC2.out.size | exact HC1.out.size | exact HCr.out.size | exact HC0.out.size) _) | fail)))
      (first
        | (go_at_call 37; (have hBB := (‹_ ∧ _ ∧ _ ∧ _ ∧ _ ∧ _ ∧ Hid (Chg [] W0 _)›).2.2.2.2.2.2); (with_reducible refine ((implMoneyRat_any _ m _ hzm (OMm.out _ (BBF.out _ hBB.out)) (HT.out.below (BBF.out _ hBB.out)) (HS.out.below (BBF.out _ hBB.out))).mono fun _ _ h => newVQ_eq ER.out h).mono ?_); rintro e w1 ⟨ur, Sr, rfl, or_, lr, b1⟩; have HC1 := Lib.hid (hBB.out.trans (Chg.of_below b1)); obtain ⟨Ar, cr, Br, dr, rfl⟩ := ownQ_form or_.here; (first | (have early1 : At [W0.heap.size] (BoxAt W0.heap.size #[.bool false, .slice none 0 0, .slice none 0 0] 35) w1 := At.below (box_new W0.drew _ _) b1) | (have early1 := At.below (box_new _ #[.bool false, .slice none 0 0, .slice none 0 0] 35) b1) | (have early1 := At.below early0 b1) | skip); have HBZ1 := Lib.hid hBB.out.size; clear hBB)
        | (go_at_call 38; (have hBB := (‹_ ∧ _ ∧ _ ∧ _ ∧ _ ∧ _ ∧ Hid (Chg [] W0 _)›).2.2.2.2.2.2); (with_reducible refine ((taxRat_any _ d _ hl (ODd.out _ (BBF.out _ hBB.out)) (HS.out.below (BBF.out _ hBB.out))).mono fun _ _ h => newVQ_eq EU.out h).mono ?_); rintro e w2 ⟨ut, St, rfl, ot, lt, b2⟩; have HC2 := Lib.hid (hBB.out.trans (Chg.of_below b2)); (have or__2 := At.below (by first | exact or_ | exact At.below or_ (below_al (Below.refl _ _) _) | exact At.below (At.below or_ (below_al (Below.refl _ _) _)) (below_al (Below.refl _ _) _) | exact At.move or_ (fun _ _ => rfl) (Nat.le_refl _) | exact At.below (At.move (w' := W0.drew) or_ (fun _ _ => rfl) (Nat.le_refl _)) (below_al (Below.refl _ _) _)) b2); obtain ⟨At_, ct, Bt, dt, rfl⟩ := ownQ_form ot.here; (first | (have early2 : At [W0.heap.size] (BoxAt W0.heap.size #[.bool false, .slice none 0 0, .slice none 0 0] 35) w2 := At.below (box_new W0.drew _ _) b2) | (have early2 := At.below (box_new _ #[.bool false, .slice none 0 0, .slice none 0 0] 35) b2) | (have early2 := At.below early1 b2) | skip); have HBZ2 := Lib.hid hBB.out.size; clear hBB)
        | (go_at_call 36; (have hBB := (‹_ ∧ _ ∧ _ ∧ _ ∧ _ ∧ _ ∧ Hid (Chg [] W0 _)›).2.2.2.2.2.2); (with_reducible refine ((implRatMul_any _ _ R U _ hzr hzt (At.here (by first | exact or__2 | exact At.below or__2 (below_al (Below.refl _ _) _) | exact At.below (At.below or__2 (below_al (Below.refl _ _) _)) (below_al (Below.refl _ _) _) | exact At.move or__2 (fun _ _ => rfl) (Nat.le_refl _) | exact At.below (At.move (w' := W0.drew) or__2 (fun _ _ => rfl) (Nat.le_refl _)) (below_al (Below.refl _ _) _))) (At.here (by first | exact ot | exact At.below ot (below_al (Below.refl _ _) _) | exact At.below (At.below ot (below_al (Below.refl _ _) _)) (below_al (Below.refl _ _) _) | exact At.move ot (fun _ _ => rfl) (Nat.le_refl _) | exact At.below (At.move (w' := W0.drew) ot (fun _ _ => rfl) (Nat.le_refl _)) (below_al (Below.refl _ _) _))) (HS.out.below (BBF.out _ hBB.out))).mono fun _ _ h => postQb_isD EX.out h).mono ?_); rintro e w3 ⟨uf, Sf, rfl, of, lf, b3⟩; have HC3 := Lib.hid (hBB.out.trans (Chg.of_below b3)); (have or__3 := At.below (by first | exact or__2 | exact At.below or__2 (below_al (Below.refl _ _) _) | exact At.below (At.below or__2 (below_al (Below.refl _ _) _)) (below_al (Below.refl _ _) _) | exact At.move or__2 (fun _ _ => rfl) (Nat.le_refl _) | exact At.below (At.move (w' := W0.drew) or__2 (fun _ _ => rfl) (Nat.le_refl _)) (below_al (Below.refl _ _) _)) b3); (have ot_3 := At.below (by first | exact ot | exact At.below ot (below_al (Below.refl _ _) _) | exact At.below (At.below ot (below_al (Below.refl _ _) _)) (below_al (Below.refl _ _) _) | exact At.move ot (fun _ _ => rfl) (Nat.le_refl _) | exact At.below (At.move (w' := W0.drew) ot (fun _ _ => rfl) (Nat.le_refl _)) (below_al (Below.refl _ _) _)) b3); obtain ⟨Af, cf, Bf, df, rfl⟩ := ownQ_form of.here; (first | have hbxg := At.below_lt (box_new _ #[.bool false, .slice none 0 0, .slice none 0 0] 35) b3 | have hbxg := At.below_lt early2 b3 | skip); (try (have hbxf := hbxg.1; have HGB := Lib.hid hbxg.2; clear hbxg)); (try (have cz0 := hbxf.here.cell 0 _ rfl; have fz0 := Lib.frozen_of_heap hbxf.here 0; have cz1 := hbxf.here.cell 1 _ rfl; have fz1 := Lib.frozen_of_heap hbxf.here 1; have cz2 := hbxf.here.cell 2 _ rfl; have fz2 := Lib.frozen_of_heap hbxf.here 2)); have HBZ3 := Lib.hid hBB.out.size; clear hBB))
    all_goals (go_wp2_with fail; go_meet; first | exact ⟨newLocV_last of lf HBZ3.out (below_of_chg HC3.out), rfl⟩ | exact ⟨newLocV_early3 hbxf.here of lf (by first | exact HC2.out.size | exact HC1.out.size | exact HCr.out.size | exact HC0.out.size) HGB.out (below_of_chg HC3.out), rfl⟩)
  rename World => w1
  obtain ⟨⟨gy, csy, Sy, rfl, ky, oy, ny, ly, b1⟩, rfl⟩ := hcut
  obtain ⟨Ay, cy, By, dy, ey⟩ := ownQ_form oy.here
  injection ey with ey
  subst ey
  have bb1 := Below.next bb0 b1
  replace km := km.below b1
  replace kd := kd.below b1
  replace ko := ko.below b1
  replace kp := kp.below b1
  have km_c0 := km.here.cell 0 _ rfl
  have km_c1 := km.here.cell 1 _ rfl
  have km_c2 := km.here.cell 2 _ rfl
  have ky_c0 := ky.here.cell 0 _ rfl
  have ky_c1 := ky.here.cell 1 _ rfl
  have ky_c2 := ky.here.cell 2 _ rfl
  go_wp2_with fail
  clear km_c0 km_c1 km_c2 ky_c0 ky_c1 ky_c2
  refine ((implRatMoney_any m.1 _ X0 k _ hzx oy.here (HT.out.below bb1) (HS.out.below bb1)).mono fun _ _ h => postMQb_isX ERM.out ERQ.out ERB.out h).mono ?_
  rintro e w2 ⟨uv, uq, Sv, Sq, rfl, ov, oq, hap, lv, lq, b2⟩
  obtain ⟨Av, cv, rfl⟩ := ownM_form ov.here
  obtain ⟨Aq, cq, Bq, dq, rfl⟩ := ownQ_form oq.here
  have bb2 := Below.next bb1 b2
  replace km := km.below b2
  replace kd := kd.below b2
  replace ko := ko.below b2
  replace kp := kp.below b2
  replace ky := ky.below b2
  replace oy := oy.below b2
  have z1 := b1.size
  have z2 := b2.size
  have hko := HKO.out
  have hkp := HKP.out
  have HW := Lib.hid (newMQb_at (b := RB) (r := w.heap.size + 1 + 1) (p := w.heap.size + 1 + 1 + 1) ov oq (B := w.heap.size + 1 + 1 + 1 + 1) (C := w.heap.size + 1 + 1 + 1 + 1) (fun i hi => ⟨by have := (lv i hi).1; omega, ov.lt i hi⟩) (fun i hi => ⟨by have := (lq i hi).1; omega, oq.lt i hi⟩) hap (by omega) (by omega) (by omega) (by omega) (by omega) bb2)
  have cko0 := ko.here.cell 0 _ rfl
  have fko0 := Lib.frozen_of_heap ko.here 0
  have cko1 := ko.here.cell 1 _ rfl
  have fko1 := Lib.frozen_of_heap ko.here 1
  have cko2 := ko.here.cell 2 _ rfl
  have fko2 := Lib.frozen_of_heap ko.here 2
  have ckp0 := kp.here.cell 0 _ rfl
  have fkp0 := Lib.frozen_of_heap kp.here 0
  have ckp1 := kp.here.cell 1 _ rfl
  have fkp1 := Lib.frozen_of_heap kp.here 1
  have ckp2 := kp.here.cell 2 _ rfl
  have fkp2 := Lib.frozen_of_heap kp.here 2
  clear km kd ko kp ky oy ov oq z1 z2 hko hkp lv lq hap
  go_wp2
  refine bodyPost_ret (v := .tuple #[.agg #[.string RM.1, .bool RM.2.1, .slice Av RM.2.2.length cv], .agg #[.bool RQ.1.1, .slice Aq RQ.1.2.length cq, .slice Bq RQ.2.length dq], .bool RB]) (by simp [results, Tryz.results12, go_sem, cko0, cko1, cko2, ckp0, ckp1, ckp2]) rfl ?_
  refine HW.out _ ?_
  repeat (first | with_reducible exact Chg.refl _ _ | with_reducible refine Chg.drew1 ?_ | with_reducible refine Chg.setCell ?_ (by simp) _)
end Go.Proofs.YtofehcpapdlcnaaGreatDoor

namespace Go.Proofs.YtofehcpapdlcnaaGreatDoor
open Go.ChangeShapes Go.WideShapes Go.ChangeAt Go.RowKit Go.Joins

section
variable {H : Type} {enc : TypeId × Value → H} {P : Program} {W : World} {base : Nat} {t e : TypeId}

/-- the cell of a slice of ints, wherever it stands -/
theorem cell_ints {fuel : Nat} {a0 : Option Addr} {len0 cap0 : Nat} {x : DataW H × List MemPlace} (ht : P.underlying t = some (.slice e)) (he : P.underlying e = some (.int .i64)) (hc : P.cellsOf e = 1)
    (hf : DataW.trod enc P W 0 (fun _ => true) true fuel t [.slice a0 len0 cap0] = some x) :
    ∃ xs : List Int, Row W 0 W.heap.size (.slice a0 len0 cap0) (xs.map (Value.int .i64)) ∧ xs.length ≤ maxLen := by
  rcases open_ints ht he hc hf with ⟨hcs, _⟩ | ⟨a, len, cap, ss, hcs, _, hl, hm, hz, _, hcell, hsz⟩
  · have hcs' : Value.slice a0 len0 cap0 = .slice none 0 0 := by simpa using hcs
    cases hcs'
    exact ⟨[], Row.nil_ _ _, by simp⟩
  · have hcs' : Value.slice a0 len0 cap0 = .slice (some a) len cap := by simpa using hcs
    obtain ⟨rfl, rfl, rfl⟩ : a0 = some a ∧ len = len0 ∧ cap = cap0 := by cases hcs'; exact ⟨rfl, rfl, rfl⟩
    have hzl : ss.length = cap := by simpa using hz
    have hlen : (ss.take len).length = len := by rw [List.length_take]; omega
    refine ⟨ss.take len, ⟨some a, cap, by rw [List.length_map, hlen], fun j u hu => ?_⟩, by omega⟩
    rw [List.getElem?_map] at hu
    obtain ⟨s, hs, rfl⟩ := Option.map_eq_some_iff.1 hu
    have hj : j < len := by rw [← hlen]; exact (List.getElem?_eq_some_iff.1 hs).1
    have hs' : ss[j]? = some s := by rw [← hs, List.getElem?_take_of_lt hj]
    have hc1 := hcell j (by omega)
    rw [List.getD_eq_getElem?_getD, hs'] at hc1
    exact ⟨a, rfl, Nat.zero_le _, by have := cell_lt hc1; rwa [block_add] at this, hc1⟩
end

theorem Tryz.cellsSigned : Tryz.prog.cellsOf 24 = 2 := by kernel_rfl
theorem Tryz.cellsInt1 : Tryz.prog.cellsOf 3 = 1 := by kernel_rfl
end Go.Proofs.YtofehcpapdlcnaaGreatDoor

namespace Go.Proofs.YtofehcpapdlcnaaGreatDoor
open Go.ChangeShapes Go.WideShapes Go.ChangeAt Go.RowKit Go.Joins

theorem Tryz.cellsDec : Tryz.prog.cellsOf 28 = 3 := by kernel_rfl
set_option maxHeartbeats 400000 in
set_option maxRecDepth 100000 in
theorem arg_dec {H : Type} {enc : TypeId × Value → H} {W : World} {base : Nat} {v : Value} {d : DataW H} {p : List MemPlace}
    (hv : Value.okWide Tryz.prog W .any base 28 v) (h : DataW.Trod enc Tryz.prog W 0 (fun _ => true) true 28 v d p) : ∃ x : DI, RdD W v x ∧ x.1.2.length ≤ maxLen ∧ (-9223372036854775808 ≤ x.2 ∧ x.2 ≤ 9223372036854775807) := by
  obtain ⟨cs, rfl, hsz⟩ := okWide_struct Tryz.underlying28 hv
  obtain ⟨c0, c1, c2, rfl⟩ := array3 (hsz.trans Tryz.cellsDec)
  obtain ⟨fuel, hf⟩ := h
  obtain ⟨y0, y1, n, hx, _, h0, h1⟩ := trod_struct2 Tryz.underlying28 hf
  have k0 : Tryz.prog.cellsOf 24 = 2 := Tryz.cellsSigned
  have k1 : Tryz.prog.cellsOf 22 = 1 := by kernel_rfl
  have k2 : Tryz.prog.cellsOf 3 = 1 := Tryz.cellsInt1
  have kb : Tryz.prog.cellsOf 4 = 1 := by kernel_rfl
  simp only [Value.cells, k0, k2, List.drop_zero, List.take_succ_cons, List.take_zero, List.drop_succ_cons] at h0 h1
  obtain ⟨z0, z1, m, _, _, g0, g1⟩ := trod_struct2 Tryz.underlying24 h0
  simp only [kb, k1, List.drop_zero, List.take_succ_cons, List.take_zero, List.drop_succ_cons] at g0 g1
  obtain ⟨b, e0, _⟩ := DataW.trod_bool Tryz.underlying4 g0
  obtain ⟨a1, l1, cc1, e1⟩ := slice_form Tryz.underlying22 g1
  obtain ⟨k, e2, _, hw⟩ := DataW.trod_int Tryz.underlying3 h1
  simp at e0 e1 e2
  subst e0 e1 e2
  obtain ⟨xs, hr, hl⟩ := cell_ints Tryz.underlying22 Tryz.underlying3 Tryz.cellsInt1 g1
  exact ⟨((b, xs), k), ⟨_, rfl, hr⟩, hl, by simpa [Lit.wf, IntKind.min, IntKind.max, IntKind.signed, IntKind.bits] using hw⟩
end Go.Proofs.YtofehcpapdlcnaaGreatDoor

namespace Go.Proofs.YtofehcpapdlcnaaGreatDoor
open Go.ChangeShapes Go.WideShapes Go.ChangeAt Go.RowKit Go.Joins

theorem Tryz.cellsMoney : Tryz.prog.cellsOf 26 = 3 := by kernel_rfl
/-- three cells that read as an amount -/
theorem money_cells {H : Type} {enc : TypeId × Value → H} {W : World} {fuel : Nat} {c0 c1 c2 : Value} {y : DataW H × List MemPlace}
    (hf : DataW.trod enc Tryz.prog W 0 (fun _ => true) true fuel 26 [c0, c1, c2] = some y) :
    ∃ x : MI, ∃ u, c0 = .string x.1 ∧ c1 = .bool x.2.1 ∧ c2 = u ∧ Row W 0 W.heap.size u (intsV x.2.2) ∧ x.1.size ≤ maxLen ∧ x.2.2.length ≤ maxLen := by
  obtain ⟨y0, y1, n, hx, _, h0, h1⟩ := trod_struct2 Tryz.underlying26 hf
  have k0 : Tryz.prog.cellsOf 24 = 2 := Tryz.cellsSigned
  have k1 : Tryz.prog.cellsOf 22 = 1 := by kernel_rfl
  have k2 : Tryz.prog.cellsOf 9 = 1 := by kernel_rfl
  have kb : Tryz.prog.cellsOf 4 = 1 := by kernel_rfl
  simp only [k0, k2, List.drop_zero, List.take_succ_cons, List.take_zero, List.drop_succ_cons] at h0 h1
  obtain ⟨z0, z1, m, _, _, g0, g1⟩ := trod_struct2 Tryz.underlying24 h1
  simp only [kb, k1, List.drop_zero, List.take_succ_cons, List.take_zero, List.drop_succ_cons] at g0 g1
  obtain ⟨s, e2, _, hs⟩ := DataW.trod_string Tryz.underlying9 h0
  obtain ⟨b, e0, _⟩ := DataW.trod_bool Tryz.underlying4 g0
  obtain ⟨a1, l1, cc1, e1⟩ := slice_form Tryz.underlying22 g1
  simp at e0 e1 e2
  subst e0 e1 e2
  obtain ⟨xs, hr, hl⟩ := cell_ints Tryz.underlying22 Tryz.underlying3 Tryz.cellsInt1 g1
  exact ⟨(s, (b, xs)), _, rfl, rfl, rfl, hr, hs, hl⟩
set_option maxHeartbeats 400000 in
set_option maxRecDepth 100000 in
theorem arg_money {H : Type} {enc : TypeId × Value → H} {W : World} {base : Nat} {v : Value} {d : DataW H} {p : List MemPlace}
    (hv : Value.okWide Tryz.prog W .any base 26 v) (h : DataW.Trod enc Tryz.prog W 0 (fun _ => true) true 26 v d p) : ∃ x : MI, RdM W v x ∧ x.1.size ≤ maxLen ∧ x.2.2.length ≤ maxLen := by
  obtain ⟨cs, rfl, hsz⟩ := okWide_struct Tryz.underlying26 hv
  obtain ⟨c0, c1, c2, rfl⟩ := array3 (hsz.trans Tryz.cellsMoney)
  obtain ⟨fuel, hf⟩ := h
  obtain ⟨x, u, rfl, rfl, rfl, hr, h1, h2⟩ := money_cells (by simpa [Value.cells] using hf)
  exact ⟨x, ⟨_, rfl, hr⟩, h1, h2⟩
end Go.Proofs.YtofehcpapdlcnaaGreatDoor
