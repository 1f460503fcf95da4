import Derived.Deep.RegionHeld3
import Derived.Deep.DeepCutAuto
import Derived.Deep.Cut
import Derived.Deep.CutBlock
import Derived.Deep.LoopGhost
import Derived.Shelf.Abstract
import Derived.Shelf.Bits.Mul64
import Derived.Shelf.Small.Bits
import Derived.Test.YtipbdpdmefcofabGreatDoorProg
import Derived.Test.YtipbdpdmefcofabGreatDoorJC7
set_option maxRecDepth 100000
namespace Go.Proofs.YtipbdpdmefcofabGreatDoor
open Go.RowKit
set_option maxHeartbeats 4000000 in
theorem specConvert_any (v vm:Value) (t:TI) (m:MI) (q:ByteArray) (k:Int) (w:World) (hl:t.2.length ≤ 1099511627776) (hx:∀ x ∈ t.2,x.2.2.1.2.length ≤ 1048576) (hzm:szS m.2 ≤ 1048576) (h:OwnTR w v t) (hm:OwnM vm m w) :
 Calls Tryz.prog 6 #[v,vm,.string q,.int .i64 k] w (PostMQn (cvM t [m] q k) (cvQ t [m] q k) (cvN t [m] q k) w):=by
 obtain ⟨A,c,rfl,hr⟩:=ownTR_form h
 have HR:=Lib.hid (show ∀ W,Below w.heap.size w W→OwnER W (.slice A t.2.length c) t.2 from fun W h=>hr.below h)
 have HTR:=Lib.hid (show ∀ W,Below w.heap.size w W→OwnTR W (.agg #[.string t.1,.slice A t.2.length c]) t from fun W h=>⟨_,rfl,hr.below h⟩)
 clear h hr
 have Hm:=Lib.hid hm
 obtain ⟨Am,cm,rfl⟩:=ownM_form hm
 have OMm:=Lib.hid (show ∀ W,Below w.heap.size w W→OwnM (.agg #[.string m.1,.bool m.2.1,.slice Am m.2.2.length cm]) m W from fun W hb=>OwnM.below Hm.out hb)
 have OIm:=Lib.hid (show ∀ W,Below w.heap.size w W→OwnI (.slice Am m.2.2.length cm) m.2.2 W from fun W hb=>ownM_open (OMm.out W hb))
 have OSm:=Lib.hid (show ∀ W,Below w.heap.size w W→OwnS (.agg #[.bool m.2.1,.slice Am m.2.2.length cm]) m.2 W from fun W hb=>OwnS.mk (OIm.out W hb))
 clear hm
 have hlm:m.2.2.length ≤ 1048576:=by unfold szS szI at hzm;omega
 have bb0:Below w.heap.size w ((((w.alloc (.cells #[.string t.1,.slice A t.2.length c] 41)).alloc (.cells #[.string m.1,.bool m.2.1,.slice Am m.2.2.length cm] 34)).alloc (.cells #[.string ⟨#[]⟩,.bool false,.slice none 0 0] 34)).alloc (.cells #[.bool false,.slice none 0 0,.slice none 0 0] 36)):=below_al (below_al (below_al (below_al (Below.refl _ _) _) _) _) _
 have kt:=(box_new w #[.string t.1,.slice A t.2.length c] 41).below (below_al (below_al (below_al (Below.refl _ _) (.cells #[.string m.1,.bool m.2.1,.slice Am m.2.2.length cm] 34)) (.cells #[.string ⟨#[]⟩,.bool false,.slice none 0 0] 34)) (.cells #[.bool false,.slice none 0 0,.slice none 0 0] 36))
 have km:=(box_new (w.alloc (.cells #[.string t.1,.slice A t.2.length c] 41)) #[.string m.1,.bool m.2.1,.slice Am m.2.2.length cm] 34).below (below_al (below_al (Below.refl _ _) (.cells #[.string ⟨#[]⟩,.bool false,.slice none 0 0] 34)) (.cells #[.bool false,.slice none 0 0,.slice none 0 0] 36))
 rw [show (w.alloc (.cells #[.string t.1,.slice A t.2.length c] 41)).heap.size = w.heap.size+1 by simp] at km
 have kM:=(box_new ((w.alloc (.cells #[.string t.1,.slice A t.2.length c] 41)).alloc (.cells #[.string m.1,.bool m.2.1,.slice Am m.2.2.length cm] 34)) #[.string ⟨#[]⟩,.bool false,.slice none 0 0] 34).below (below_al (Below.refl _ _) (.cells #[.bool false,.slice none 0 0,.slice none 0 0] 36))
 rw [show ((w.alloc (.cells #[.string t.1,.slice A t.2.length c] 41)).alloc (.cells #[.string m.1,.bool m.2.1,.slice Am m.2.2.length cm] 34)).heap.size = w.heap.size+1+1 by simp] at kM
 have kQ:=(box_new (((w.alloc (.cells #[.string t.1,.slice A t.2.length c] 41)).alloc (.cells #[.string m.1,.bool m.2.1,.slice Am m.2.2.length cm] 34)).alloc (.cells #[.string ⟨#[]⟩,.bool false,.slice none 0 0] 34)) #[.bool false,.slice none 0 0,.slice none 0 0] 36)
 rw [show (((w.alloc (.cells #[.string t.1,.slice A t.2.length c] 41)).alloc (.cells #[.string m.1,.bool m.2.1,.slice Am m.2.2.length cm] 34)).alloc (.cells #[.string ⟨#[]⟩,.bool false,.slice none 0 0] 34)).heap.size = w.heap.size+1+1+1 by simp] at kQ
 have EF:=Lib.hid (show formB t [m] q k = (okM m && (okT t && (knownC q && modeB k))) from by unfold formB;rw [show [m].all okM = okM m by simp])
 have EN:=Lib.hid (show noneB t [m] q = decide (howT t m.1 q = 0) from by unfold noneB;simp)
 go_enter Tryz.func6,Tryz.ntmps6
 have km_c0:=km.here.cell 0 _ rfl
 have km_c1:=km.here.cell 1 _ rfl
 have km_c2:=km.here.cell 2 _ rfl
 go_wp2_with fail
 clear km_c0 km_c1 km_c2
 refine (specMoneyOk_any _ m _ hlm (OMm.out _ bb0)).mono ?_
 rintro e w1 ⟨rfl,b1⟩
 have hz1:w.heap.size+4 ≤ w1.heap.size:=by have:=b1.size;(try simp at this);omega
 have bb1:=Below.next bb0 b1
 replace kt:=kt.below b1
 replace km:=km.below b1
 replace kM:=kM.below b1
 replace kQ:=kQ.below b1
 obtain ⟨ok1,hok1⟩:∃ b,okM m = b:=⟨_,rfl⟩
 rw [hok1]
 have HOK1:=Lib.hid hok1
 clear hok1
 cases ok1 with
 | false =>
   have HV:=Lib.hid (cv_form (by rw [EF.out,HOK1.out];rfl))
   have HW:=Lib.hid (newMQn_zeroC (n:=1) (T:=[w.heap.size+1+1,w.heap.size+1+1+1]) (fun i hi=>by simp at hi;omega) bb1)
   have ckM0:=kM.here.cell 0 _ rfl
   have fkM0:=Lib.frozen_of_heap kM.here 0
   have ckM1:=kM.here.cell 1 _ rfl
   have fkM1:=Lib.frozen_of_heap kM.here 1
   have ckM2:=kM.here.cell 2 _ rfl
   have fkM2:=Lib.frozen_of_heap kM.here 2
   have ckQ0:=kQ.here.cell 0 _ rfl
   have fkQ0:=Lib.frozen_of_heap kQ.here 0
   have ckQ1:=kQ.here.cell 1 _ rfl
   have fkQ1:=Lib.frozen_of_heap kQ.here 1
   have ckQ2:=kQ.here.cell 2 _ rfl
   have fkQ2:=Lib.frozen_of_heap kQ.here 2
   clear kM kQ kt km
   go_wp2
   refine bodyPost_ret (v:=.tuple #[.agg #[.string ⟨#[]⟩,.bool false,.slice none 0 0],.agg #[.bool false,.slice none 0 0,.slice none 0 0],.int .i64 1]) (by simp [results,Tryz.results6,go_sem,ckM0,ckM1,ckM2,ckQ0,ckQ1,ckQ2]) rfl ?_
   rw [HV.out.1,HV.out.2.1,HV.out.2.2]
   refine HW.out _ ?_
   repeat (first | with_reducible exact Chg.refl _ _ | with_reducible refine Chg.drew1 ?_ | with_reducible refine Chg.setCell ?_ (by simp) _)
 | true =>
   have kt_c0:=kt.here.cell 0 _ rfl
   have kt_c1:=kt.here.cell 1 _ rfl
   go_wp2_with fail
   clear kt_c0 kt_c1
   refine (specl11Form_any _ t q k _ hl hx (HTR.out _ bb1)).mono ?_
   rintro e w2 ⟨rfl,b2⟩
   have hz2:w.heap.size+4 ≤ w2.heap.size:=by have:=b2.size;(try simp at this);omega
   have bb2:=Below.next bb1 b2
   replace kt:=kt.below b2
   replace km:=km.below b2
   replace kM:=kM.below b2
   replace kQ:=kQ.below b2
   obtain ⟨ok2,hok2⟩:∃ b,(okT t && (knownC q && modeB k)) = b:=⟨_,rfl⟩
   rw [hok2]
   have HOK2:=Lib.hid hok2
   clear hok2
   cases ok2 with
   | false =>
     have HV:=Lib.hid (cv_form (by rw [EF.out,HOK1.out,HOK2.out];rfl))
     have HW:=Lib.hid (newMQn_zeroC (n:=1) (T:=[w.heap.size+1+1,w.heap.size+1+1+1]) (fun i hi=>by simp at hi;omega) bb2)
     have ckM0:=kM.here.cell 0 _ rfl
     have fkM0:=Lib.frozen_of_heap kM.here 0
     have ckM1:=kM.here.cell 1 _ rfl
     have fkM1:=Lib.frozen_of_heap kM.here 1
     have ckM2:=kM.here.cell 2 _ rfl
     have fkM2:=Lib.frozen_of_heap kM.here 2
     have ckQ0:=kQ.here.cell 0 _ rfl
     have fkQ0:=Lib.frozen_of_heap kQ.here 0
     have ckQ1:=kQ.here.cell 1 _ rfl
     have fkQ1:=Lib.frozen_of_heap kQ.here 1
     have ckQ2:=kQ.here.cell 2 _ rfl
     have fkQ2:=Lib.frozen_of_heap kQ.here 2
     clear kM kQ kt km
     go_wp2
     refine bodyPost_ret (v:=.tuple #[.agg #[.string ⟨#[]⟩,.bool false,.slice none 0 0],.agg #[.bool false,.slice none 0 0,.slice none 0 0],.int .i64 1]) (by simp [results,Tryz.results6,go_sem,ckM0,ckM1,ckM2,ckQ0,ckQ1,ckQ2]) rfl ?_
     rw [HV.out.1,HV.out.2.1,HV.out.2.2]
     refine HW.out _ ?_
     repeat (first | with_reducible exact Chg.refl _ _ | with_reducible refine Chg.drew1 ?_ | with_reducible refine Chg.setCell ?_ (by simp) _)
   | true =>
     have HF:=Lib.hid (show formB t [m] q k = true by rw [EF.out,HOK1.out,HOK2.out];rfl)
     clear EF
     have kt_c0:=kt.here.cell 0 _ rfl
     have kt_c1:=kt.here.cell 1 _ rfl
     have km_c0:=km.here.cell 0 _ rfl
     have km_c1:=km.here.cell 1 _ rfl
     have km_c2:=km.here.cell 2 _ rfl
     go_wp2_with fail
     clear kt_c0 kt_c1 km_c0 km_c1 km_c2
     refine (specRateHow_any _ t m.1 q _ hl hx (HTR.out _ bb2)).mono ?_
     rintro e w3 ⟨rfl,b3⟩
     have hz3:w.heap.size+4 ≤ w3.heap.size:=by have:=b3.size;(try simp at this);omega
     have bb3:=Below.next bb2 b3
     replace kt:=kt.below b3
     replace km:=km.below b3
     replace kM:=kM.below b3
     replace kQ:=kQ.below b3
     obtain ⟨z,hz⟩:∃ z,howT t m.1 q = z:=⟨_,rfl⟩
     rw [hz]
     rw [hz] at EN
     clear hz
     by_cases hz0:z = 0
     ·subst hz0
      have HV:=Lib.hid (cv_rate HF.out (by rw [EN.out];rfl))
      have HW:=Lib.hid (newMQn_zeroC (n:=2) (T:=[w.heap.size+1+1,w.heap.size+1+1+1]) (fun i hi=>by simp at hi;omega) bb3)
      have ckM0:=kM.here.cell 0 _ rfl
      have fkM0:=Lib.frozen_of_heap kM.here 0
      have ckM1:=kM.here.cell 1 _ rfl
      have fkM1:=Lib.frozen_of_heap kM.here 1
      have ckM2:=kM.here.cell 2 _ rfl
      have fkM2:=Lib.frozen_of_heap kM.here 2
      have ckQ0:=kQ.here.cell 0 _ rfl
      have fkQ0:=Lib.frozen_of_heap kQ.here 0
      have ckQ1:=kQ.here.cell 1 _ rfl
      have fkQ1:=Lib.frozen_of_heap kQ.here 1
      have ckQ2:=kQ.here.cell 2 _ rfl
      have fkQ2:=Lib.frozen_of_heap kQ.here 2
      clear kM kQ kt km
      go_wp2
      refine bodyPost_ret (v:=.tuple #[.agg #[.string ⟨#[]⟩,.bool false,.slice none 0 0],.agg #[.bool false,.slice none 0 0,.slice none 0 0],.int .i64 2]) (by simp [results,Tryz.results6,go_sem,ckM0,ckM1,ckM2,ckQ0,ckQ1,ckQ2]) rfl ?_
      rw [HV.out.1,HV.out.2.1,HV.out.2.2]
      refine HW.out _ ?_
      repeat (first | with_reducible exact Chg.refl _ _ | with_reducible refine Chg.drew1 ?_ | with_reducible refine Chg.setCell ?_ (by simp) _)
     have HN:=Lib.hid (show noneB t [m] q = false by rw [EN.out];exact decide_eq_false hz0)
     have hz1:(z == (0:Int)) = false:=by simpa using hz0
     clear hz0 EN
     obtain ⟨⟨X,x⟩,hHX⟩:∃ r,exactR t m q = r:=⟨_,rfl⟩
     have HX:=Lib.hid hHX
     have hsX:szQ X ≤ 1048576:=by have:=exactR_sz t m q;rw [hHX] at this;exact this
     have HS1:=Lib.hid (show sumQ t q [m] = X by rw [sumQ_one,hHX])
     have HXN:=Lib.hid (show x = false→X = zeroQ from fun h=>by have:=exactR_no (t:=t) (m:=m) (c:=q) (by rw [hHX,h];exact Bool.false_ne_true);rw [hHX] at this;exact this)
     clear hHX
     have kt_c0:=kt.here.cell 0 _ rfl
     have kt_c1:=kt.here.cell 1 _ rfl
     have km_c0:=km.here.cell 0 _ rfl
     have km_c1:=km.here.cell 1 _ rfl
     have km_c2:=km.here.cell 2 _ rfl
     go_wp2_with fail
     clear kt_c0 kt_c1 km_c0 km_c1 km_c2
     refine ((specExact_any _ _ t m q _ hl hx hzm (HTR.out _ bb3) (OMm.out _ bb3)).mono fun _ _ h=>postQb_isC HX.out h).mono ?_
     rintro e w4 ⟨u1,S1,rfl,o1,l1,b4⟩
     obtain ⟨A1,c1,B1,d1,rfl⟩:=ownQ_form o1.here
     have hz4:w.heap.size+4 ≤ w4.heap.size:=by have:=b4.size;(try simp at this);omega
     clear hz1
     have bb4:=Below.next bb3 b4
     replace kt:=kt.below b4
     replace km:=km.below b4
     replace kM:=kM.below b4
     replace kQ:=kQ.below b4
     clear kt km
     have kx1:=box_new (w4) #[.bool X.1.1,.slice A1 X.1.2.length c1,.slice B1 X.2.length d1] 36
     have alx1:=below_al (Below.refl (w4).heap.size (w4)) (.cells #[.bool X.1.1,.slice A1 X.1.2.length c1,.slice B1 X.2.length d1] 36)
     have bbx1:=Below.next bb4 alx1
     replace kM:=kM.below alx1
     replace kQ:=kQ.below alx1
     replace o1:=o1.below alx1
     obtain ⟨R,hR⟩:∃ R,rmM q X k = R:=⟨_,rfl⟩
     obtain ⟨Q,hQ⟩:∃ Q,rmQ q X k = Q:=⟨_,rfl⟩
     obtain ⟨r,hr2⟩:∃ r,rmB q X k = r:=⟨_,rfl⟩
     have ER:=Lib.hid hR
     have EQ:=Lib.hid hQ
     have EB:=Lib.hid hr2
     clear hR hQ hr2
     have kx1_c0:=kx1.here.cell 0 _ rfl
     have kx1_c1:=kx1.here.cell 1 _ rfl
     have kx1_c2:=kx1.here.cell 2 _ rfl
     go_wp2_with fail
     clear kx1_c0 kx1_c1 kx1_c2
     refine ((specRatMoney_any q _ X k _ hsX o1.here).mono fun _ _ h=>postMQb_is3 ER.out EQ.out EB.out h).mono ?_
     rintro e w5 ⟨u3,x3,S3,T3,rfl,o3,q3,ap3,l3,k3,b5⟩
     obtain ⟨A3,c3,rfl⟩:=ownM_form o3.here
     obtain ⟨A4,c4,B4,d4,rfl⟩:=ownQ_form q3.here
     have hz5:w.heap.size+4 ≤ w5.heap.size:=by have:=b5.size;(try simp at this);omega
     have bb5:=Below.next bbx1 b5
     replace kM:=kM.below b5
     replace kQ:=kQ.below b5
     replace o1:=o1.below b5
     replace kx1:=kx1.below b5
     clear kx1 o1
     have HLS:=Lib.hid (show ∀ i ∈ S3,w.heap.size+1+1+1 < i from fun i hi=>by have:=(l3 i hi).1;simp at this;omega)
     have HLT:=Lib.hid (show ∀ i ∈ T3,w.heap.size+1+1+1 < i from fun i hi=>by have:=(k3 i hi).1;simp at this;omega)
     have HAP:=Lib.hid ap3
     clear l3 k3 ap3 l1
     go_upto_region 7 with fail
     have al6:Below w5.heap.size w5 ((w5.alloc (.cells #[.string R.1,.bool R.2.1,.slice A3 R.2.2.length c3] 34)).alloc (.cells #[.bool Q.1.1,.slice A4 Q.1.2.length c4,.slice B4 Q.2.length d4] 36)):=Below.next (below_al (Below.refl _ _) _) (below_al (Below.refl _ _) _)
     have km:=(box_new w5 #[.string R.1,.bool R.2.1,.slice A3 R.2.2.length c3] 34).below (below_al (Below.refl _ _) (.cells #[.bool Q.1.1,.slice A4 Q.1.2.length c4,.slice B4 Q.2.length d4] 36))
     have ky:=(box_new (w5.alloc (.cells #[.string R.1,.bool R.2.1,.slice A3 R.2.2.length c3] 34)) #[.bool Q.1.1,.slice A4 Q.1.2.length c4,.slice B4 Q.2.length d4] 36)
     rw [show (w5.alloc (.cells #[.string R.1,.bool R.2.1,.slice A3 R.2.2.length c3] 34)).heap.size = w5.heap.size+1 by simp] at ky
     have bb6:=Below.next bb5 al6
     replace kM:=kM.below al6
     replace kQ:=kQ.below al6
     replace o3:=o3.below al6
     replace q3:=q3.below al6
     obtain ⟨w6,hw6⟩:∃ W,W = ((w5.alloc (.cells #[.string R.1,.bool R.2.1,.slice A3 R.2.2.length c3] 34)).alloc (.cells #[.bool Q.1.1,.slice A4 Q.1.2.length c4,.slice B4 Q.2.length d4] 36)):=⟨_,rfl⟩
     rw [← hw6] at km ky kM kQ o3 q3 bb6 ⊢
     clear hw6 al6
     cases x with
     | false =>
       have HV:=Lib.hid (cv_large HF.out HN.out (by rw [HS1.out,HXN.out rfl,rmB_zero]))
       have HW:=Lib.hid (newMQn_zeroC (n:=3) (T:=[w.heap.size+1+1,w.heap.size+1+1+1]) (fun i hi=>by simp at hi;omega) bb6)
       have ckM0:=kM.here.cell 0 _ rfl
       have fkM0:=Lib.frozen_of_heap kM.here 0
       have ckM1:=kM.here.cell 1 _ rfl
       have fkM1:=Lib.frozen_of_heap kM.here 1
       have ckM2:=kM.here.cell 2 _ rfl
       have fkM2:=Lib.frozen_of_heap kM.here 2
       have ckQ0:=kQ.here.cell 0 _ rfl
       have fkQ0:=Lib.frozen_of_heap kQ.here 0
       have ckQ1:=kQ.here.cell 1 _ rfl
       have fkQ1:=Lib.frozen_of_heap kQ.here 1
       have ckQ2:=kQ.here.cell 2 _ rfl
       have fkQ2:=Lib.frozen_of_heap kQ.here 2
       clear kM kQ km ky o3 q3
       go_wp2
       refine bodyPost_ret (v:=.tuple #[.agg #[.string ⟨#[]⟩,.bool false,.slice none 0 0],.agg #[.bool false,.slice none 0 0,.slice none 0 0],.int .i64 3]) (by simp [results,Tryz.results6,go_sem,ckM0,ckM1,ckM2,ckQ0,ckQ1,ckQ2]) rfl ?_
       rw [HV.out.1,HV.out.2.1,HV.out.2.2]
       refine HW.out _ ?_
       repeat (first | with_reducible exact Chg.refl _ _ | with_reducible refine Chg.drew1 ?_ | with_reducible refine Chg.setCell ?_ (by simp) _)
     | true =>
       cases r with
       | false =>
         have HV:=Lib.hid (cv_large HF.out HN.out (by rw [HS1.out];exact EB.out))
         have HW:=Lib.hid (newMQn_zeroC (n:=3) (T:=[w.heap.size+1+1,w.heap.size+1+1+1]) (fun i hi=>by simp at hi;omega) bb6)
         have ckM0:=kM.here.cell 0 _ rfl
         have fkM0:=Lib.frozen_of_heap kM.here 0
         have ckM1:=kM.here.cell 1 _ rfl
         have fkM1:=Lib.frozen_of_heap kM.here 1
         have ckM2:=kM.here.cell 2 _ rfl
         have fkM2:=Lib.frozen_of_heap kM.here 2
         have ckQ0:=kQ.here.cell 0 _ rfl
         have fkQ0:=Lib.frozen_of_heap kQ.here 0
         have ckQ1:=kQ.here.cell 1 _ rfl
         have fkQ1:=Lib.frozen_of_heap kQ.here 1
         have ckQ2:=kQ.here.cell 2 _ rfl
         have fkQ2:=Lib.frozen_of_heap kQ.here 2
         clear kM kQ km ky o3 q3
         go_wp2
         refine bodyPost_ret (v:=.tuple #[.agg #[.string ⟨#[]⟩,.bool false,.slice none 0 0],.agg #[.bool false,.slice none 0 0,.slice none 0 0],.int .i64 3]) (by simp [results,Tryz.results6,go_sem,ckM0,ckM1,ckM2,ckQ0,ckQ1,ckQ2]) rfl ?_
         rw [HV.out.1,HV.out.2.1,HV.out.2.2]
         refine HW.out _ ?_
         repeat (first | with_reducible exact Chg.refl _ _ | with_reducible refine Chg.drew1 ?_ | with_reducible refine Chg.setCell ?_ (by simp) _)
       | true =>
         have HV:=Lib.hid (cv_good HF.out HN.out (by rw [HS1.out];exact EB.out))
         have HW:=Lib.hid (newMQn_chgC (R2:=0) (T:=[w.heap.size+1+1,w.heap.size+1+1+1]) o3 q3 HAP.out (fun i hi hm=>by have:=HLS.out i hi;simp at hm;omega) (fun i hi hm=>by have:=HLT.out i hi;simp at hm;omega) (fun i hi=>by simp at hi;omega) (fun i hi=>by have:=HLS.out i hi;omega) (fun i hi=>by have:=HLT.out i hi;omega) bb6)
         have ckM0:=kM.here.cell 0 _ rfl
         have fkM0:=Lib.frozen_of_heap kM.here 0
         have ckM1:=kM.here.cell 1 _ rfl
         have fkM1:=Lib.frozen_of_heap kM.here 1
         have ckM2:=kM.here.cell 2 _ rfl
         have fkM2:=Lib.frozen_of_heap kM.here 2
         have ckQ0:=kQ.here.cell 0 _ rfl
         have fkQ0:=Lib.frozen_of_heap kQ.here 0
         have ckQ1:=kQ.here.cell 1 _ rfl
         have fkQ1:=Lib.frozen_of_heap kQ.here 1
         have ckQ2:=kQ.here.cell 2 _ rfl
         have fkQ2:=Lib.frozen_of_heap kQ.here 2
         have ckm0:=km.here.cell 0 _ rfl
         have ckm1:=km.here.cell 1 _ rfl
         have ckm2:=km.here.cell 2 _ rfl
         have cky0:=ky.here.cell 0 _ rfl
         have cky1:=ky.here.cell 1 _ rfl
         have cky2:=ky.here.cell 2 _ rfl
         have hn1:¬ w5.heap.size = w.heap.size+1+1:=by omega
         have hn1':¬ w.heap.size+1+1 = w5.heap.size:=by omega
         have hn2:¬ w5.heap.size = w.heap.size+1+1+1:=by omega
         have hn2':¬ w.heap.size+1+1+1 = w5.heap.size:=by omega
         have hn3:¬ w5.heap.size+1 = w.heap.size+1+1:=by omega
         have hn3':¬ w.heap.size+1+1 = w5.heap.size+1:=by omega
         have hn4:¬ w5.heap.size+1 = w.heap.size+1+1+1:=by omega
         have hn4':¬ w.heap.size+1+1+1 = w5.heap.size+1:=by omega
         clear kM kQ km ky o3 q3
         go_wp2_with fail
         go_region
         all_goals
          go_wp2
          refine bodyPost_ret (v:=.tuple #[.agg #[.string R.1,.bool R.2.1,.slice A3 R.2.2.length c3],.agg #[.bool Q.1.1,.slice A4 Q.1.2.length c4,.slice B4 Q.2.length d4],.int .i64 0]) (by simp [results,Tryz.results6,go_sem,ckM0,ckM1,ckM2,ckQ0,ckQ1,ckQ2]) rfl ?_
          rw [HV.out.1,HV.out.2.1,HV.out.2.2,HS1.out,ER.out,EQ.out]
          refine HW.out _ ?_
          repeat (first | with_reducible exact Chg.refl _ _ | with_reducible refine Chg.drew1 ?_ | with_reducible refine Chg.setCell ?_ (by simp) _)
def RowPostb (r:CR) (b:Bool) (w:World) (e:Ending) (w':World):Prop:=e = .returned (.tuple #[.agg #[.string r.1,.string r.2.1,.int .i64 r.2.2.1,.int .i64 r.2.2.2],.bool b])∧Below w.heap.size w w'
theorem knownI {r:CR} (h:r ∈ implT):knownC r.1 = true:=List.any_eq_true.2 ⟨r.1,List.mem_map_of_mem (implT_sub r h),decide_eq_true rfl⟩
theorem knownI_none {n:ByteArray} (h:∀ r ∈ implT,¬ r.1 = n):knownC n = false:=by
 cases e:knownC n with
 | false=>rfl
 | true =>
   obtain ⟨r,hr,he,_⟩:=known_row e
   exact absurd he (h r (specT_sub r hr))
set_option maxHeartbeats 1000000 in
theorem implFind_any (n:ByteArray) (w:World) (ht:CurTab w):Calls Tryz.prog 127 #[.string n] w (RowPostb (rowOf specT n) (knownC n) w):=by
 have kr:=box_new w #[.string ⟨#[]⟩,.string ⟨#[]⟩,.int .i64 0,.int .i64 0] 182
 have b0:=below_al (Below.refl w.heap.size w) (.cells #[.string ⟨#[]⟩,.string ⟨#[]⟩,.int .i64 0,.int .i64 0] 182)
 have HT:=Lib.hid (ht.below b0)
 obtain ⟨W0,hW0⟩:∃ W0,W0 = w.alloc (.cells #[.string ⟨#[]⟩,.string ⟨#[]⟩,.int .i64 0,.int .i64 0] 182):=⟨_,rfl⟩
 rw [← hW0] at kr b0 HT
 have HW:=Lib.hid hW0
 have HI:=Lib.hid cur_index
 have HK:=Lib.hid kr
 have B1:=Lib.hid b0
 clear hW0 kr b0 ht
 go_enter Tryz.func127,Tryz.ntmps127
 go_wp2
 rw [← HW.out]
 refine wp_load_mid 199 _ (by rfl) 1 0 (by rfl) (cellsT implT) _ HT.out.range Tryz.underlying199 (by rfl) curInfo ?_
 generalize hTA:(cellsT implT).toArray = TA at *
 clear hTA HW
 go_wp2
 go_loopw [7] (fun i wr=>∃ k:Nat,k ≤ 20∧i = .int .i64 k∧Hid (∀ r ∈ implT.take k,¬ r.1 = n)∧Below W0.heap.size W0 wr) (fun i _=>20 - (intOf i).toNat)
 case atStart=>exact ⟨0,Nat.zero_le _,rfl,Lib.hid (fun r hr=>absurd hr (by simp)),Below.refl _ _⟩
 case round =>
  obtain ⟨k,hk,rfl,hp,hb⟩:=hrel
  by_cases hlt:k < 20
  ·have hix:=HI.out k hlt
   have HM:=Lib.hid (show implT[k] ∈ implT from List.getElem_mem _)
   have HN:=Lib.hid (fun h=>take_next hp.out (show k < implT.length from hlt) h)
   generalize implT[k] = r at hix HM HN
   obtain ⟨c,m,p,q⟩:=r
   simp only [cellsC] at hix
   have hal:=below_al (Below.refl wr.heap.size wr) (.cells #[.string c,.string m,.int .i64 p,.int .i64 q] 182)
   by_cases he:c = n
   ·subst he
    have hA:=Lib.hid (show rowOf specT c = _ from (rowOf_eq c).symm.trans (rowOf_mem implT_codes HM.out))
    have hA2:=Lib.hid (knownI HM.out)
    have ko:=(HK.out.below hb).below hal
    have HB:=Lib.hid (Below.next (Below.next B1.out hb) hal)
    have co0:=ko.here.cell 0 _ rfl
    have co1:=ko.here.cell 1 _ rfl
    have co2:=ko.here.cell 2 _ rfl
    have co3:=ko.here.cell 3 _ rfl
    have fo0:=Lib.frozen_of_heap ko.here 0
    have fo1:=Lib.frozen_of_heap ko.here 1
    have fo2:=Lib.frozen_of_heap ko.here 2
    have fo3:=Lib.frozen_of_heap ko.here 3
    clear HM HN hp ko hal
    go_wp2
    refine bodyPost_ret (v:=.tuple #[.agg #[.string c,.string m,.int .i64 p,.int .i64 q],.bool true]) (by simp [results,Tryz.results127,go_sem,co0,co1,co2,co3]) rfl ?_
    unfold RowPostb
    rw [hA.out,show knownC c = true from hA2.out]
    exact ⟨rfl,below_set4 HB.out (Nat.le_refl _)⟩
   ·have HN2:=Lib.hid (HN.out he)
    clear HM HN hp hal
    have hne:=bytes_neC he
    go_wp2
    exact ⟨⟨k+1,by omega,by go_num,HN2,hb.alloc (by have:=hb.size;omega) _⟩,by simp [intOf];omega⟩
  ·obtain rfl:k = 20:=by omega
   have hnone:∀ r ∈ implT,¬ r.1 = n:=by rw [← List.take_of_length_le (l:=implT) (i:=20) (by decide)];exact hp.out
   have hA:=Lib.hid (show rowOf specT n = zeroC from (rowOf_eq n).symm.trans (rowOf_none hnone))
   have hA2:=Lib.hid (knownI_none hnone)
   have ko:=HK.out.below hb
   have HB:=Lib.hid (Below.next B1.out hb)
   have co0:=ko.here.cell 0 _ rfl
   have co1:=ko.here.cell 1 _ rfl
   have co2:=ko.here.cell 2 _ rfl
   have co3:=ko.here.cell 3 _ rfl
   have fo0:=Lib.frozen_of_heap ko.here 0
   have fo1:=Lib.frozen_of_heap ko.here 1
   have fo2:=Lib.frozen_of_heap ko.here 2
   have fo3:=Lib.frozen_of_heap ko.here 3
   clear hp ko hnone
   go_wp2
   refine bodyPost_ret (v:=.tuple #[.agg #[.string ⟨#[]⟩,.string ⟨#[]⟩,.int .i64 0,.int .i64 0],.bool false]) (by simp [results,Tryz.results127,go_sem,co0,co1,co2,co3]) rfl ?_
   unfold RowPostb
   rw [hA.out,hA2.out]
   first | exact ⟨rfl,HB.out⟩ | exact ⟨rfl,below_set4 HB.out (Nat.le_refl _)⟩
set_option maxHeartbeats 400000 in
theorem implCurKnown_any (n:ByteArray) (w:World) (ht:CurTab w):Calls Tryz.prog 99 #[.string n] w fun e w'=>e = .returned (.bool (knownC n))∧Below w.heap.size w w':=by
 go_enter Tryz.func99,Tryz.ntmps99
 go_wp2_with fail
 refine (implFind_any n _ ht).mono ?_
 rintro e w1 ⟨rfl,b1⟩
 go_wp2
 go_ret
 exact ⟨rfl,below_al b1 _⟩
set_option maxHeartbeats 400000 in
theorem implIntOk_any (v:Value) (x:SI) (w:World) (hl:x.2.length ≤ 1048576) (h:RdS w v x) :
 Calls Tryz.prog 124 #[v] w fun e w'=>e = .returned (.bool (okS x))∧Below w.heap.size w w':=by
 obtain ⟨n,xs⟩:=x
 obtain ⟨u,rfl,hp⟩:=h
 obtain ⟨A,c,rfl⟩:=row_form hp
 rw [intsV_length] at hp ⊢
 simp only at hl hp ⊢
 have hbx:Below w.heap.size w (w.alloc (.cells #[.bool n,.slice A xs.length c] 32)):=below_al (Below.refl _ _) _
 have HV:=Lib.hid (show okS (n,xs) = (natOkB xs && (!n || decide (0 < xs.length))) from rfl)
 by_cases ok:natOkB xs = true
 ·rw [ok] at HV
  go_enter Tryz.func124,Tryz.ntmps124
  go_wp2_with fail
  refine (implNatOk_same _ xs 0 w.heap.size _ (by omega) (hp.below hbx (Nat.le_refl _))).mono ?_
  rintro e w1 ⟨rfl,rfl⟩
  rw [ok]
  by_cases hz:xs.length = 0
  ·have hb:((xs.length:Int) == 0) = true:=by rw [hz];rfl
   have hd:decide (0 < xs.length) = false:=decide_eq_false (by omega)
   rw [hd] at HV
   clear hz hd
   cases n <;>
   ·go_wp2
    go_ret
    exact ⟨ret_bool (by rw [HV.out];rfl),hbx⟩
  ·have hb:((xs.length:Int) == 0) = false:=by rw [beq_eq_false_iff_ne];omega
   have hd:decide (0 < xs.length) = true:=decide_eq_true (by omega)
   rw [hd] at HV
   clear hz hd
   cases n <;>
   ·go_wp2
    go_ret
    exact ⟨ret_bool (by rw [HV.out];rfl),hbx⟩
 ·have ok':natOkB xs = false:=by simpa using ok
  rw [ok'] at HV
  clear ok
  go_enter Tryz.func124,Tryz.ntmps124
  go_wp2_with fail
  refine (implNatOk_same _ xs 0 w.heap.size _ (by omega) (hp.below hbx (Nat.le_refl _))).mono ?_
  rintro e w1 ⟨rfl,rfl⟩
  rw [ok']
  go_wp2
  go_ret
  exact ⟨ret_bool (by rw [HV.out];rfl),hbx⟩
theorem Below.drew1 {B:Nat} {w w1:World} (h:Below B w w1):Below B w w1.drew:=⟨h.os,h.tape,h.output,h.size,h.block⟩
@[reducible] def intK (n:Bool):NatK:=⟨[.bool n],206,by decide⟩
theorem NatX.below {K:NatK} {B b:Nat} {xs:List Int} {w w':World} (h:NatX K B b xs w) (hb:Below w.heap.size w w'):NatX K B b xs w':=by
 have hlt:=h.lt
 obtain ⟨hB,v,hk,ho,hne⟩:=h
 exact ⟨hB,v,(hb.block b hlt).trans hk,own_below ho hb,hne⟩
def NewInteger (x:SI) (w:World) (e:Ending) (w':World):Prop :=
 ∃ b,e = .returned (.pointer (some ⟨b,0,none⟩))∧NatX (intK x.1) w.heap.size b x.2 w'∧Below w.heap.size w w'
theorem NatX.sign {m:Bool} {B b:Nat} {xs:List Int} {w:World} (h:NatX (intK m) B b xs w) (n:Bool):NatX (intK n) B b xs (w.setCell ⟨b,1,none⟩ (.bool n)):=by
 obtain ⟨hB,v,hk,ho,hne⟩:=h
 refine ⟨hB,v,?_,own_stays ho fun i hi=>Below.heap_setCell _ _ _ _ (fun e=>hne (by rw [hi,e])),hne⟩
 simp [World.setCell,Array.getElem?_modify,hk]
set_option maxHeartbeats 1000000 in
theorem copyInt_any (v:Value) (x:SI) (w:World) (hl:x.2.length ≤ 1048576) (h:RdS w v x) :
 Calls Tryz.prog 185 #[v] w (NewInteger x w):=by
 obtain ⟨u,rfl,hp⟩:=h
 obtain ⟨A,c,rfl⟩:=row_form hp
 rw [intsV_length] at hp ⊢
 have hbx:Below w.heap.size w (w.alloc (.cells #[.bool x.1,.slice A x.2.length c] 32)):=below_al (Below.refl _ _) _
 have kx:=box_new w #[.bool x.1,.slice A x.2.length c] 32
 obtain ⟨W0,hW0⟩:∃ W0,W0 = w.alloc (.cells #[.bool x.1,.slice A x.2.length c] 32):=⟨_,rfl⟩
 rw [← hW0] at hbx kx
 have HW:=Lib.hid hW0
 have HP:=Lib.hid hp
 have c0:=kx.here.cell 0 _ rfl
 have c1:=kx.here.cell 1 _ rfl
 have HBX:=Lib.hid hbx
 have KX:=Lib.hid kx
 clear hp hW0 kx hbx
 go_enter Tryz.func185,Tryz.ntmps185
 go_wp2_with fail
 rw [← HW.out]
 go_region_with (go_at_call 189;refine (copyNat_any _ x.2 0 w.heap.size _ hl (HP.out.below (Below.drew1 HBX.out) (Nat.le_refl _))).mono ?_;rintro e w3 ⟨b,rfl,hx,b3⟩;obtain ⟨hB,vv,hbk,hown,hne⟩:=hx;obtain ⟨A3,c3,rfl⟩:=own_len hown;have hk3:=((At.move (w':=W0.drew) KX.out (fun _ _=>rfl) (Nat.le_refl _)).below b3).here;(have d0:=hk3.cell 0 _ rfl);(have d1:=hk3.cell 1 _ rfl);(have cb:=NatX.cell hbk);have HO:=Lib.hid hown;have HB3:=Lib.hid b3;clear hbk hown hne hB b3 hk3)
 all_goals
  have bb3:=Below.next (Below.drew1 HBX.out) HB3.out
  go_wp2
  go_ret
  exact ⟨_,rfl,NatX.new (K:=intK x.1) bb3.size (own_low HO.out (Below.drew1 HBX.out).size),below_al bb3 _⟩
def NewSB (B:Nat) (x:SI) (w:World) (e:Ending) (w':World):Prop:=∃ u,e = .returned (.agg #[.bool x.1,u])∧w'.ownsRow B 3 1 u x.2.length (intsV x.2)∧Below w.heap.size w w'
set_option maxHeartbeats 1000000 in
theorem signed_any (n:Bool) (B b:Nat) (xs:List Int) (w:World) (hl:xs.length ≤ 1048576) (h:NatX (intK n) B b xs w) :
 Calls Tryz.prog 180 #[.pointer (some ⟨b,0,none⟩)] w (NewSB B (mkS n xs) w):=by
 have hcl:(capL xs).length ≤ 50:=by
  unfold capL
  split
  ·simp
  ·omega
 have HR:=Lib.hid (show mkS n xs = (n && decide (0 < (capL xs).length),capL xs) from rfl)
 have hbb:=below_al (Below.refl w.heap.size w) (.cells #[.bool false,.slice none 0 0] 32)
 have kr:=box_new w #[.bool false,.slice none 0 0] 32
 have hx:NatX (intK n) B b xs (w.alloc (.cells #[.bool false,.slice none 0 0] 32)):=h.below hbb
 obtain ⟨W0,hW0⟩:∃ W0,W0 = w.alloc (.cells #[.bool false,.slice none 0 0] 32):=⟨_,rfl⟩
 rw [← hW0] at hx hbb kr
 have HW:=Lib.hid hW0
 clear hW0
 have cn:W0.cell? ⟨b,1,none⟩ = some (.bool n):=by
  obtain ⟨_,v,hb,_⟩:=hx
  exact NatX.cell1 hb 0 rfl
 have cz0:=kr.here.cell 0 _ rfl
 have cz1:=kr.here.cell 1 _ rfl
 have fz0:=Lib.frozen_of_heap kr.here 0
 have fz1:=Lib.frozen_of_heap kr.here 1
 have HK:=Lib.hid kr
 clear kr h
 cases n
 all_goals
  go_enter Tryz.func180,Tryz.ntmps180
  go_wp2_with fail
  rw [← HW.out]
  refine (natResult_any B b xs _ hl hx).mono ?_
  rintro e w1 ⟨rfl,v1,rfl,o1⟩
  obtain ⟨A1,c1,rfl⟩:=own_len o1
  have HR2:=HR.out
  generalize capL xs = ys at *
  have HO:=Lib.hid o1
  have HRR:=Lib.hid HR2
  clear o1 hx HR2 HR
  go_wp2
  refine bodyPost_ret (v:=.agg #[.bool _,.slice A1 ys.length c1]) (by simp [results,Tryz.results180,go_sem,cz0,cz1];rfl) rfl ?_
  rw [HRR.out]
  have hne:=Lib.ownBlock_ne HO.out HK.out.here (by decide)
  refine ⟨.slice A1 ys.length c1,?_,own_stays HO.out fun i hi=>?_,below_set2 hbb (Nat.le_refl _)⟩
  ·first | rfl | simp
  ·have:i ≠ w.heap.size:=fun e=>hne (by rw [hi,e])
   exact (Below.heap_setCell _ _ _ _ this).trans (Below.heap_setCell _ _ _ _ this)
set_option maxHeartbeats 1000000 in
theorem withSign_any (v:Value) (x:SI) (n:Bool) (w:World) (hl:x.2.length ≤ 1048576) (h:OwnS v x w) :
 Calls Tryz.prog 203 #[v,.bool n] w (NewS (if okS x = true then mkS n x.2 else zeroS) w):=by
 obtain ⟨u,rfl,ho⟩:=h
 obtain ⟨A,c,rfl⟩:=own_len ho
 have hbb:Below w.heap.size w ((w.alloc (.cells #[.bool x.1,.slice A x.2.length c] 32)).alloc (.cells #[.bool false,.slice none 0 0] 32)):=below_al (below_al (Below.refl _ _) _) _
 have kb:=(box_new w #[.bool x.1,.slice A x.2.length c] 32).below (below_al (Below.refl _ _) (.cells #[.bool false,.slice none 0 0] 32))
 have kr:=box_new (w.alloc (.cells #[.bool x.1,.slice A x.2.length c] 32)) #[.bool false,.slice none 0 0] 32
 rw [show (w.alloc (.cells #[.bool x.1,.slice A x.2.length c] 32)).heap.size = w.heap.size+1 by simp] at kr
 have hoB:=own_below ho hbb
 have hrd:RdS _ (.agg #[.bool x.1,.slice A x.2.length c]) x:=(OwnS.mk (x:=x) (ownI_of hoB)).rd
 by_cases ok:okS x = true
 ·rw [if_pos ok]
  go_enter Tryz.func203,Tryz.ntmps203
  go_wp2_with fail
  refine (implIntOk_any _ x _ hl hrd).mono ?_
  rintro e w1 ⟨rfl,b1⟩
  rw [ok]
  clear ok
  have bb1:=Below.next hbb b1
  replace kb:=kb.below b1
  replace kr:=kr.below b1
  have hlt1:w.heap.size+1 < w1.heap.size:=kr.lt _ (by simp)
  have ho1:=own_below hoB b1
  have cb0:=kb.here.cell 0 _ rfl
  have cb1:=kb.here.cell 1 _ rfl
  clear hoB hrd ho
  go_wp2_with fail
  refine (copyInt_any _ x _ hl (OwnS.mk (x:=x) (ownI_of ho1)).rd).mono ?_
  rintro e w2 ⟨b,rfl,hx,b2⟩
  have bb2:=Below.next bb1 b2
  replace kr:=kr.below b2
  have fn1:w2.frozen? ⟨b,1,none⟩ = false:=by
   obtain ⟨_,v,hb,_⟩:=hx
   exact Lib.frozen_of_heap hb 1
  have cn1:w2.cell? ⟨b,1,none⟩ = some (.bool x.1):=by
   obtain ⟨_,v,hb,_⟩:=hx
   exact NatX.cell1 hb 0 rfl
  have hx2:=hx.sign n
  have hbr:w1.heap.size ≤ b:=hx.1
  have hc2:Chg [b] w2 (w2.setCell ⟨b,1,none⟩ (.bool n)):=(Chg.refl _ _).setCell (by simp) _
  have bb3:Below w.heap.size w (w2.setCell ⟨b,1,none⟩ (.bool n)):=below_chg bb2 hc2 bb2.size (fun g hg=>by simp at hg;have:=bb1.size;omega)
  have kr3:=kr.chg hc2 (fun i hi hm=>by simp at hi hm;omega)
  clear kr kb cb0 cb1 ho1 hx
  go_wp2_with fail
  refine (signed_any n _ b x.2 _ hl hx2).mono ?_
  rintro e w3 ⟨u3,rfl,o3,b3⟩
  obtain ⟨A3,c3,rfl⟩:=own_len o3
  have bb4:=Below.next bb3 b3
  have kr4:=kr3.below b3
  have cz0:=kr4.here.cell 0 _ rfl
  have cz1:=kr4.here.cell 1 _ rfl
  have fz0:=Lib.frozen_of_heap kr4.here 0
  have fz1:=Lib.frozen_of_heap kr4.here 1
  have HO:=Lib.hid o3
  have HK:=Lib.hid kr4
  clear o3 kr3 kr4 hc2 hx2
  go_wp2
  refine bodyPost_ret (v:=.agg #[.bool _,.slice A3 _ c3]) (by simp [results,Tryz.results203,go_sem,cz0,cz1];exact ⟨rfl,rfl⟩) rfl ?_
  exact newS_ret HK.out.here HO.out bb1.size (by omega) bb4
 ·have ok':okS x = false:=by simpa using ok
  rw [if_neg ok]
  clear ok
  go_enter Tryz.func203,Tryz.ntmps203
  go_wp2_with fail
  refine (implIntOk_any _ x _ hl hrd).mono ?_
  rintro e w1 ⟨rfl,b1⟩
  rw [ok']
  have bb1:=Below.next hbb b1
  replace kr:=kr.below b1
  have cz0:=kr.here.cell 0 _ rfl
  have cz1:=kr.here.cell 1 _ rfl
  have fz0:=Lib.frozen_of_heap kr.here 0
  have fz1:=Lib.frozen_of_heap kr.here 1
  clear kb hoB hrd ho
  go_wp2
  refine bodyPost_ret (v:=.agg #[.bool false,.slice none 0 0]) (by simp [results,Tryz.results203,go_sem,cz0,cz1]) rfl ?_
  exact newS_zero (below_set2 bb1 (by omega))
theorem natOk_trim {xs:List Int} (h:natOkB xs = true):trimL xs = xs:=by
 rw [ok_trimL h,← natOk_limbs h]
set_option maxHeartbeats 1000000 in
theorem implIntNeg_any (v:Value) (x:SI) (w:World) (hl:x.2.length ≤ 1048576) (h:OwnS v x w) :
 Calls Tryz.prog 194 #[v] w (NewS (negS x) w):=by
 have HV:=Lib.hid (show (if okS x = true then mkS (!x.1) x.2 else zeroS) = negS x by
  by_cases ok:okS x = true
  ·rw [if_pos ok,← negS_mk ok,natOk_trim (okS_parts ok).1]
  ·unfold negS;rw [if_neg ok,if_neg ok])
 obtain ⟨u,rfl,ho⟩:=h
 obtain ⟨A,c,rfl⟩:=own_len ho
 have hbb:Below w.heap.size w ((w.alloc (.cells #[.bool x.1,.slice A x.2.length c] 32)).alloc (.cells #[.bool false,.slice none 0 0] 32)):=below_al (below_al (Below.refl _ _) _) _
 have kr:=box_new (w.alloc (.cells #[.bool x.1,.slice A x.2.length c] 32)) #[.bool false,.slice none 0 0] 32
 rw [show (w.alloc (.cells #[.bool x.1,.slice A x.2.length c] 32)).heap.size = w.heap.size+1 by simp] at kr
 have hoB:=OwnS.mk (x:=x) (ownI_of (own_below ho hbb))
 clear ho
 go_enter Tryz.func194,Tryz.ntmps194
 go_wp2_with fail
 refine (withSign_any _ x (!x.1) _ hl hoB).mono ?_
 rw [HV.out]
 rintro e w1 ⟨u1,rfl,o1,b1⟩
 generalize negS x = z at *
 obtain ⟨A1,c1,rfl⟩:=own_len o1
 have bb1:=Below.next hbb b1
 replace kr:=kr.below b1
 have cz0:=kr.here.cell 0 _ rfl
 have cz1:=kr.here.cell 1 _ rfl
 have fz0:=Lib.frozen_of_heap kr.here 0
 have fz1:=Lib.frozen_of_heap kr.here 1
 have HO:=Lib.hid o1
 have HK:=Lib.hid kr
 clear o1 kr hoB HV
 go_wp2
 refine bodyPost_ret (v:=.agg #[.bool _,.slice A1 _ c1]) (by simp [results,Tryz.results194,go_sem,cz0,cz1];exact ⟨rfl,rfl⟩) rfl ?_
 exact newS_ret HK.out.here HO.out hbb.size (by omega) bb1
theorem capL_short {xs:List Int} (h:xs.length ≤ 50):capL xs = xs:=by unfold capL;rw [if_neg (by omega)]
theorem capL_res (b:Bool) (n:Int):mkS b (natRes n) = mkS b (limbs n.toNat):=by
 have e:capL (natRes n) = capL (limbs n.toNat):=by
  unfold natRes
  by_cases h:(limbs n.toNat).length ≤ 50
  ·rw [capL_short h,capL_short h]
  ·rw [show capL (limbs n.toNat) = [] by unfold capL;rw [if_pos (by omega)]];rfl
 unfold mkS
 rw [e]
theorem natRes_short (n:Int):(natRes n).length ≤ 50:=by
 unfold natRes capL
 split
 ·simp
 ·omega
theorem mulN_short (a b:List Int):(mulN a b).length ≤ 50:=by unfold mulN;split;exact natRes_short _;simp
theorem mulS_mk {x y:SI} (okx:okS x = true) (oky:okS y = true):mkS (x.1 != y.1) (mulN x.2 y.2) = mulS x y:=by
 have px:=okS_parts okx
 have py:=okS_parts oky
 have h0x:=nval_ok px.1
 have h0y:=nval_ok py.1
 have h0:=Int.mul_nonneg h0x h0y
 unfold mulS
 rw [if_pos ⟨okx,oky⟩,mulN_ok px.1 py.1,capL_res,mkS_limbs]
 congr 1
 unfold valS
 rw [Int.toNat_of_nonneg h0]
 cases x.1 <;> cases y.1 <;> simp [Int.neg_mul,Int.mul_neg]
theorem NatX.early {n:Bool} {g:Nat} {u c0 c1:Value} {xs:List Int} {W:World} {B0 B:Nat} (hb:BoxAt g #[c0,c1] 206 W) (o:W.ownsRow B 3 1 u xs.length (intsV xs)) (hB:B0 ≤ B) (hg:B0 ≤ g) :
 NatX (intK n) B0 g xs ((W.setCell ⟨g,0,none⟩ u).setCell ⟨g,1,none⟩ (.bool n)):=by
 have hne:=Lib.ownBlock_ne o hb (by decide)
 have hb':W.heap[g]? = some (.cells #[c0,c1] 206 (0,0)):=hb
 refine ⟨hg,u,by simp [World.setCell,Array.getElem?_modify,hb'],own_low (own_stays o fun i hi=>?_) hB,hne⟩
 have:i ≠ g:=fun e=>hne (by rw [hi,e])
 exact (Below.heap_setCell _ _ _ _ this).trans (Below.heap_setCell _ _ _ _ this)
theorem NatX.late {n:Bool} {u:Value} {xs:List Int} {W:World} {B0 B:Nat} (o:W.ownsRow B 3 1 u xs.length (intsV xs)) (hB:B0 ≤ B) (hW:B0 ≤ W.heap.size):NatX (intK n) B0 W.heap.size xs (W.alloc (.cells #[u,.bool n] 206)) :=
 NatX.new (K:=intK n) hW (own_low o hB)
set_option maxHeartbeats 4000000 in
theorem implIntMul_any (vx vy:Value) (x y:SI) (w:World) (hlx:x.2.length ≤ 1048576) (hly:y.2.length ≤ 1048576) (hx:OwnS vx x w) (hy:OwnS vy y w) :
 Calls Tryz.prog 183 #[vx,vy] w (NewS (mulS x y) w):=by
 obtain ⟨ux,rfl,hox⟩:=hx
 obtain ⟨uy,rfl,hoy⟩:=hy
 obtain ⟨Ax,cx,rfl⟩:=own_len hox
 obtain ⟨Ay,cy,rfl⟩:=own_len hoy
 obtain ⟨W0,hW0⟩:∃ W0,W0 = ((w.alloc (.cells #[.bool x.1,.slice Ax x.2.length cx] 32)).alloc (.cells #[.bool y.1,.slice Ay y.2.length cy] 32)).alloc (.cells #[.bool false,.slice none 0 0] 32):=⟨_,rfl⟩
 have hbb:Below w.heap.size w W0:=by rw [hW0];exact below_al (below_al (below_al (Below.refl _ _) _) _) _
 have h3:=alloc3 w (.cells #[.bool x.1,.slice Ax x.2.length cx] 32) (.cells #[.bool y.1,.slice Ay y.2.length cy] 32) (.cells #[.bool false,.slice none 0 0] 32)
 rw [← hW0] at h3
 have kx:At [w.heap.size] (BoxAt w.heap.size #[.bool x.1,.slice Ax x.2.length cx] 32) W0:=box_at h3.1
 have ky:At [w.heap.size+1] (BoxAt (w.heap.size+1) #[.bool y.1,.slice Ay y.2.length cy] 32) W0:=box_at h3.2.1
 have kr:At [w.heap.size+1+1] (BoxAt (w.heap.size+1+1) #[.bool false,.slice none 0 0] 32) W0:=box_at h3.2.2.1
 have ox:=own_below hox hbb
 have oy:=own_below hoy hbb
 have rdx:=(OwnS.mk (x:=x) (ownI_of ox)).rd
 have HW:=Lib.hid hW0
 have cx0:=kx.here.cell 0 _ rfl
 have cx1:=kx.here.cell 1 _ rfl
 clear h3 hox hoy hW0
 by_cases okx:okS x = true
 ·go_enter Tryz.func183,Tryz.ntmps183
  go_wp2_with fail
  rw [← HW.out]
  refine (implIntOk_any _ x _ hlx rdx).mono ?_
  rintro e w1 ⟨rfl,b1⟩
  rw [okx]
  have bb1:=Below.next hbb b1
  replace kx:=kx.below b1
  replace ky:=ky.below b1
  replace kr:=kr.below b1
  replace ox:=own_below ox b1
  replace oy:=own_below oy b1
  have cy0:=ky.here.cell 0 _ rfl
  have cy1:=ky.here.cell 1 _ rfl
  clear rdx cx0 cx1
  go_wp2_with fail
  refine (implIntOk_any _ y w1 hly (OwnS.mk (x:=y) (ownI_of oy)).rd).mono ?_
  rintro e w2 ⟨rfl,b2⟩
  have bb2:=Below.next bb1 b2
  replace kx:=kx.below b2
  replace ky:=ky.below b2
  replace kr:=kr.below b2
  replace ox:=own_below ox b2
  replace oy:=own_below oy b2
  clear cy0 cy1
  by_cases oky:okS y = true
  ·rw [oky]
   have HV:=Lib.hid (mulS_mk okx oky)
   have cx0:=kx.here.cell 0 _ rfl
   have cx1:=kx.here.cell 1 _ rfl
   have cy0:=ky.here.cell 0 _ rfl
   have cy1:=ky.here.cell 1 _ rfl
   have HOX:=Lib.hid (show ∀ W,Below w2.heap.size w2 W→Row W 0 W.heap.size (.slice Ax x.2.length cx) (intsV x.2) from fun W hb=>(ownI_of (own_below ox hb)).row)
   have HOY:=Lib.hid (show ∀ W,Below w2.heap.size w2 W→Row W 0 W.heap.size (.slice Ay y.2.length cy) (intsV y.2) from fun W hb=>(ownI_of (own_below oy hb)).row)
   have HKR:=Lib.hid kr
   have hlt2:w.heap.size+1+1 < w2.heap.size:=kr.lt _ (by simp)
   clear okx oky ox oy kr
   have HKX:=Lib.hid kx
   have HKY:=Lib.hid ky
   have HMB:=Lib.hid (Lib.hid (show mkS (x.1 != y.1) (mulN x.2 y.2) = mulS x y from HV.out))
   have hml:(mulN x.2 y.2).length ≤ 50:=mulN_short x.2 y.2
   clear kx ky b1 b2 HV
   obtain ⟨n,hn,hm⟩:∃ n,(x.1 != y.1) = n∧(x.1 == y.1) = !n:=⟨_,rfl,by cases x.1 <;> cases y.1 <;> rfl⟩
   have HN:=Lib.hid hn
   cases n
   all_goals
    first | rw [Bool.not_false] at hm | rw [Bool.not_true] at hm
    go_upto_region 3 with fail
    go_cut [5] (fun s wx=>∃ b,s = .pointer (some ⟨b,0,none⟩)∧Hid (NatX (intK (x.1 != y.1)) w2.heap.size b (mulN x.2 y.2) wx)∧Below w2.heap.size w2 wx)
    case first =>
     have HB0:=Lib.hid (show Below w2.heap.size w2 w2.drew from (Below.refl _ _).drew)
     have KL:=Lib.hid (show ∀ W,Below w2.heap.size w2 W→W.cell? ⟨w.heap.size,0,none⟩ = some (.bool x.1)∧W.cell? ⟨w.heap.size,1,none⟩ = some (.slice Ax x.2.length cx)∧W.cell? ⟨w.heap.size+1,0,none⟩ = some (.bool y.1)∧W.cell? ⟨w.heap.size+1,1,none⟩ = some (.slice Ay y.2.length cy)∧Hid (Below w2.heap.size w2 W) from
      fun W hb=>⟨(HKX.out.below hb).here.cell 0 _ rfl,(HKX.out.below hb).here.cell 1 _ rfl,(HKY.out.below hb).here.cell 0 _ rfl,(HKY.out.below hb).here.cell 1 _ rfl,Lib.hid hb⟩)
     clear cx0 cx1 cy0 cy1
     go_region_held3 (fun W=>W.cell? ⟨w.heap.size,0,none⟩ = some (.bool x.1)∧W.cell? ⟨w.heap.size,1,none⟩ = some (.slice Ax x.2.length cx)∧W.cell? ⟨w.heap.size+1,0,none⟩ = some (.bool y.1)∧W.cell? ⟨w.heap.size+1,1,none⟩ = some (.slice Ay y.2.length cy)∧Hid (Below w2.heap.size w2 W))
      ((refine KL.out _ ?_;(first | exact HBf.out | exact HB0.out | exact below_al HBf.out _ | exact below_al HB0.out _ | exact below_set2 HBf.out HB0.out.size | fail)))
      (first
        | (go_at_call 170;(have hBB:=(‹_∧_∧_∧_∧Hid (Below w2.heap.size w2 _)›).2.2.2.2);(with_reducible refine (implNatMul_any _ _ x.2 y.2 0 _ 0 _ _ hlx hly (Nat.le_refl _) (Nat.le_refl _) (HOX.out _ hBB.out) (HOY.out _ hBB.out)).mono ?_);rintro e wf ⟨uf,rfl,of,bf⟩;have HBf:=Lib.hid (Below.next hBB.out bf);have HBS:=Lib.hid hBB.out.size;(try have hbxf:At [w2.heap.size] (BoxAt w2.heap.size #[.slice none 0 0,.bool false] 206) wf:=At.below (box_new w2.drew _ _) bf);obtain ⟨Af,cf,rfl⟩:=own_len of;(try (have cz0:=hbxf.here.cell 0 _ rfl;have cz1:=hbxf.here.cell 1 _ rfl;have fz0:=Lib.frozen_of_heap hbxf.here 0;have fz1:=Lib.frozen_of_heap hbxf.here 1));clear hBB))
     all_goals (go_wp2_with fail;go_meet;first | exact ⟨_,rfl,Lib.hid (by rw [HN.out];exact NatX.late of HBS.out HBf.out.size),below_al HBf.out _⟩ | exact ⟨_,rfl,Lib.hid (by rw [HN.out];exact NatX.early hbxf.here of HBS.out (Nat.le_refl _)),below_set2 HBf.out (Nat.le_refl _)⟩)
    rename World=>w3
    obtain ⟨b,rfl,HX,b3⟩:=hcut
    have bb3:=Below.next bb2 b3
    have kr3:=HKR.out.below b3
    clear cx0 cx1 cy0 cy1
    go_wp2_with fail
    refine (signed_any _ _ b _ _ (by omega) HX.out).mono ?_
    rw [HMB.out.out]
    rintro e w4 ⟨u4,rfl,o4,b4⟩
    generalize mulS x y = z at *
    obtain ⟨A4,c4,rfl⟩:=own_len o4
    have bb4:=Below.next bb3 b4
    have kr4:=kr3.below b4
    have cz0:=kr4.here.cell 0 _ rfl
    have cz1:=kr4.here.cell 1 _ rfl
    have fz0:=Lib.frozen_of_heap kr4.here 0
    have fz1:=Lib.frozen_of_heap kr4.here 1
    have HO:=Lib.hid o4
    have HK:=Lib.hid kr4
    clear o4 kr3 kr4 HX HMB
    go_wp2
    refine bodyPost_ret (v:=.agg #[.bool _,.slice A4 _ c4]) (by simp [results,Tryz.results183,go_sem,cz0,cz1];exact ⟨rfl,rfl⟩) rfl ?_
    exact newS_ret HK.out.here HO.out bb2.size (by omega) bb4
  ·have oky':okS y = false:=by simpa using oky
   have HV:=Lib.hid (show mulS x y = zeroS by unfold mulS;rw [if_neg (fun h=>oky h.2)])
   rw [oky']
   have cz0:=kr.here.cell 0 _ rfl
   have cz1:=kr.here.cell 1 _ rfl
   have fz0:=Lib.frozen_of_heap kr.here 0
   have fz1:=Lib.frozen_of_heap kr.here 1
   clear oky kx ky kr ox oy
   go_wp2
   refine bodyPost_ret (v:=.agg #[.bool false,.slice none 0 0]) (by simp [results,Tryz.results183,go_sem,cz0,cz1]) rfl ?_
   rw [HV.out]
   exact newS_zero (below_set2 bb2 (by omega))
 ·have okx':okS x = false:=by simpa using okx
  have HV:=Lib.hid (show mulS x y = zeroS by unfold mulS;rw [if_neg (fun h=>okx h.1)])
  clear okx
  go_enter Tryz.func183,Tryz.ntmps183
  go_wp2_with fail
  rw [← HW.out]
  refine (implIntOk_any _ x _ hlx rdx).mono ?_
  rintro e w1 ⟨rfl,b1⟩
  rw [okx']
  have bb1:=Below.next hbb b1
  replace kr:=kr.below b1
  have cz0:=kr.here.cell 0 _ rfl
  have cz1:=kr.here.cell 1 _ rfl
  have fz0:=Lib.frozen_of_heap kr.here 0
  have fz1:=Lib.frozen_of_heap kr.here 1
  clear kx ky kr rdx ox oy cx0 cx1
  go_wp2
  refine bodyPost_ret (v:=.agg #[.bool false,.slice none 0 0]) (by simp [results,Tryz.results183,go_sem,cz0,cz1]) rfl ?_
  rw [HV.out]
  exact newS_zero (below_set2 bb1 (by omega))
theorem At.belowB {S:List Nat} {φ:World→Prop} {w w':World} {B:Nat} (h:At S φ w) (hb:Below B w w') (hS:∀ g ∈ S,g < B):At S φ w':=h.move (fun g hg=>hb.block g (hS g hg)) hb.size
theorem add_mk {P Q:SI} (okp:okS P = true) (okq:okS Q = true) (hs:P.1 = Q.1):mkS P.1 (limbs (nval P.2+nval Q.2).toNat) = ofZ (valS P+valS Q):=by
 have h0p:=nval_ok (okS_parts okp).1
 have h0q:=nval_ok (okS_parts okq).1
 rw [mkS_limbs]
 congr 1
 unfold valS
 rw [← hs]
 split <;> omega
theorem sub_mk {P Q:SI} (okp:okS P = true) (okq:okS Q = true) (hs:¬ P.1 = Q.1) (hle:nval Q.2 ≤ nval P.2):mkS P.1 (limbs (nval P.2 - nval Q.2).toNat) = ofZ (valS P+valS Q):=by
 have h0p:=nval_ok (okS_parts okp).1
 have h0q:=nval_ok (okS_parts okq).1
 rw [mkS_limbs]
 congr 1
 unfold valS
 cases hp:P.1 <;> cases hq:Q.1 <;> simp_all <;> omega
theorem addS_ok {x y:SI} (okx:okS x = true) (oky:okS y = true):addS x y = ofZ (valS x+valS y):=by unfold addS;rw [if_pos ⟨okx,oky⟩]
theorem swap_box {g:Nat} {a b:Value} {c0 c1:Value} {W:World} (h:BoxAt g #[c0,c1] 32 W):BoxAt g #[a,b] 32 ((W.setCell ⟨g,0,none⟩ a).setCell ⟨g,1,none⟩ b):=by
 have h':W.heap[g]? = some (.cells #[c0,c1] 32 (0,0)):=h
 simp [BoxAt,World.setCell,Array.getElem?_modify,h']
theorem NatX.drew1 {K:NatK} {B b:Nat} {xs:List Int} {w:World} (h:NatX K B b xs w):NatX K B b xs w.drew:=h
theorem Row.drew1 {w:World} {lo hi:Nat} {v:Value} {xs:List Value} (h:Row w lo hi v xs):Row w.drew lo hi v xs:=h
theorem natAdd_any {K:NatK} (B b:Nat) (xs:List Int) (vy:Value) (ys:List Int) (lo hi:Nat) (w:World) (oa:natOkB xs = true) (ob:natOkB ys = true) (hhi:hi ≤ B) (hr:Row w lo hi vy (intsV ys)) (h:NatX K B b xs w) :
 Calls Tryz.prog 186 #[.pointer (some ⟨b,0,none⟩),vy,.int .i64 1,.int .i64 0] w fun e w'=>e = .returned (.tuple #[])∧LeftX K B b (limbs (nval xs+nval ys).toNat) w w':=by
 have pa:=natOk_parts oa
 have pb:=natOk_parts ob
 refine (addTimes_any B b xs vy ys lo hi 1 0 w (by omega) (by omega) (by omega) (by omega) (by omega) pa.1 pb.1 hhi hr h).mono ?_
 rintro e w' ⟨rfl,zs,hl,hd,hv,hlen⟩
 rw [← add_limbs oa ob hd hv hlen]
 exact ⟨rfl,hl⟩
theorem nval_b50 {xs:List Int} (h:natOkB xs = true):nval xs < bp 50:=by
 have p:=natOk_parts h
 have h1:=nval_lt xs p.1
 have h2:=bp_mono p.2.1
 omega
theorem sum_short {xs ys:List Int} (oa:natOkB xs = true) (ob:natOkB ys = true):(limbs (nval xs+nval ys).toNat).length ≤ 1048576:=by
 have h1:=nval_b50 oa
 have h2:=nval_b50 ob
 have h3:=nval_ok oa
 have h4:=nval_ok ob
 have e:bp 51 = 1000000000 * bp 50:=rfl
 have h5:=bp_pos 50
 have h6:=limbs_length_le (nval xs+nval ys).toNat 51 (by rw [Int.toNat_of_nonneg (by omega)];omega)
 omega
theorem dif_short {xs ys:List Int} (oa:natOkB xs = true) (ob:natOkB ys = true) (hle:nval ys ≤ nval xs):(limbs (nval xs - nval ys).toNat).length ≤ 1048576:=by
 have h1:=nval_b50 oa
 have h4:=nval_ok ob
 have h6:=limbs_length_le (nval xs - nval ys).toNat 50 (by rw [Int.toNat_of_nonneg (by omega)];omega)
 omega
theorem below_low {B C:Nat} {w w1 w2:World} (h:Below B w w1) (k:Below C w1 w2) (hB:B ≤ C):Below B w w2 :=
 ⟨k.os.trans h.os,k.tape.trans h.tape,k.output.trans h.output,Nat.le_trans h.size k.size,fun i hi=>(k.block i (by omega)).trans (h.block i hi)⟩
set_option maxHeartbeats 4000000 in
theorem implIntAdd_any (vx vy:Value) (x y:SI) (w:World) (hlx:x.2.length ≤ 1048576) (hly:y.2.length ≤ 1048576) (hx:OwnS vx x w) (hy:OwnS vy y w) :
 Calls Tryz.prog 167 #[vx,vy] w (NewS (addS x y) w):=by
 obtain ⟨ux,rfl,hox⟩:=hx
 obtain ⟨uy,rfl,hoy⟩:=hy
 obtain ⟨Ax,cx,rfl⟩:=own_len hox
 obtain ⟨Ay,cy,rfl⟩:=own_len hoy
 obtain ⟨W0,hW0⟩:∃ W0,W0 = ((w.alloc (.cells #[.bool x.1,.slice Ax x.2.length cx] 32)).alloc (.cells #[.bool y.1,.slice Ay y.2.length cy] 32)).alloc (.cells #[.bool false,.slice none 0 0] 32):=⟨_,rfl⟩
 have hbb:Below w.heap.size w W0:=by rw [hW0];exact below_al (below_al (below_al (Below.refl _ _) _) _) _
 have h3:=alloc3 w (.cells #[.bool x.1,.slice Ax x.2.length cx] 32) (.cells #[.bool y.1,.slice Ay y.2.length cy] 32) (.cells #[.bool false,.slice none 0 0] 32)
 rw [← hW0] at h3
 have kx:At [w.heap.size] (BoxAt w.heap.size #[.bool x.1,.slice Ax x.2.length cx] 32) W0:=box_at h3.1
 have ky:At [w.heap.size+1] (BoxAt (w.heap.size+1) #[.bool y.1,.slice Ay y.2.length cy] 32) W0:=box_at h3.2.1
 have kr:At [w.heap.size+1+1] (BoxAt (w.heap.size+1+1) #[.bool false,.slice none 0 0] 32) W0:=box_at h3.2.2.1
 have ox:=own_below hox hbb
 have oy:=own_below hoy hbb
 have rdx:=(OwnS.mk (x:=x) (ownI_of ox)).rd
 have HW:=Lib.hid hW0
 have cx0:=kx.here.cell 0 _ rfl
 have cx1:=kx.here.cell 1 _ rfl
 clear h3 hox hoy hW0
 by_cases okx:okS x = true
 ·go_enter Tryz.func167,Tryz.ntmps167
  go_wp2_with fail
  rw [← HW.out]
  refine (implIntOk_any _ x _ hlx rdx).mono ?_
  rintro e w1 ⟨rfl,b1⟩
  rw [okx]
  have bb1:=Below.next hbb b1
  replace kx:=kx.below b1
  replace ky:=ky.below b1
  replace kr:=kr.below b1
  replace ox:=own_below ox b1
  replace oy:=own_below oy b1
  have cy0:=ky.here.cell 0 _ rfl
  have cy1:=ky.here.cell 1 _ rfl
  clear rdx cx0 cx1
  go_wp2_with fail
  refine (implIntOk_any _ y w1 hly (OwnS.mk (x:=y) (ownI_of oy)).rd).mono ?_
  rintro e w2 ⟨rfl,b2⟩
  have bb2:=Below.next bb1 b2
  replace kx:=kx.below b2
  replace ky:=ky.below b2
  replace kr:=kr.below b2
  replace ox:=own_below ox b2
  replace oy:=own_below oy b2
  clear cy0 cy1
  by_cases oky:okS y = true
  ·rw [oky]
   have HZ:=Lib.hid (addS_ok okx oky).symm
   have OKX:=Lib.hid okx
   have OKY:=Lib.hid oky
   have px:=okS_parts okx
   have py:=okS_parts oky
   have Nx:=Lib.hid px.1
   have Ny:=Lib.hid py.1
   have Dx:=Lib.hid (natOk_parts px.1)
   have Dy:=Lib.hid (natOk_parts py.1)
   have hlx5:=Dx.out.2.1
   have hly5:=Dy.out.2.1
   have cx0:=kx.here.cell 0 _ rfl
   have cx1:=kx.here.cell 1 _ rfl
   have cy0:=ky.here.cell 0 _ rfl
   have cy1:=ky.here.cell 1 _ rfl
   have rx:=(ownI_of ox).row
   have ry:=(ownI_of oy).row
   have hlt2:w.heap.size+1+1 < w2.heap.size:=kr.lt _ (by simp)
   clear okx oky px py b1 b2
   go_upto_region 3 with fail
   go_wp2_with fail
   refine (compareLimbs_any _ _ x.2 y.2 0 _ 0 _ w2 (by omega) (by omega) ⟨Dx.out.1,Dx.out.2.2⟩ ⟨Dy.out.1,Dy.out.2.2⟩ rx ry).mono ?_
   rintro e w' ⟨rfl,q,rfl⟩
   clear cx0 cx1 cy0 cy1
   obtain ⟨W3,hW3⟩:∃ W3,W3 = w2.drewN q:=⟨_,rfl⟩
   have b3:Below w2.heap.size w2 W3:=by rw [hW3];exact below_drewN (Below.refl _ _) q
   have bb3:=Below.next bb2 b3
   have hlt3:w.heap.size+1+1 < W3.heap.size:=by rw [hW3];exact hlt2
   replace kx:=kx.below b3
   replace ky:=ky.below b3
   replace kr:=kr.below b3
   replace ox:=own_below ox b3
   replace oy:=own_below oy b3
   rw [← hW3]
   clear rx ry b3 hW3 bb1 bb2 hlt2
   by_cases hle:nval y.2 ≤ nval x.2
   ·have hz:0 ≤ cmpI (nval x.2) (nval y.2):=by unfold cmpI;split <;> (try split) <;> omega
    have HLE:=Lib.hid hle
    have OKP:=OKX
    have OKQ:=OKY
    have NP:=Nx
    have NQ:=Ny
    generalize cmpI (nval x.2) (nval y.2) = z at *
    have hzb:decide (z < 0) = false:=decide_eq_false (by omega)
    clear hz hle
    obtain ⟨kP,kQ,oP,oQ⟩:_∧_∧_∧_:=⟨kx,ky,ox,oy⟩
    clear kx ky ox oy
    have rdP:=(OwnS.mk (x:=x) (ownI_of oP)).rd
    have cp0:=kP.here.cell 0 _ rfl
    have cp1:=kP.here.cell 1 _ rfl
    go_wp2_with fail
    refine (copyInt_any _ x W3 (by omega) rdP).mono ?_
    rintro e w4 ⟨b,rfl,hnx,b4⟩
    have bb4:=Below.next bb3 b4
    have hrQ:Row w4 0 W3.heap.size (.slice Ay y.2.length cy) (intsV y.2):=(ownI_of oQ).row.below b4 (Nat.le_refl _)
    replace kP:=kP.below b4
    replace kQ:=kQ.below b4
    replace kr:=kr.below b4
    clear cp0 cp1 rdP oP oQ
    have cp0:=kP.here.cell 0 _ rfl
    have cq0:=kQ.here.cell 0 _ rfl
    have cq1:=kQ.here.cell 1 _ rfl
    have HKQ:=Lib.hid kQ
    have HKR:=Lib.hid kr
    have HNX:=Lib.hid hnx
    have HRQ:=Lib.hid hrQ
    have hsz3:w.heap.size+1+1 < W3.heap.size:=hlt3
    clear kP kQ kr hnx hrQ
    by_cases hs:x.1 = y.1
    ·have hsb:(x.1 == y.1) = true:=by rw [hs];simp
     have HV:=Lib.hid ((add_mk OKP.out OKQ.out hs).trans HZ.out)
     clear hs HZ
     go_upto_region 9 with fail
     go_cut [] (fun wx=>Hid (NatX (intK x.1) W3.heap.size b (limbs (nval x.2+nval y.2).toNat) wx)∧Below W3.heap.size w4 wx)
     case first =>
      go_wp2_with fail
      go_region_with (go_at_call 186;refine (natAdd_any W3.heap.size b x.2 _ y.2 0 W3.heap.size _ NP.out NQ.out (Nat.le_refl _) HRQ.out.drew1 HNX.out.drew1).mono ?_;rintro e w5 ⟨rfl,hp5⟩;have H5:=Lib.hid hp5;clear hp5)
      all_goals
       go_wp2_with fail
       go_meet
       exact ⟨Lib.hid H5.out.1,(Below.drew1 (Below.refl _ _)).trans H5.out.2⟩
     rename World=>w6
     obtain ⟨HX,b6⟩:=hcut
     have bb6:=below_low bb4 b6 (by omega)
     have kr6:=HKR.out.belowB b6 (fun g hg=>by simp at hg;omega)
     clear cp0 cq0 cq1
     go_wp2_with fail
     refine (signed_any _ _ b _ _ (sum_short NP.out NQ.out) HX.out).mono ?_
     rw [HV.out]
     rintro e w7 ⟨u7,rfl,o7,b7⟩
     generalize addS x y = z7 at *
     obtain ⟨A7,c7,rfl⟩:=own_len o7
     have bb7:=Below.next bb6 b7
     have kr7:=kr6.below b7
     have cz0:=kr7.here.cell 0 _ rfl
     have cz1:=kr7.here.cell 1 _ rfl
     have fz0:=Lib.frozen_of_heap kr7.here 0
     have fz1:=Lib.frozen_of_heap kr7.here 1
     have HO:=Lib.hid o7
     have HK:=Lib.hid kr7
     clear o7 kr6 kr7 HX HV
     go_wp2
     refine bodyPost_ret (v:=.agg #[.bool _,.slice A7 _ c7]) (by simp [results,Tryz.results167,go_sem,cz0,cz1];exact ⟨rfl,rfl⟩) rfl ?_
     exact newS_ret HK.out.here HO.out (by omega) (by omega) bb7
    ·have hsb:(x.1 == y.1) = false:=by rw [beq_eq_false_iff_ne];exact hs
     have HV:=Lib.hid ((sub_mk OKP.out OKQ.out hs HLE.out).trans HZ.out)
     clear hs HZ
     go_upto_region 9 with fail
     go_cut [] (fun wx=>Hid (NatX (intK x.1) W3.heap.size b (limbs (nval x.2 - nval y.2).toNat) wx)∧Below W3.heap.size w4 wx)
     case first =>
      go_wp2_with fail
      go_region_with (go_at_call 187;refine (natTake_any W3.heap.size b x.2 _ y.2 0 W3.heap.size _ (by omega) (lens_of_le NP.out NQ.out HLE.out) (natOk_parts NP.out).1 (natOk_parts NQ.out).1 HLE.out (Nat.le_refl _) HRQ.out.drew1 HNX.out.drew1).mono ?_;rintro e w5 ⟨rfl,hp5⟩;have H5:=Lib.hid hp5;clear hp5)
      all_goals
       go_wp2_with fail
       go_meet
       exact ⟨Lib.hid H5.out.1,(Below.drew1 (Below.refl _ _)).trans H5.out.2⟩
     rename World=>w6
     obtain ⟨HX,b6⟩:=hcut
     have bb6:=below_low bb4 b6 (by omega)
     have kr6:=HKR.out.belowB b6 (fun g hg=>by simp at hg;omega)
     clear cp0 cq0 cq1
     go_wp2_with fail
     refine (signed_any _ _ b _ _ (dif_short NP.out NQ.out HLE.out) HX.out).mono ?_
     rw [HV.out]
     rintro e w7 ⟨u7,rfl,o7,b7⟩
     generalize addS x y = z7 at *
     obtain ⟨A7,c7,rfl⟩:=own_len o7
     have bb7:=Below.next bb6 b7
     have kr7:=kr6.below b7
     have cz0:=kr7.here.cell 0 _ rfl
     have cz1:=kr7.here.cell 1 _ rfl
     have fz0:=Lib.frozen_of_heap kr7.here 0
     have fz1:=Lib.frozen_of_heap kr7.here 1
     have HO:=Lib.hid o7
     have HK:=Lib.hid kr7
     clear o7 kr6 kr7 HX HV
     go_wp2
     refine bodyPost_ret (v:=.agg #[.bool _,.slice A7 _ c7]) (by simp [results,Tryz.results167,go_sem,cz0,cz1];exact ⟨rfl,rfl⟩) rfl ?_
     exact newS_ret HK.out.here HO.out (by omega) (by omega) bb7
   ·have hz:cmpI (nval x.2) (nval y.2) < 0:=by unfold cmpI;rw [if_pos (by omega)];omega
    have hle2:nval x.2 ≤ nval y.2:=by omega
    have HLE:=Lib.hid hle2
    have OKP:=OKY
    have OKQ:=OKX
    have NP:=Ny
    have NQ:=Nx
    replace HZ:Hid (ofZ (valS y+valS x) = addS x y):=Lib.hid (by rw [Int.add_comm];exact HZ.out)
    generalize cmpI (nval x.2) (nval y.2) = z at *
    have hzb:decide (z < 0) = true:=decide_eq_true hz
    clear hz hle hle2
    have cx0:=kx.here.cell 0 _ rfl
    have cx1:=kx.here.cell 1 _ rfl
    have cy0:=ky.here.cell 0 _ rfl
    have cy1:=ky.here.cell 1 _ rfl
    have fx0:=Lib.frozen_of_heap kx.here 0
    have fx1:=Lib.frozen_of_heap kx.here 1
    have fy0:=Lib.frozen_of_heap ky.here 0
    have fy1:=Lib.frozen_of_heap ky.here 1
    have HKX:=Lib.hid kx
    have HKY:=Lib.hid ky
    clear kx ky
    go_upto_region 5 with fail
    obtain ⟨V3,hV3⟩:∃ V3,V3 = (((W3.setCell ⟨w.heap.size,0,none⟩ (.bool y.1)).setCell ⟨w.heap.size,1,none⟩ (.slice Ay y.2.length cy)).setCell ⟨w.heap.size+1,0,none⟩ (.bool x.1)).setCell ⟨w.heap.size+1,1,none⟩ (.slice Ax x.2.length cx):=⟨_,rfl⟩
    rw [← hV3]
    have hsame:∀ i,i ≠ w.heap.size→i ≠ w.heap.size+1→V3.heap[i]? = W3.heap[i]?:=fun i h1 h2=>by
     rw [hV3,Below.heap_setCell _ _ _ _ h2,Below.heap_setCell _ _ _ _ h2,Below.heap_setCell _ _ _ _ h1,Below.heap_setCell _ _ _ _ h1]
    have hsize:V3.heap.size = W3.heap.size:=by rw [hV3];simp [World.setCell]
    have hnx0:=Lib.ownBlock_ne ox HKX.out.here (by decide)
    have hnx1:=Lib.ownBlock_ne ox HKY.out.here (by decide)
    have hny0:=Lib.ownBlock_ne oy HKX.out.here (by decide)
    have hny1:=Lib.ownBlock_ne oy HKY.out.here (by decide)
    have oP:V3.ownsRow 0 3 1 (.slice Ay y.2.length cy) y.2.length (intsV y.2):=own_stays (own_zero oy) fun i hi=>hsame i (fun e=>hny0 (by rw [hi,e])) (fun e=>hny1 (by rw [hi,e]))
    have oQ:V3.ownsRow 0 3 1 (.slice Ax x.2.length cx) x.2.length (intsV x.2):=own_stays (own_zero ox) fun i hi=>hsame i (fun e=>hnx0 (by rw [hi,e])) (fun e=>hnx1 (by rw [hi,e]))
    have kP:At [w.heap.size] (BoxAt w.heap.size #[.bool y.1,.slice Ay y.2.length cy] 32) V3:=box_at (by
     show V3.heap[w.heap.size]? = _
     rw [hV3,Below.heap_setCell _ _ _ _ (by simp),Below.heap_setCell _ _ _ _ (by simp)]
     exact swap_box HKX.out.here)
    have kQ:At [w.heap.size+1] (BoxAt (w.heap.size+1) #[.bool x.1,.slice Ax x.2.length cx] 32) V3:=box_at (by
     rw [hV3]
     refine swap_box (c0:=.bool y.1) (c1:=.slice Ay y.2.length cy) ?_
     show (World.heap _)[w.heap.size+1]? = _
     rw [Below.heap_setCell _ _ _ _ (by simp),Below.heap_setCell _ _ _ _ (by simp)]
     exact HKY.out.here)
    replace kr:At [w.heap.size+1+1] (BoxAt (w.heap.size+1+1) #[.bool false,.slice none 0 0] 32) V3:=kr.move (fun g hg=>by simp at hg;subst hg;exact hsame _ (by omega) (by omega)) (by omega)
    replace bb3:Below w.heap.size w V3:=by rw [hV3];exact below_set2 (below_set2 bb3 (Nat.le_refl _)) (by omega)
    replace hlt3:w.heap.size+1+1 < V3.heap.size:=by omega
    clear hV3 hsame hsize hnx0 hnx1 hny0 hny1 ox oy cx0 cx1 cy0 cy1 fx0 fx1 fy0 fy1 HKX HKY
    have rdP:=(OwnS.mk (x:=y) (ownI_of oP)).rd
    have cp0:=kP.here.cell 0 _ rfl
    have cp1:=kP.here.cell 1 _ rfl
    go_wp2_with fail
    refine (copyInt_any _ y V3 (by omega) rdP).mono ?_
    rintro e w4 ⟨b,rfl,hnx,b4⟩
    have bb4:=Below.next bb3 b4
    have hrQ:Row w4 0 V3.heap.size (.slice Ax x.2.length cx) (intsV x.2):=(ownI_of oQ).row.below b4 (Nat.le_refl _)
    replace kP:=kP.below b4
    replace kQ:=kQ.below b4
    replace kr:=kr.below b4
    clear cp0 cp1 rdP oP oQ
    have cp0:=kP.here.cell 0 _ rfl
    have cq0:=kQ.here.cell 0 _ rfl
    have cq1:=kQ.here.cell 1 _ rfl
    have HKQ:=Lib.hid kQ
    have HKR:=Lib.hid kr
    have HNX:=Lib.hid hnx
    have HRQ:=Lib.hid hrQ
    have hsz3:w.heap.size+1+1 < V3.heap.size:=hlt3
    clear kP kQ kr hnx hrQ
    by_cases hs:y.1 = x.1
    ·have hsb:(y.1 == x.1) = true:=by rw [hs];simp
     have HV:=Lib.hid ((add_mk OKP.out OKQ.out hs).trans HZ.out)
     clear hs HZ
     go_upto_region 9 with fail
     go_cut [] (fun wx=>Hid (NatX (intK y.1) V3.heap.size b (limbs (nval y.2+nval x.2).toNat) wx)∧Below V3.heap.size w4 wx)
     case first =>
      go_wp2_with fail
      go_region_with (go_at_call 186;refine (natAdd_any V3.heap.size b y.2 _ x.2 0 V3.heap.size _ NP.out NQ.out (Nat.le_refl _) HRQ.out.drew1 HNX.out.drew1).mono ?_;rintro e w5 ⟨rfl,hp5⟩;have H5:=Lib.hid hp5;clear hp5)
      all_goals
       go_wp2_with fail
       go_meet
       exact ⟨Lib.hid H5.out.1,(Below.drew1 (Below.refl _ _)).trans H5.out.2⟩
     rename World=>w6
     obtain ⟨HX,b6⟩:=hcut
     have bb6:=below_low bb4 b6 (by omega)
     have kr6:=HKR.out.belowB b6 (fun g hg=>by simp at hg;omega)
     clear cp0 cq0 cq1
     go_wp2_with fail
     refine (signed_any _ _ b _ _ (sum_short NP.out NQ.out) HX.out).mono ?_
     rw [HV.out]
     rintro e w7 ⟨u7,rfl,o7,b7⟩
     generalize addS x y = z7 at *
     obtain ⟨A7,c7,rfl⟩:=own_len o7
     have bb7:=Below.next bb6 b7
     have kr7:=kr6.below b7
     have cz0:=kr7.here.cell 0 _ rfl
     have cz1:=kr7.here.cell 1 _ rfl
     have fz0:=Lib.frozen_of_heap kr7.here 0
     have fz1:=Lib.frozen_of_heap kr7.here 1
     have HO:=Lib.hid o7
     have HK:=Lib.hid kr7
     clear o7 kr6 kr7 HX HV
     go_wp2
     refine bodyPost_ret (v:=.agg #[.bool _,.slice A7 _ c7]) (by simp [results,Tryz.results167,go_sem,cz0,cz1];exact ⟨rfl,rfl⟩) rfl ?_
     exact newS_ret HK.out.here HO.out (by omega) (by omega) bb7
    ·have hsb:(y.1 == x.1) = false:=by rw [beq_eq_false_iff_ne];exact hs
     have HV:=Lib.hid ((sub_mk OKP.out OKQ.out hs HLE.out).trans HZ.out)
     clear hs HZ
     go_upto_region 9 with fail
     go_cut [] (fun wx=>Hid (NatX (intK y.1) V3.heap.size b (limbs (nval y.2 - nval x.2).toNat) wx)∧Below V3.heap.size w4 wx)
     case first =>
      go_wp2_with fail
      go_region_with (go_at_call 187;refine (natTake_any V3.heap.size b y.2 _ x.2 0 V3.heap.size _ (by omega) (lens_of_le NP.out NQ.out HLE.out) (natOk_parts NP.out).1 (natOk_parts NQ.out).1 HLE.out (Nat.le_refl _) HRQ.out.drew1 HNX.out.drew1).mono ?_;rintro e w5 ⟨rfl,hp5⟩;have H5:=Lib.hid hp5;clear hp5)
      all_goals
       go_wp2_with fail
       go_meet
       exact ⟨Lib.hid H5.out.1,(Below.drew1 (Below.refl _ _)).trans H5.out.2⟩
     rename World=>w6
     obtain ⟨HX,b6⟩:=hcut
     have bb6:=below_low bb4 b6 (by omega)
     have kr6:=HKR.out.belowB b6 (fun g hg=>by simp at hg;omega)
     clear cp0 cq0 cq1
     go_wp2_with fail
     refine (signed_any _ _ b _ _ (dif_short NP.out NQ.out HLE.out) HX.out).mono ?_
     rw [HV.out]
     rintro e w7 ⟨u7,rfl,o7,b7⟩
     generalize addS x y = z7 at *
     obtain ⟨A7,c7,rfl⟩:=own_len o7
     have bb7:=Below.next bb6 b7
     have kr7:=kr6.below b7
     have cz0:=kr7.here.cell 0 _ rfl
     have cz1:=kr7.here.cell 1 _ rfl
     have fz0:=Lib.frozen_of_heap kr7.here 0
     have fz1:=Lib.frozen_of_heap kr7.here 1
     have HO:=Lib.hid o7
     have HK:=Lib.hid kr7
     clear o7 kr6 kr7 HX HV
     go_wp2
     refine bodyPost_ret (v:=.agg #[.bool _,.slice A7 _ c7]) (by simp [results,Tryz.results167,go_sem,cz0,cz1];exact ⟨rfl,rfl⟩) rfl ?_
     exact newS_ret HK.out.here HO.out (by omega) (by omega) bb7
  ·have oky':okS y = false:=by simpa using oky
   have HV:=Lib.hid (show addS x y = zeroS by unfold addS;rw [if_neg (fun h=>oky h.2)])
   rw [oky']
   have cz0:=kr.here.cell 0 _ rfl
   have cz1:=kr.here.cell 1 _ rfl
   have fz0:=Lib.frozen_of_heap kr.here 0
   have fz1:=Lib.frozen_of_heap kr.here 1
   clear oky kx ky kr ox oy
   go_wp2
   refine bodyPost_ret (v:=.agg #[.bool false,.slice none 0 0]) (by simp [results,Tryz.results167,go_sem,cz0,cz1]) rfl ?_
   rw [HV.out]
   exact newS_zero (below_set2 bb2 (by omega))
 ·have okx':okS x = false:=by simpa using okx
  have HV:=Lib.hid (show addS x y = zeroS by unfold addS;rw [if_neg (fun h=>okx h.1)])
  clear okx
  go_enter Tryz.func167,Tryz.ntmps167
  go_wp2_with fail
  rw [← HW.out]
  refine (implIntOk_any _ x _ hlx rdx).mono ?_
  rintro e w1 ⟨rfl,b1⟩
  rw [okx']
  have bb1:=Below.next hbb b1
  replace kr:=kr.below b1
  have cz0:=kr.here.cell 0 _ rfl
  have cz1:=kr.here.cell 1 _ rfl
  have fz0:=Lib.frozen_of_heap kr.here 0
  have fz1:=Lib.frozen_of_heap kr.here 1
  clear kx ky kr rdx ox oy cx0 cx1
  go_wp2
  refine bodyPost_ret (v:=.agg #[.bool false,.slice none 0 0]) (by simp [results,Tryz.results167,go_sem,cz0,cz1]) rfl ?_
  rw [HV.out]
  exact newS_zero (below_set2 bb1 (by omega))
theorem negS_len (x:SI):(negS x).2.length ≤ 1048576:=by
 have:=(natOk_parts (okS_parts (negS_ok x)).1).2.1
 omega
theorem sub_add (x:SI) {y:SI} (oky:okS y = true):subS x y = addS x (negS y):=by
 unfold subS addS
 by_cases okx:okS x = true
 ·rw [if_pos ⟨okx,oky⟩,if_pos ⟨okx,negS_ok y⟩,negS_val oky];rfl
 ·rw [if_neg (fun h=>okx h.1),if_neg (fun h=>okx h.1)]
set_option maxHeartbeats 4000000 in
theorem implIntSub_any (vx vy:Value) (x y:SI) (w:World) (hlx:x.2.length ≤ 1048576) (hly:y.2.length ≤ 1048576) (hx:OwnS vx x w) (hy:OwnS vy y w) :
 Calls Tryz.prog 181 #[vx,vy] w (NewS (subS x y) w):=by
 obtain ⟨ux,rfl,hox⟩:=hx
 obtain ⟨uy,rfl,hoy⟩:=hy
 obtain ⟨Ax,cx,rfl⟩:=own_len hox
 obtain ⟨Ay,cy,rfl⟩:=own_len hoy
 obtain ⟨W0,hW0⟩:∃ W0,W0 = ((w.alloc (.cells #[.bool x.1,.slice Ax x.2.length cx] 32)).alloc (.cells #[.bool y.1,.slice Ay y.2.length cy] 32)).alloc (.cells #[.bool false,.slice none 0 0] 32):=⟨_,rfl⟩
 have hbb:Below w.heap.size w W0:=by rw [hW0];exact below_al (below_al (below_al (Below.refl _ _) _) _) _
 have h3:=alloc3 w (.cells #[.bool x.1,.slice Ax x.2.length cx] 32) (.cells #[.bool y.1,.slice Ay y.2.length cy] 32) (.cells #[.bool false,.slice none 0 0] 32)
 rw [← hW0] at h3
 have kx:At [w.heap.size] (BoxAt w.heap.size #[.bool x.1,.slice Ax x.2.length cx] 32) W0:=box_at h3.1
 have ky:At [w.heap.size+1] (BoxAt (w.heap.size+1) #[.bool y.1,.slice Ay y.2.length cy] 32) W0:=box_at h3.2.1
 have kr:At [w.heap.size+1+1] (BoxAt (w.heap.size+1+1) #[.bool false,.slice none 0 0] 32) W0:=box_at h3.2.2.1
 have atx:=own_at hox
 have aty:=own_at hoy
 have ltx:=atx.lt
 have lty:=aty.lt
 have OFx:=Lib.hid (show ∀ W,Chg [w.heap.size+1+1] W0 W→OwnI (.slice Ax x.2.length cx) x.2 W from fun W hc=>((atx.below hbb).chg hc (fun i hi hm=>by have:=ltx i hi;simp at hm;omega)).here)
 have OFy:=Lib.hid (show ∀ W,Chg [w.heap.size+1+1] W0 W→OwnI (.slice Ay y.2.length cy) y.2 W from fun W hc=>((aty.below hbb).chg hc (fun i hi hm=>by have:=lty i hi;simp at hm;omega)).here)
 have KL:=Lib.hid (show ∀ W,Chg [w.heap.size+1+1] W0 W→W.cell? ⟨w.heap.size,0,none⟩ = some (.bool x.1)∧W.cell? ⟨w.heap.size,1,none⟩ = some (.slice Ax x.2.length cx)∧W.cell? ⟨w.heap.size+1,0,none⟩ = some (.bool y.1)∧W.cell? ⟨w.heap.size+1,1,none⟩ = some (.slice Ay y.2.length cy)∧Hid (Chg [w.heap.size+1+1] W0 W) from
  fun W hc=>⟨(kx.chg hc (fun i hi hm=>by simp at hi hm;omega)).here.cell 0 _ rfl,(kx.chg hc (fun i hi hm=>by simp at hi hm;omega)).here.cell 1 _ rfl,(ky.chg hc (fun i hi hm=>by simp at hi hm;omega)).here.cell 0 _ rfl,(ky.chg hc (fun i hi hm=>by simp at hi hm;omega)).here.cell 1 _ rfl,Lib.hid hc⟩)
 have HW:=Lib.hid hW0
 have RDy:=Lib.hid (show ∀ W,Below W0.heap.size W0 W→RdS W (.agg #[.bool y.1,.slice Ay y.2.length cy]) y from fun W hb=>(OwnS.mk (x:=y) (OFy.out W (Chg.of_below hb))).rd)
 have cx0:=kx.here.cell 0 _ rfl
 have cx1:=kx.here.cell 1 _ rfl
 have cy0:=ky.here.cell 0 _ rfl
 have cy1:=ky.here.cell 1 _ rfl
 have frz:=Lib.frozen_of_heap kr.here
 clear h3 atx aty ltx lty hW0 hox hoy
 by_cases oky:okS y = true
 ·have HV:=Lib.hid (sub_add x oky)
  have hnl:=negS_len y
  go_enter Tryz.func181,Tryz.ntmps181
  go_wp2_with fail
  rw [← HW.out]
  refine (implIntOk_any _ y W0 hly (RDy.out W0 (Below.refl _ _))).mono ?_
  rintro e w2 ⟨rfl,b02⟩
  rw [oky]
  have bb2:=Below.next hbb b02
  replace kx:=kx.below b02
  replace ky:=ky.below b02
  replace kr:=kr.below b02
  clear cx0 cx1 cy0 cy1
  have cx0:=kx.here.cell 0 _ rfl
  have cx1:=kx.here.cell 1 _ rfl
  have cy0:=ky.here.cell 0 _ rfl
  have cy1:=ky.here.cell 1 _ rfl
  go_wp2_with fail
  have KF:=Lib.hid (show ∀ W,Chg [w.heap.size+1+1] w2 W→Chg [w.heap.size+1+1] W0 W from fun W hc=>(Chg.of_below b02).trans hc)
  clear cx0 cx1 cy0 cy1
  go_region_held3 (fun W=>W.cell? ⟨w.heap.size,0,none⟩ = some (.bool x.1)∧W.cell? ⟨w.heap.size,1,none⟩ = some (.slice Ax x.2.length cx)∧W.cell? ⟨w.heap.size+1,0,none⟩ = some (.bool y.1)∧W.cell? ⟨w.heap.size+1,1,none⟩ = some (.slice Ay y.2.length cy)∧Hid (Chg [w.heap.size+1+1] W0 W))
   ((refine KL.out _ ?_;(first | exact HC2.out | exact HC1.out | exact (Chg.setCell (Chg.setCell HC2.out (by simp) _) (by simp) _) | exact KF.out _ ⟨rfl,rfl,rfl,Nat.le_refl _,fun _ _ _=>rfl⟩ | fail)))
   (first
     | (go_at_call 194;(have hBB:=(‹_∧_∧_∧_∧Hid (Chg [w.heap.size+1+1] W0 _)›).2.2.2.2);(with_reducible refine (implIntNeg_any _ y _ hly (OwnS.mk (x:=y) (OFy.out _ hBB.out))).mono ?_);rintro e w3' ⟨u3',rfl,o3',b3'⟩;have HC1:=Lib.hid (hBB.out.trans (Chg.of_below b3'));(have kr3:=At.behind kr b3' rfl);(have bb3':=Below.next (show Below w.heap.size w w2.drew from bb2.drew) b3');obtain ⟨A3',c3',rfl⟩:=own_len o3';clear hBB)
     | (go_at_call 167;(have hBB:=(‹_∧_∧_∧_∧Hid (Chg [w.heap.size+1+1] W0 _)›).2.2.2.2);(with_reducible refine (implIntAdd_any _ _ x (negS y) _ hlx hnl (OwnS.mk (x:=x) (OFx.out _ hBB.out)) (OwnS.mk (x:=negS y) (ownI_of o3'))).mono ?_);rintro e w3 ⟨u3,rfl,o3,b3⟩;have HC2:=Lib.hid (hBB.out.trans (Chg.of_below b3));(have kr4:=kr3.below b3);(have bb3:=Below.next bb3' b3);(have cz0:=kr4.here.cell 0 _ rfl);(have cz1:=kr4.here.cell 1 _ rfl);(have fz0:=Lib.frozen_of_heap kr4.here 0);(have fz1:=Lib.frozen_of_heap kr4.here 1);obtain ⟨A3,c3,rfl⟩:=own_len o3;clear hBB))
  have HO:=Lib.hid o3
  have HBB:=Lib.hid bb3
  have HK:=Lib.hid kr4
  have HZ:=Lib.hid bb3'.size
  clear o3 bb3 kr kr3 kr4 kx ky o3' b3' b3
  go_wp2
  refine bodyPost_ret (v:=.agg #[.bool _,.slice A3 _ c3]) (by simp [results,Tryz.results181,go_sem,cz0,cz1];exact ⟨rfl,rfl⟩) rfl ?_
  rw [HV.out]
  exact newS_ret HK.out.here HO.out HZ.out (by omega) HBB.out
 ·have oky2:okS y = false:=by simpa using oky
  have HV:=Lib.hid (show subS x y = zeroS by unfold subS;rw [if_neg (fun h=>oky h.2)])
  clear oky
  go_enter Tryz.func181,Tryz.ntmps181
  go_wp2_with fail
  rw [← HW.out]
  refine (implIntOk_any _ y W0 hly (RDy.out W0 (Below.refl _ _))).mono ?_
  rintro e w2 ⟨rfl,b2⟩
  rw [oky2]
  have bb2:=Below.next hbb b2
  replace kr:=kr.below b2
  have cz0:=kr.here.cell 0 _ rfl
  have cz1:=kr.here.cell 1 _ rfl
  have fz0:=Lib.frozen_of_heap kr.here 0
  have fz1:=Lib.frozen_of_heap kr.here 1
  clear kx ky kr cx0 cx1 cy0 cy1
  go_wp2
  refine bodyPost_ret (v:=.agg #[.bool false,.slice none 0 0]) (by simp [results,Tryz.results181,go_sem,cz0,cz1]) rfl ?_
  rw [HV.out]
  exact newS_zero (below_set2 bb2 (by omega))
theorem int_step {m n:Int} {out:List Int} {f:Nat} (hz:¬ m = 0) (hol:out.length+f ≤ 3) (hmf:m.natAbs < 1000000000 ^ f) (he:out ++ limbs m.natAbs = limbs n.natAbs) (hq:(m.tdiv 1000000000).natAbs = m.natAbs / 1000000000) :
 ∃ g:Nat,(out ++ [((m.natAbs % 1000000000:Nat):Int)]).length+g ≤ 3∧(m.tdiv 1000000000).natAbs < 1000000000 ^ g∧out ++ [((m.natAbs % 1000000000:Nat):Int)] ++ limbs (m.tdiv 1000000000).natAbs = limbs n.natAbs:=by
 cases f with
 | zero=>simp at hmf;omega
 | succ g =>
   refine ⟨g,by simp;omega,?_,?_⟩
   ·rw [hq]
    rw [Nat.pow_succ,Nat.mul_comm] at hmf
    exact Nat.div_lt_of_lt_mul hmf
   ·rw [hq,← he,limbs_pos m.natAbs (by omega),List.append_assoc]
    rfl
theorem intOf_mk (n:Int) {s:Bool} (h:decide (n < 0) = s):mkS s (limbs n.natAbs) = ofZ n:=by
 rw [mkS_limbs]
 congr 1
 subst h
 by_cases hn:n < 0
 ·rw [if_pos (by simpa using hn)];omega
 ·rw [if_neg (by simpa using hn)];omega
set_option maxHeartbeats 1000000 in
theorem implIntOf_any (n:Int) (w:World) (h0:-9223372036854775808 ≤ n) (h1:n ≤ 9223372036854775807) :
 Calls Tryz.prog 160 #[.int .i64 n] w (NewS (ofZ n) w):=by
 obtain ⟨i0,hi,hz0,hz1,hz2⟩:=info_parts intInfo
 have hbb:Below w.heap.size w (w.alloc (.cells #[.bool false,.slice none 0 0] 32)):=below_al (Below.refl _ _) _
 have kr:=box_new w #[.bool false,.slice none 0 0] 32
 obtain ⟨W0,hW0⟩:∃ W0,W0 = w.alloc (.cells #[.bool false,.slice none 0 0] 32):=⟨_,rfl⟩
 rw [← hW0] at hbb kr
 have hW0s:W0.heap.size = w.heap.size+1:=by rw [hW0];simp
 have HW:=Lib.hid hW0
 clear hW0
 obtain ⟨s,hs,hs2⟩:∃ s,decide (n < 0) = s∧Hid (decide (n < 0) = s):=⟨_,rfl,Lib.hid rfl⟩
 go_enter Tryz.func160,Tryz.ntmps160
 go_wp2_with fail
 obtain ⟨W1,hW1⟩:∃ W1,W1 = W0.alloc (.cells #[.slice none 0 0,.bool s] 206):=⟨_,rfl⟩
 have hx0:NatX (intK s) (w.heap.size+1) W0.heap.size [] W1:=by rw [hW1];exact NatX.late (n:=s) (W:=W0) (B0:=w.heap.size+1) (xs:=[]) (World.ownsRow_nil W0 (w.heap.size+1) 3 1) (Nat.le_refl _) (by omega)
 have hb0:Below W0.heap.size W0 W1:=by rw [hW1];exact below_al (Below.refl _ _) _
 rw [hW0s] at hx0
 go_loopw [0] (fun a wr=>∃ (m:Int) (out:List Int) (f:Nat),-9223372036854775808 ≤ m∧m ≤ 9223372036854775807∧out.length+f ≤ 3∧m.natAbs < 1000000000 ^ f∧a = .int .i64 m∧Hid (out ++ limbs m.natAbs = limbs n.natAbs)∧Hid (NatX (intK s) (w.heap.size+1) (w.heap.size+1) out wr)∧Hid (Below (w.heap.size+1) W0 wr)) (fun a _=>(intOf a).natAbs)
 case atStart =>
  rw [← HW.out,← hW1]
  exact ⟨n,[],3,h0,h1,by simp,by omega,rfl,Lib.hid rfl,Lib.hid hx0,Lib.hid (by rw [hW0s] at hb0;exact hb0)⟩
 case round =>
  obtain ⟨m,out,f,hm0,hm1,hol,hmf,rfl,HE,HX,HB⟩:=hrel
  by_cases hz:m = 0
  ·subst hz
   have hout:out = limbs n.natAbs:=by
    have e:=HE.out
    rwa [show (0:Int).natAbs = 0 from rfl,limbs_none,List.append_nil] at e
   subst hout
   have bb1:Below w.heap.size w wr:=below_low hbb HB.out (by omega)
   have kr1:=kr.belowB HB.out (fun g hg=>by simp at hg;omega)
   go_wp2_with fail
   refine (signed_any _ _ _ _ _ (by omega) HX.out).mono ?_
   rw [intOf_mk n hs2.out]
   rintro e w4 ⟨u4',rfl,o4,b4⟩
   generalize ofZ n = z at *
   obtain ⟨A4,c4,rfl⟩:=own_len o4
   have bb4:=Below.next bb1 b4
   have kr4:=kr1.below b4
   have cz0:=kr4.here.cell 0 _ rfl
   have cz1:=kr4.here.cell 1 _ rfl
   have fz0:=Lib.frozen_of_heap kr4.here 0
   have fz1:=Lib.frozen_of_heap kr4.here 1
   have HO:=Lib.hid o4
   have HK:=Lib.hid kr4
   clear o4 kr1 kr4 kr HX HB HE
   go_wp2
   refine bodyPost_ret (v:=.agg #[.bool _,.slice A4 _ c4]) (by simp [results,Tryz.results160,go_sem,cz0,cz1];exact ⟨rfl,rfl⟩) rfl ?_
   exact newS_ret HK.out.here HO.out (by omega) (Nat.le_refl _) bb4
  ·have hzb:(m == 0) = false:=by rw [beq_eq_false_iff_ne];exact hz
   have hzb2:(m != 0) = true:=by rw [bne_iff_ne];exact hz
   obtain ⟨hB,u,hbk,hown,hne⟩:=HX.out
   have hlt:=HX.out.lt
   obtain ⟨A,c,rfl⟩:=own_len hown
   have c1:wr.cell? ⟨w.heap.size+1,0,none⟩ = some (.slice A out.length c):=NatX.cell hbk
   have hra:(m.tmod 1000000000).natAbs = m.natAbs % 1000000000:=Int.natAbs_tmod m 1000000000
   have hqa:(m.tdiv 1000000000).natAbs = m.natAbs / 1000000000:=Int.natAbs_tdiv m 1000000000
   have hr0:-999999999 ≤ m.tmod 1000000000:=by omega
   have hr1:m.tmod 1000000000 ≤ 999999999:=by omega
   have HR:=Lib.hid hra
   have HQ:=Lib.hid hqa
   have HBK:=Lib.hid hbk
   have HNE:=Lib.hid hne
   clear hra hqa hbk hne
   go_wp2_with (at_builtin;refine wpList_append_own _ rfl (.tmp 16) (.tmp 21) 25 rfl (w.heap.size+1) 3 i0 (.int .i64 0) 1 8 Tryz.underlying25 hi hz0 hz1 hz2 rfl (by decide) _ _ _ rfl (own_alloc hown _) ⟨wr.heap.size,0,none⟩ 1 1 [.int .i64 _] rfl rfl (one_new _ _ _) ?c2 ?c3 ?c4 ?c5 ?_)
   any_goals (first | rfl | (unfold maxLen;omega) | omega)
   all_goals
    intro v1 w1 hown1 hg1 _
    have hdig:Hid (w1.ownsRow (w.heap.size+1) 3 1 v1 (out ++ [((m.natAbs % 1000000000:Nat):Int)]).length (intsV (out ++ [((m.natAbs % 1000000000:Nat):Int)]))):=Lib.hid (by
     have hra:=HR.out
     first
      | (have e:max (m.tmod 1000000000) (-m.tmod 1000000000) = ((m.natAbs % 1000000000:Nat):Int):=by omega
         rw [e] at hown1
         simpa [intsV] using hown1)
      | (have e:-m.tmod 1000000000 = ((m.natAbs % 1000000000:Nat):Int):=by omega
         rw [e] at hown1
         simpa [intsV] using hown1)
      | (have e:m.tmod 1000000000 = ((m.natAbs % 1000000000:Nat):Int):=by omega
         rw [e] at hown1
         simpa [intsV] using hown1))
    have hb2:w1.heap[w.heap.size+1]? = some (.cells (.slice A out.length c :: (intK s).rest).toArray (intK s).ty (0,0)):=by
     rw [hg1.block _ (by simp;omega) (fun e=>HNE.out e.symm),Below.heap_alloc _ _ _ hlt]
     exact HBK.out
    have d1:w1.cell? ⟨w.heap.size+1,0,none⟩ = some (.slice A out.length c):=NatX.cell hb2
    have f1:w1.frozen? ⟨w.heap.size+1,0,none⟩ = false:=Lib.frozen_of_heap hb2 0
    have hb3:Below (w.heap.size+1) W0 w1:=(HB.out.alloc (by omega) _).grown hg1 (by simp;omega) (fun k hk=>(own_lt hown hk).1)
    obtain ⟨A1,cc1,rfl⟩:=own_len hdig.out
    have HP:=Lib.hid (NatX.put (K:=intK s) hB hb2 hdig.out)
    have HB3:=Lib.hid (hb3.setCell (p:=⟨w.heap.size+1,0,none⟩) (Nat.le_refl _) (.slice A1 (out ++ [((m.natAbs % 1000000000:Nat):Int)]).length cc1))
    have hlen:(out ++ [((m.natAbs % 1000000000:Nat):Int)]).length = out.length+1:=by simp
    rw [hlen] at HP HB3
    have hqb:-9223372036854775808 ≤ m.tdiv 1000000000∧m.tdiv 1000000000 ≤ 9223372036854775807∧(m.tdiv 1000000000).natAbs < m.natAbs:=by have:=HQ.out;omega
    have HQB:=Lib.hid hqb
    have HN:=Lib.hid (int_step hz hol hmf HE.out HQ.out)
    clear hb2 hb3 hown hown1 hg1 hdig c1
    clear hr0 hr1 HR hmf hqb hlen
    go_wp2_with fail
    obtain ⟨g,h1,h2,h3⟩:=HN.out
    exact ⟨⟨_,_,g,HQB.out.1,HQB.out.2.1,h1,h2,rfl,Lib.hid h3,Lib.hid HP.out,HB3⟩,by simpa [intOf] using HQB.out.2.2⟩
set_option maxHeartbeats 2000000 in
theorem implIntCmp_any (vx vy:Value) (x y:SI) (w:World) (hlx:x.2.length ≤ 1048576) (hly:y.2.length ≤ 1048576) (hx:OwnS vx x w) (hy:OwnS vy y w) :
 Calls Tryz.prog 174 #[vx,vy] w fun e w'=>e = .returned (.int .i64 (cmpS x y))∧Below w.heap.size w w':=by
 obtain ⟨ux,rfl,hox⟩:=hx
 obtain ⟨uy,rfl,hoy⟩:=hy
 obtain ⟨Ax,cx,rfl⟩:=own_len hox
 obtain ⟨Ay,cy,rfl⟩:=own_len hoy
 have hbb:Below w.heap.size w ((w.alloc (.cells #[.bool x.1,.slice Ax x.2.length cx] 32)).alloc (.cells #[.bool y.1,.slice Ay y.2.length cy] 32)):=below_al (below_al (Below.refl _ _) _) _
 have kx:=(box_new w #[.bool x.1,.slice Ax x.2.length cx] 32).below (below_al (Below.refl _ _) (.cells #[.bool y.1,.slice Ay y.2.length cy] 32))
 have ky:=box_new (w.alloc (.cells #[.bool x.1,.slice Ax x.2.length cx] 32)) #[.bool y.1,.slice Ay y.2.length cy] 32
 rw [show (w.alloc (.cells #[.bool x.1,.slice Ax x.2.length cx] 32)).heap.size = w.heap.size+1 by simp] at ky
 have ox:=own_below hox hbb
 have oy:=own_below hoy hbb
 have rdx:=(OwnS.mk (x:=x) (ownI_of ox)).rd
 clear hox hoy
 by_cases okx:okS x = true
 ·go_enter Tryz.func174,Tryz.ntmps174
  go_wp2_with fail
  refine (implIntOk_any _ x _ hlx rdx).mono ?_
  rintro e w1 ⟨rfl,b1⟩
  rw [okx]
  have bb1:=Below.next hbb b1
  replace kx:=kx.below b1
  replace ky:=ky.below b1
  replace ox:=own_below ox b1
  replace oy:=own_below oy b1
  have cy0:=ky.here.cell 0 _ rfl
  have cy1:=ky.here.cell 1 _ rfl
  clear rdx
  go_wp2_with fail
  refine (implIntOk_any _ y w1 hly (OwnS.mk (x:=y) (ownI_of oy)).rd).mono ?_
  rintro e w2 ⟨rfl,b2⟩
  have bb2:=Below.next bb1 b2
  replace kx:=kx.below b2
  replace ky:=ky.below b2
  replace ox:=own_below ox b2
  replace oy:=own_below oy b2
  clear cy0 cy1
  by_cases oky:okS y = true
  ·rw [oky]
   have HV:=Lib.hid (show cmpS x y = cmpI (valS x) (valS y) by unfold cmpS;rw [if_pos ⟨okx,oky⟩])
   have px:=okS_parts okx
   have py:=okS_parts oky
   have h0x:=nval_ok px.1
   have h0y:=nval_ok py.1
   have Dx:=Lib.hid (natOk_parts px.1)
   have Dy:=Lib.hid (natOk_parts py.1)
   have cx0:=kx.here.cell 0 _ rfl
   have cx1:=kx.here.cell 1 _ rfl
   have cy0:=ky.here.cell 0 _ rfl
   have cy1:=ky.here.cell 1 _ rfl
   have hpx:x.1 = true→0 < nval x.2:=fun h=>okS_pos okx (px.2 h)
   have hpy:y.1 = true→0 < nval y.2:=fun h=>okS_pos oky (py.2 h)
   have HPX:=Lib.hid hpx
   have HPY:=Lib.hid hpy
   have rx:=(ownI_of ox).row
   have ry:=(ownI_of oy).row
   clear px py hpx hpy okx oky kx ky
   cases hx1:x.1 <;> cases hy1:y.1
   ·rw [hx1] at cx0
    rw [hy1] at cy0
    have HC:=Lib.hid (show cmpI (valS x) (valS y) = cmpI (nval x.2) (nval y.2) by unfold valS;rw [hx1,hy1];rfl)
    clear hx1 hy1
    go_wp2_with fail
    refine (compareLimbs_any _ _ x.2 y.2 0 _ 0 _ w2 (by omega) (by omega) ⟨Dx.out.1,Dx.out.2.2⟩ ⟨Dy.out.1,Dy.out.2.2⟩ rx ry).mono ?_
    rintro e w' ⟨rfl,q,rfl⟩
    go_wp2
    go_ret
    exact ⟨ret_int (by rw [HV.out,HC.out]),below_drewN bb2 q⟩
   ·rw [hx1] at cx0
    rw [hy1] at cy0
    have HC:=Lib.hid (show cmpI (valS x) (valS y) = 1 by have:=HPY.out hy1;unfold valS;rw [hx1,hy1];simp;unfold cmpI;rw [if_neg (by omega),if_pos (by omega)])
    clear hx1 hy1
    go_wp2
    go_ret
    exact ⟨ret_int (by rw [HV.out,HC.out]),bb2⟩
   ·rw [hx1] at cx0
    rw [hy1] at cy0
    have HC:=Lib.hid (show cmpI (valS x) (valS y) = -1 by have:=HPX.out hx1;unfold valS;rw [hx1,hy1];simp;unfold cmpI;rw [if_pos (by omega)])
    clear hx1 hy1
    go_wp2
    go_ret
    exact ⟨ret_int (by rw [HV.out,HC.out]),bb2⟩
   ·rw [hx1] at cx0
    rw [hy1] at cy0
    have HC:=Lib.hid (show cmpI (valS x) (valS y) = cmpI (nval y.2) (nval x.2) by unfold valS;rw [hx1,hy1];simp;unfold cmpI;split <;> split <;> (try split) <;> (try split) <;> omega)
    clear hx1 hy1
    go_wp2_with fail
    refine (compareLimbs_any _ _ y.2 x.2 0 _ 0 _ w2 (by omega) (by omega) ⟨Dy.out.1,Dy.out.2.2⟩ ⟨Dx.out.1,Dx.out.2.2⟩ ry rx).mono ?_
    rintro e w' ⟨rfl,q,rfl⟩
    go_wp2
    go_ret
    exact ⟨ret_int (by rw [HV.out,HC.out]),below_drewN bb2 q⟩
  ·have oky':okS y = false:=by simpa using oky
   have HV:=Lib.hid (show cmpS x y = 0 by unfold cmpS;rw [if_neg (fun h=>oky h.2)])
   rw [oky']
   clear oky kx ky
   go_wp2
   go_ret
   exact ⟨ret_int HV.out.symm,bb2⟩
 ·have okx':okS x = false:=by simpa using okx
  have HV:=Lib.hid (show cmpS x y = 0 by unfold cmpS;rw [if_neg (fun h=>okx h.1)])
  clear okx
  go_enter Tryz.func174,Tryz.ntmps174
  go_wp2_with fail
  refine (implIntOk_any _ x _ hlx rdx).mono ?_
  rintro e w1 ⟨rfl,b1⟩
  rw [okx']
  have bb1:=Below.next hbb b1
  clear kx ky rdx
  go_wp2
  go_ret
  exact ⟨ret_int HV.out.symm,bb1⟩
set_option maxHeartbeats 400000 in
theorem implIntSign_any (v:Value) (x:SI) (w:World) (hl:x.2.length ≤ 1048576) (h:OwnS v x w) :
 Calls Tryz.prog 152 #[v] w fun e w'=>e = .returned (.int .i64 (cmpS x zeroS))∧Below w.heap.size w w':=by
 obtain ⟨u,rfl,ho⟩:=h
 obtain ⟨A,c,rfl⟩:=own_len ho
 have hbb:Below w.heap.size w (w.alloc (.cells #[.bool x.1,.slice A x.2.length c] 32)):=below_al (Below.refl _ _) _
 have hoB:=OwnS.mk (x:=x) (ownI_of (own_below ho hbb))
 have hz:OwnS (.agg #[.bool false,.slice none 0 0]) zeroS (w.alloc (.cells #[.bool x.1,.slice A x.2.length c] 32)):=⟨_,rfl,World.ownsRow_nil _ _ _ _⟩
 go_enter Tryz.func152,Tryz.ntmps152
 go_wp2_with fail
 refine (implIntCmp_any _ _ x zeroS _ hl (by decide) hoB hz).mono ?_
 rintro e w1 ⟨rfl,b1⟩
 go_wp2
 go_ret
 exact ⟨rfl,Below.next hbb b1⟩
set_option maxHeartbeats 1000000 in
theorem implMoneyOk_any (vm:Value) (m:MI) (w:World) (hl:m.2.2.length ≤ 1048576) (hm:OwnM vm m w) (ht:CurTab w) :
 Calls Tryz.prog 97 #[vm] w (Postb (okM m) w):=by
 have Hm:=Lib.hid hm
 obtain ⟨Am,cm,rfl⟩:=ownM_form hm
 have OMm:=Lib.hid (show ∀ W,Below w.heap.size w W→OwnM (.agg #[.string m.1,.bool m.2.1,.slice Am m.2.2.length cm]) m W from fun W hb=>OwnM.below Hm.out hb)
 have OIm:=Lib.hid (show ∀ W,Below w.heap.size w W→OwnI (.slice Am m.2.2.length cm) m.2.2 W from fun W hb=>ownM_open (OMm.out W hb))
 have OSm:=Lib.hid (show ∀ W,Below w.heap.size w W→OwnS (.agg #[.bool m.2.1,.slice Am m.2.2.length cm]) m.2 W from fun W hb=>OwnS.mk (OIm.out W hb))
 clear hm
 have HT:=Lib.hid ht
 clear ht
 have bb0:Below w.heap.size w (w.alloc (.cells #[.string m.1,.bool m.2.1,.slice Am m.2.2.length cm] 34)):=below_al (Below.refl _ _) _
 have km:=(box_new w #[.string m.1,.bool m.2.1,.slice Am m.2.2.length cm] 34)
 go_enter Tryz.func97,Tryz.ntmps97
 have km_c0:=km.here.cell 0 _ rfl
 have km_c1:=km.here.cell 1 _ rfl
 have km_c2:=km.here.cell 2 _ rfl
 go_wp2_with fail
 clear km_c0 km_c1 km_c2
 refine (implCurKnown_any m.1 _ (HT.out.below bb0)).mono ?_
 rintro e w1 ⟨rfl,b1⟩
 have bb1:=Below.next bb0 b1
 replace km:=km.below b1
 by_cases ok0:knownC m.1 = true
 ·rw [ok0]
  have HO0:=Lib.hid ok0
  clear ok0
  have km_c0:=km.here.cell 0 _ rfl
  have km_c1:=km.here.cell 1 _ rfl
  have km_c2:=km.here.cell 2 _ rfl
  go_wp2_with fail
  clear km_c0 km_c1 km_c2
  refine (implIntOk_any _ m.2 _ hl (OwnS.rd (OSm.out _ bb1))).mono ?_
  rintro e w2 ⟨rfl,b2⟩
  have bb2:=Below.next bb1 b2
  replace km:=km.below b2
  by_cases ok1:okS m.2 = true
  ·rw [ok1]
   have HO1:=Lib.hid ok1
   clear ok1
   have HV:=Lib.hid (show okM m = decide ((m.2.2.length:Int) ≤ 4) by unfold okM;rw [HO0.out,HO1.out,Bool.true_and,Bool.true_and,decide_eq_decide];omega)
   have km_c0:=km.here.cell 0 _ rfl
   have km_c1:=km.here.cell 1 _ rfl
   have km_c2:=km.here.cell 2 _ rfl
   clear hl
   go_wp2
   go_ret
   exact ⟨ret_bool HV.out.symm,bb2⟩
  ·have ok1':okS m.2 = false:=by simpa using ok1
   have HV:=Lib.hid (show okM m = false by unfold okM;rw [ok1',Bool.and_false,Bool.false_and])
   rw [ok1']
   clear ok1 ok1'
   go_wp2
   go_ret
   exact ⟨ret_bool HV.out.symm,bb2⟩
 ·have ok0':knownC m.1 = false:=by simpa using ok0
  have HV:=Lib.hid (show okM m = false by unfold okM;rw [ok0',Bool.false_and,Bool.false_and])
  rw [ok0']
  clear ok0 ok0'
  go_wp2
  go_ret
  exact ⟨ret_bool HV.out.symm,bb1⟩
set_option maxHeartbeats 1000000 in
theorem validMoney_any (cu:ByteArray) (vx:Value) (x:SI) (S:List Nat) (w:World) (hl:x.2.length ≤ 1048576) (hx:At S (OwnS vx x) w) (ht:CurTab w) :
 Calls Tryz.prog 104 #[.string cu,vx] w (KeptM S (makeM cu x).1 (makeM cu x).2 w):=by
 obtain ⟨Ax,cx,rfl⟩:=ownS_form hx.here
 have HT:=Lib.hid ht
 clear ht
 have OX:=Lib.hid (show ∀ W,Below w.heap.size w W→At S (OwnM (.agg #[.string cu,.bool x.1,.slice Ax x.2.length cx]) (cu,x)) W from fun W hb=>(hx.below hb).imp fun _ h=>OwnM.mk (q:=(cu,x)) (ownS_openM h))
 have HLT:=Lib.hid hx.lt
 clear hx
 have bb0:Below w.heap.size w ((w.alloc (.cells #[.bool x.1,.slice Ax x.2.length cx] 32)).alloc (.cells #[.string ⟨#[]⟩,.bool false,.slice none 0 0] 34)):=below_al (below_al (Below.refl _ _) _) _
 have kx:=(box_new w #[.bool x.1,.slice Ax x.2.length cx] 32).below (below_al (Below.refl _ _) (.cells #[.string ⟨#[]⟩,.bool false,.slice none 0 0] 34))
 have ko:=(box_new (w.alloc (.cells #[.bool x.1,.slice Ax x.2.length cx] 32)) #[.string ⟨#[]⟩,.bool false,.slice none 0 0] 34)
 rw [show (w.alloc (.cells #[.bool x.1,.slice Ax x.2.length cx] 32)).heap.size = w.heap.size+1 by simp] at ko
 have kd:=box_new (((w.alloc (.cells #[.bool x.1,.slice Ax x.2.length cx] 32)).alloc (.cells #[.string ⟨#[]⟩,.bool false,.slice none 0 0] 34))) #[.string cu,.bool x.1,.slice Ax x.2.length cx] 34
 have ald:=below_al (Below.refl (((w.alloc (.cells #[.bool x.1,.slice Ax x.2.length cx] 32)).alloc (.cells #[.string ⟨#[]⟩,.bool false,.slice none 0 0] 34))).heap.size (((w.alloc (.cells #[.bool x.1,.slice Ax x.2.length cx] 32)).alloc (.cells #[.string ⟨#[]⟩,.bool false,.slice none 0 0] 34)))) (.cells #[.string cu,.bool x.1,.slice Ax x.2.length cx] 34)
 have bbd:=Below.next bb0 ald
 replace kx:=kx.below ald
 replace ko:=ko.below ald
 rw [show ((w.alloc (.cells #[.bool x.1,.slice Ax x.2.length cx] 32)).alloc (.cells #[.string ⟨#[]⟩,.bool false,.slice none 0 0] 34)).heap.size = w.heap.size+1+1 by simp] at kd
 go_enter Tryz.func104,Tryz.ntmps104
 have kx_c0:=kx.here.cell 0 _ rfl
 have kx_c1:=kx.here.cell 1 _ rfl
 have kd_c0:=kd.here.cell 0 _ rfl
 have kd_c1:=kd.here.cell 1 _ rfl
 have kd_c2:=kd.here.cell 2 _ rfl
 go_wp2_with fail
 clear kx_c0 kx_c1 kd_c0 kd_c1 kd_c2
 refine (implMoneyOk_any _ (cu,x) _ hl (OX.out _ bbd).here (HT.out.below bbd)).mono ?_
 rintro e w1 ⟨rfl,b1⟩
 have bb1:=Below.next bbd b1
 replace kx:=kx.below b1
 replace ko:=ko.below b1
 replace kd:=kd.below b1
 by_cases ok:okM (cu,x) = true
 ·rw [ok]
  have HV:=Lib.hid (show makeM cu x = ((cu,x),true) by unfold makeM;rw [if_pos ok])
  clear ok kx
  have HW:=Lib.hid (keptM_at (r:=w.heap.size+1) (b:=true) (OX.out _ bb1) HLT.out (by omega) bb1)
  have kd_c0:=kd.here.cell 0 _ rfl
  have kd_c1:=kd.here.cell 1 _ rfl
  have kd_c2:=kd.here.cell 2 _ rfl
  have cz0:=ko.here.cell 0 _ rfl
  have fz0:=Lib.frozen_of_heap ko.here 0
  have cz1:=ko.here.cell 1 _ rfl
  have fz1:=Lib.frozen_of_heap ko.here 1
  have cz2:=ko.here.cell 2 _ rfl
  have fz2:=Lib.frozen_of_heap ko.here 2
  clear kd ko
  go_wp2
  refine bodyPost_ret (v:=.tuple #[.agg #[.string cu,.bool x.1,.slice Ax x.2.length cx],.bool true]) (by simp [results,Tryz.results104,go_sem,cz0,cz1,cz2]) rfl ?_
  rw [HV.out]
  exact HW.out
 ·have ok':okM (cu,x) = false:=by simpa using ok
  have HV:=Lib.hid (show makeM cu x = (zeroM,false) by unfold makeM;rw [if_neg ok])
  rw [ok']
  clear ok ok' kx kd
  have cz0:=ko.here.cell 0 _ rfl
  have fz0:=Lib.frozen_of_heap ko.here 0
  have cz1:=ko.here.cell 1 _ rfl
  have fz1:=Lib.frozen_of_heap ko.here 1
  have cz2:=ko.here.cell 2 _ rfl
  have fz2:=Lib.frozen_of_heap ko.here 2
  go_wp2
  refine bodyPost_ret (v:=.tuple #[.agg #[.string ⟨#[]⟩,.bool false,.slice none 0 0],.bool false]) (by simp [results,Tryz.results104,go_sem,cz0,cz1,cz2]) rfl ?_
  rw [HV.out]
  first | exact keptM_zero bb1 | exact keptM_zero (below_set3 bb1 (by omega))
set_option maxHeartbeats 1000000 in
theorem implDecOk_any (vd:Value) (d:DI) (w:World) (hl:d.1.2.length ≤ 1048576) (hd:OwnD vd d w) :
 Calls Tryz.prog 151 #[vd] w (Postb (okD d) w):=by
 have Hd:=Lib.hid hd
 obtain ⟨Ad,cd,rfl⟩:=ownD_form hd
 have ODd:=Lib.hid (show ∀ W,Below w.heap.size w W→OwnD (.agg #[.bool d.1.1,.slice Ad d.1.2.length cd,.int .i64 d.2]) d W from fun W hb=>OwnD.below Hd.out hb)
 have OId:=Lib.hid (show ∀ W,Below w.heap.size w W→OwnI (.slice Ad d.1.2.length cd) d.1.2 W from fun W hb=>ownD_open (ODd.out W hb))
 have OSd:=Lib.hid (show ∀ W,Below w.heap.size w W→OwnS (.agg #[.bool d.1.1,.slice Ad d.1.2.length cd]) d.1 W from fun W hb=>OwnS.mk (OId.out W hb))
 clear hd
 have bb0:Below w.heap.size w (w.alloc (.cells #[.bool d.1.1,.slice Ad d.1.2.length cd,.int .i64 d.2] 87)):=below_al (Below.refl _ _) _
 have kd:=(box_new w #[.bool d.1.1,.slice Ad d.1.2.length cd,.int .i64 d.2] 87)
 go_enter Tryz.func151,Tryz.ntmps151
 have kd_c0:=kd.here.cell 0 _ rfl
 have kd_c1:=kd.here.cell 1 _ rfl
 have kd_c2:=kd.here.cell 2 _ rfl
 go_wp2_with fail
 clear kd_c0 kd_c1 kd_c2
 refine (implIntOk_any _ d.1 _ hl (OwnS.rd (OSd.out _ bb0))).mono ?_
 rintro e w1 ⟨rfl,b1⟩
 have bb1:=Below.next bb0 b1
 replace kd:=kd.below b1
 by_cases ok1:okS d.1 = true
 ·rw [ok1]
  have HO1:=Lib.hid ok1
  clear ok1
  by_cases hs:d.1.2.length ≤ 6
  ·have HV0:=Lib.hid (show okD d = decide (0 ≤ d.2∧d.2 ≤ 30) by unfold okD;rw [HO1.out,decide_eq_true hs];rfl)
   have hs6:(d.1.2.length:Int) ≤ 6:=by omega
   have hs7:¬ (6:Int) < (d.1.2.length:Int):=by omega
   clear hs
   have kd_c0:=kd.here.cell 0 _ rfl
   have kd_c1:=kd.here.cell 1 _ rfl
   have kd_c2:=kd.here.cell 2 _ rfl
   by_cases h0:0 ≤ d.2
   ·have h0n:¬ d.2 < 0:=by omega
    have HV:=Lib.hid (show okD d = decide (d.2 ≤ 30) by rw [HV0.out,decide_eq_decide];exact ⟨fun h=>h.2,fun h=>⟨h0,h⟩⟩)
    go_wp2
    go_ret
    exact ⟨ret_bool HV.out.symm,bb1⟩
   ·have h0n:d.2 < 0:=by omega
    have HV:=Lib.hid (show okD d = false by rw [HV0.out];exact decide_eq_false (fun h=>h0 h.1))
    go_wp2
    go_ret
    exact ⟨ret_bool HV.out.symm,bb1⟩
  ·have HV:=Lib.hid (show okD d = false by unfold okD;rw [decide_eq_false hs,Bool.false_and,Bool.and_false])
   have hs6:¬ (d.1.2.length:Int) ≤ 6:=by omega
   have hs7:(6:Int) < (d.1.2.length:Int):=by omega
   clear hs
   have kd_c0:=kd.here.cell 0 _ rfl
   have kd_c1:=kd.here.cell 1 _ rfl
   have kd_c2:=kd.here.cell 2 _ rfl
   go_wp2
   go_ret
   exact ⟨ret_bool HV.out.symm,bb1⟩
 ·have ok1':okS d.1 = false:=by simpa using ok1
  have HV:=Lib.hid (show okD d = false by unfold okD;rw [ok1'];rfl)
  rw [ok1']
  clear ok1 ok1'
  go_wp2
  go_ret
  exact ⟨ret_bool HV.out.symm,bb1⟩
set_option maxHeartbeats 2000000 in
theorem implRateOk_any (vr:Value) (r:EI) (w:World) (hl:r.2.2.1.2.length ≤ 1048576) (hr:OwnE vr r w) (ht:CurTab w) :
 Calls Tryz.prog 125 #[vr] w (Postb (okE r) w):=by
 have Hr:=Lib.hid hr
 obtain ⟨Ar,cr,rfl⟩:=ownE_form hr
 have OEr:=Lib.hid (show ∀ W,Below w.heap.size w W→OwnE (.agg #[.string r.1,.string r.2.1,.bool r.2.2.1.1,.slice Ar r.2.2.1.2.length cr,.int .i64 r.2.2.2]) r W from fun W hb=>OwnE.below Hr.out hb)
 have OIr:=Lib.hid (show ∀ W,Below w.heap.size w W→OwnI (.slice Ar r.2.2.1.2.length cr) r.2.2.1.2 W from fun W hb=>ownE_open (OEr.out W hb))
 have ODr:=Lib.hid (show ∀ W,Below w.heap.size w W→OwnD (.agg #[.bool r.2.2.1.1,.slice Ar r.2.2.1.2.length cr,.int .i64 r.2.2.2]) r.2.2 W from fun W hb=>OwnD.mk (OIr.out W hb))
 have OSr:=Lib.hid (show ∀ W,Below w.heap.size w W→OwnS (.agg #[.bool r.2.2.1.1,.slice Ar r.2.2.1.2.length cr]) r.2.2.1 W from fun W hb=>OwnS.mk (OIr.out W hb))
 clear hr
 have HT:=Lib.hid ht
 clear ht
 have bb0:Below w.heap.size w (w.alloc (.cells #[.string r.1,.string r.2.1,.bool r.2.2.1.1,.slice Ar r.2.2.1.2.length cr,.int .i64 r.2.2.2] 89)):=below_al (Below.refl _ _) _
 have kr:=(box_new w #[.string r.1,.string r.2.1,.bool r.2.2.1.1,.slice Ar r.2.2.1.2.length cr,.int .i64 r.2.2.2] 89)
 go_enter Tryz.func125,Tryz.ntmps125
 have kr_c0:=kr.here.cell 0 _ rfl
 have kr_c1:=kr.here.cell 1 _ rfl
 have kr_c2:=kr.here.cell 2 _ rfl
 have kr_c3:=kr.here.cell 3 _ rfl
 have kr_c4:=kr.here.cell 4 _ rfl
 go_wp2_with fail
 clear kr_c0 kr_c1 kr_c2 kr_c3 kr_c4
 refine (implCurKnown_any r.1 _ (HT.out.below bb0)).mono ?_
 rintro e w1 ⟨rfl,b1⟩
 have bb1:=Below.next bb0 b1
 replace kr:=kr.below b1
 by_cases ok0:knownC r.1 = true
 ·rw [ok0]
  have HOok0:=Lib.hid ok0
  clear ok0
  have kr_c0:=kr.here.cell 0 _ rfl
  have kr_c1:=kr.here.cell 1 _ rfl
  have kr_c2:=kr.here.cell 2 _ rfl
  have kr_c3:=kr.here.cell 3 _ rfl
  have kr_c4:=kr.here.cell 4 _ rfl
  go_wp2_with fail
  clear kr_c0 kr_c1 kr_c2 kr_c3 kr_c4
  refine (implCurKnown_any r.2.1 _ (HT.out.below bb1)).mono ?_
  rintro e w2 ⟨rfl,b2⟩
  have bb2:=Below.next bb1 b2
  replace kr:=kr.below b2
  by_cases ok1:knownC r.2.1 = true
  ·rw [ok1]
   have HOok1:=Lib.hid ok1
   clear ok1
   by_cases ne:r.1 = r.2.1
   ·have HV:=Lib.hid (show okE r = false by unfold okE;rw [HOok0.out,HOok1.out,decide_eq_false (fun h=>h ne:¬ ¬ r.1 = r.2.1)] <;> rfl)
    have kr_c0:=kr.here.cell 0 _ rfl
    have kr_c1:=kr.here.cell 1 _ rfl
    have kr_c2:=kr.here.cell 2 _ rfl
    have kr_c3:=kr.here.cell 3 _ rfl
    have kr_c4:=kr.here.cell 4 _ rfl
    rw [← ne] at kr_c1
    clear ne hl kr
    have hne1:(r.1.toList == r.1.toList) = true:=beq_self_eq_true _
    have hne2:(r.1.toList != r.1.toList) = false:=by rw [bne,hne1];rfl
    go_wp2
    go_ret
    exact ⟨ret_bool HV.out.symm,bb2⟩
   ·have hne1:=bytes_neC ne
    have hne2:(r.1.toList != r.2.1.toList) = true:=by rw [bne,hne1];rfl
    have HNE:=Lib.hid ne
    clear ne
    have kr_c0:=kr.here.cell 0 _ rfl
    have kr_c1:=kr.here.cell 1 _ rfl
    have kr_c2:=kr.here.cell 2 _ rfl
    have kr_c3:=kr.here.cell 3 _ rfl
    have kr_c4:=kr.here.cell 4 _ rfl
    go_wp2_with fail
    clear kr_c0 kr_c1 kr_c2 kr_c3 kr_c4
    refine (implDecOk_any _ r.2.2 _ hl (ODr.out _ bb2)).mono ?_
    rintro e w3 ⟨rfl,b3⟩
    have bb3:=Below.next bb2 b3
    replace kr:=kr.below b3
    clear hne1 hne2
    by_cases ok2:okD r.2.2 = true
    ·rw [ok2]
     have HOok2:=Lib.hid ok2
     clear ok2
     have kr_c0:=kr.here.cell 0 _ rfl
     have kr_c1:=kr.here.cell 1 _ rfl
     have kr_c2:=kr.here.cell 2 _ rfl
     have kr_c3:=kr.here.cell 3 _ rfl
     have kr_c4:=kr.here.cell 4 _ rfl
     go_wp2_with fail
     clear kr_c0 kr_c1 kr_c2 kr_c3 kr_c4
     refine (implIntSign_any _ r.2.2.1 _ hl (OSr.out _ bb3)).mono ?_
     rintro e w4 ⟨rfl,b4⟩
     have bb4:=Below.next bb3 b4
     replace kr:=kr.below b4
     have HZ:Hid (okE r = (decide (0 < cmpS r.2.2.1 zeroS) && decide (r.2.2.1.2.length ≤ 2))):=Lib.hid (by unfold okE;rw [HOok0.out,HOok1.out,HOok2.out,decide_eq_true HNE.out] <;> rfl)
     generalize cmpS r.2.2.1 zeroS = z at *
     by_cases ps:0 < z
     ·have HV:=Lib.hid (show okE r = decide ((r.2.2.1.2.length:Int) ≤ 2) by rw [HZ.out,decide_eq_true ps,Bool.true_and,decide_eq_decide];omega)
      have ps1:decide (0 < z) = true:=decide_eq_true ps
      have kr_c0:=kr.here.cell 0 _ rfl
      have kr_c1:=kr.here.cell 1 _ rfl
      have kr_c2:=kr.here.cell 2 _ rfl
      have kr_c3:=kr.here.cell 3 _ rfl
      have kr_c4:=kr.here.cell 4 _ rfl
      clear hl
      go_wp2
      go_ret
      exact ⟨ret_bool HV.out.symm,bb4⟩
     ·have HV:=Lib.hid (show okE r = false by rw [HZ.out,decide_eq_false ps,Bool.false_and])
      have ps1:decide (0 < z) = false:=decide_eq_false ps
      clear hl kr
      go_wp2
      go_ret
      exact ⟨ret_bool HV.out.symm,bb4⟩
    ·have ok2':okD r.2.2 = false:=by simpa using ok2
     have HV:=Lib.hid (show okE r = false by unfold okE;rw [HOok0.out,HOok1.out,decide_eq_true HNE.out,ok2'] <;> rfl)
     rw [ok2']
     clear ok2 ok2'
     go_wp2
     go_ret
     exact ⟨ret_bool HV.out.symm,bb3⟩
  ·have ok1':knownC r.2.1 = false:=by simpa using ok1
   have HV:=Lib.hid (show okE r = false by unfold okE;rw [HOok0.out,ok1'] <;> rfl)
   rw [ok1']
   clear ok1 ok1'
   go_wp2
   go_ret
   exact ⟨ret_bool HV.out.symm,bb2⟩
 ·have ok0':knownC r.1 = false:=by simpa using ok0
  have HV:=Lib.hid (show okE r = false by unfold okE;rw [ok0'] <;> rfl)
  rw [ok0']
  clear ok0 ok0'
  go_wp2
  go_ret
  exact ⟨ret_bool HV.out.symm,bb1⟩
set_option maxHeartbeats 1000000 in
theorem pairOf_any (vr:Value) (r:EI) (w:World) (hr:RdE w vr r) :
 Calls Tryz.prog 153 #[vr] w fun e w'=>e = .returned (.agg #[.string r.1,.string r.2.1])∧Below w.heap.size w w':=by
 obtain ⟨Ar,cr,rfl⟩:=rdE_form hr
 clear hr
 have bb0:Below w.heap.size w ((w.alloc (.cells #[.string r.1,.string r.2.1,.bool r.2.2.1.1,.slice Ar r.2.2.1.2.length cr,.int .i64 r.2.2.2] 89)).alloc (.cells #[.string ⟨#[]⟩,.string ⟨#[]⟩] 197)):=below_al (below_al (Below.refl _ _) _) _
 have kr:=(box_new w #[.string r.1,.string r.2.1,.bool r.2.2.1.1,.slice Ar r.2.2.1.2.length cr,.int .i64 r.2.2.2] 89).below (below_al (Below.refl _ _) (.cells #[.string ⟨#[]⟩,.string ⟨#[]⟩] 197))
 have ko:=(box_new (w.alloc (.cells #[.string r.1,.string r.2.1,.bool r.2.2.1.1,.slice Ar r.2.2.1.2.length cr,.int .i64 r.2.2.2] 89)) #[.string ⟨#[]⟩,.string ⟨#[]⟩] 197)
 rw [show (w.alloc (.cells #[.string r.1,.string r.2.1,.bool r.2.2.1.1,.slice Ar r.2.2.1.2.length cr,.int .i64 r.2.2.2] 89)).heap.size = w.heap.size+1 by simp] at ko
 go_enter Tryz.func153,Tryz.ntmps153
 have kr_c0:=kr.here.cell 0 _ rfl
 have kr_c1:=kr.here.cell 1 _ rfl
 have kr_c2:=kr.here.cell 2 _ rfl
 have kr_c3:=kr.here.cell 3 _ rfl
 have kr_c4:=kr.here.cell 4 _ rfl
 have cz0:=ko.here.cell 0 _ rfl
 have fz0:=Lib.frozen_of_heap ko.here 0
 have cz1:=ko.here.cell 1 _ rfl
 have fz1:=Lib.frozen_of_heap ko.here 1
 have HB:=Lib.hid (show Below w.heap.size w ((w.alloc (.cells #[.string r.1,.string r.2.1,.bool r.2.2.1.1,.slice Ar r.2.2.1.2.length cr,.int .i64 r.2.2.2] 89)).alloc (.cells #[.string r.1,.string r.2.1] 197)) from below_al (below_al (Below.refl _ _) _) _)
 clear kr ko bb0
 go_wp2
 refine bodyPost_ret (v:=.agg #[.string r.1,.string r.2.1]) (by simp [results,Tryz.results153,go_sem]) rfl ?_
 exact ⟨rfl,HB.out⟩
set_option maxHeartbeats 2000000 in
theorem rateAt1_any (vr:Value) (r:EI) (B:Nat) (p q:ByteArray) (w:World) (hr:RdE w vr r) (kp:At [B] (BoxAt B #[.string p,.string q] 197) w) :
 Calls Tryz.prog 191 #[vr,.pointer (some ⟨B,0,none⟩)] w (Postb (decide (r.1 = p) && decide (r.2.1 = q)) w):=by
 have HR:=Lib.hid (show ∀ W,Below w.heap.size w W→RdE W vr r from fun W hb=>hr.below hb)
 obtain ⟨Ar,cr,rfl⟩:=rdE_form hr
 clear hr
 have hB:=kp.lt B (by simp)
 have bb0:Below w.heap.size w (w.alloc (.cells #[.string r.1,.string r.2.1,.bool r.2.2.1.1,.slice Ar r.2.2.1.2.length cr,.int .i64 r.2.2.2] 89)):=below_al (Below.refl _ _) _
 have kr:=(box_new w #[.string r.1,.string r.2.1,.bool r.2.2.1.1,.slice Ar r.2.2.1.2.length cr,.int .i64 r.2.2.2] 89)
 replace kp:=kp.below bb0
 by_cases h1:r.1 = p
 ·have e1:(r.1.toList == p.toList) = true:=by rw [h1];exact beq_self_eq_true _
  by_cases h2:r.2.1 = q
  ·have e2:(r.2.1.toList == q.toList) = true:=by rw [h2];exact beq_self_eq_true _
   have HV:=Lib.hid (show (decide (r.1 = p) && decide (r.2.1 = q)) = true by rw [decide_eq_true h1,decide_eq_true h2];rfl)
   clear h1 h2
   go_enter Tryz.func191,Tryz.ntmps191
   have kr_c0:=kr.here.cell 0 _ rfl
   have kr_c1:=kr.here.cell 1 _ rfl
   have kr_c2:=kr.here.cell 2 _ rfl
   have kr_c3:=kr.here.cell 3 _ rfl
   have kr_c4:=kr.here.cell 4 _ rfl
   have kp_c0:=kp.here.cell 0 _ rfl
   have kp_c1:=kp.here.cell 1 _ rfl
   go_wp2_with fail
   have HC0:=Lib.hid (show Chg [] (w.alloc (.cells #[.string r.1,.string r.2.1,.bool r.2.2.1.1,.slice Ar r.2.2.1.2.length cr,.int .i64 r.2.2.2] 89)) (w.alloc (.cells #[.string r.1,.string r.2.1,.bool r.2.2.1.1,.slice Ar r.2.2.1.2.length cr,.int .i64 r.2.2.2] 89)).drew from (Chg.refl _ _).drew1)
   have HCr:=Lib.hid (show Chg [] (w.alloc (.cells #[.string r.1,.string r.2.1,.bool r.2.2.1.1,.slice Ar r.2.2.1.2.length cr,.int .i64 r.2.2.2] 89)) (w.alloc (.cells #[.string r.1,.string r.2.1,.bool r.2.2.1.1,.slice Ar r.2.2.1.2.length cr,.int .i64 r.2.2.2] 89)) from Chg.refl _ _)
   have KL:=Lib.hid (show ∀ W,Chg [] (w.alloc (.cells #[.string r.1,.string r.2.1,.bool r.2.2.1.1,.slice Ar r.2.2.1.2.length cr,.int .i64 r.2.2.2] 89)) W→W.cell? ⟨w.heap.size,0,none⟩ = some (.string r.1)∧W.cell? ⟨w.heap.size,1,none⟩ = some (.string r.2.1)∧W.cell? ⟨w.heap.size,2,none⟩ = some (.bool r.2.2.1.1)∧W.cell? ⟨w.heap.size,3,none⟩ = some (.slice Ar r.2.2.1.2.length cr)∧W.cell? ⟨w.heap.size,4,none⟩ = some (.int .i64 r.2.2.2)∧W.cell? ⟨B,0,none⟩ = some (.string p)∧W.cell? ⟨B,1,none⟩ = some (.string q)∧Hid (Chg [] (w.alloc (.cells #[.string r.1,.string r.2.1,.bool r.2.2.1.1,.slice Ar r.2.2.1.2.length cr,.int .i64 r.2.2.2] 89)) W) from fun W hc=>⟨(kr.chg hc (fun i hi hm=>by simp at hm)).here.cell 0 _ rfl,(kr.chg hc (fun i hi hm=>by simp at hm)).here.cell 1 _ rfl,(kr.chg hc (fun i hi hm=>by simp at hm)).here.cell 2 _ rfl,(kr.chg hc (fun i hi hm=>by simp at hm)).here.cell 3 _ rfl,(kr.chg hc (fun i hi hm=>by simp at hm)).here.cell 4 _ rfl,(kp.chg hc (fun i hi hm=>by simp at hm)).here.cell 0 _ rfl,(kp.chg hc (fun i hi hm=>by simp at hm)).here.cell 1 _ rfl,Lib.hid hc⟩)
   have BBF:=Lib.hid (show ∀ W,Chg [] (w.alloc (.cells #[.string r.1,.string r.2.1,.bool r.2.2.1.1,.slice Ar r.2.2.1.2.length cr,.int .i64 r.2.2.2] 89)) W→Below w.heap.size w W from fun W hc=>below_chg bb0 hc bb0.size (fun i hi=>by simp at hi))
   clear kr_c0 kr_c1 kr_c2 kr_c3 kr_c4 kp_c0 kp_c1
   go_region_held3 (fun W=>W.cell? ⟨w.heap.size,0,none⟩ = some (.string r.1)∧W.cell? ⟨w.heap.size,1,none⟩ = some (.string r.2.1)∧W.cell? ⟨w.heap.size,2,none⟩ = some (.bool r.2.2.1.1)∧W.cell? ⟨w.heap.size,3,none⟩ = some (.slice Ar r.2.2.1.2.length cr)∧W.cell? ⟨w.heap.size,4,none⟩ = some (.int .i64 r.2.2.2)∧W.cell? ⟨B,0,none⟩ = some (.string p)∧W.cell? ⟨B,1,none⟩ = some (.string q)∧Hid (Chg [] (w.alloc (.cells #[.string r.1,.string r.2.1,.bool r.2.2.1.1,.slice Ar r.2.2.1.2.length cr,.int .i64 r.2.2.2] 89)) W))
    ((refine KL.out _ ?_;(first | exact HC1.out | exact HCr.out | exact HC0.out | exact HC1.out.drew1 | exact HCr.out.drew1 | exact HC0.out.drew1 | exact HC1.out.trans (Chg.of_below (below_al (Below.refl _ _) _)) | exact HCr.out.trans (Chg.of_below (below_al (Below.refl _ _) _)) | exact HC0.out.trans (Chg.of_below (below_al (Below.refl _ _) _)) | fail)))
    (first
      | (go_at_call 153;(have hBB:=(‹_∧_∧_∧_∧_∧_∧_∧Hid (Chg [] (w.alloc (.cells #[.string r.1,.string r.2.1,.bool r.2.2.1.1,.slice Ar r.2.2.1.2.length cr,.int .i64 r.2.2.2] 89)) _)›).2.2.2.2.2.2.2);(with_reducible refine (pairOf_any _ r _ (HR.out _ (BBF.out _ hBB.out))).mono ?_);rintro e w1 ⟨rfl,b1⟩;have HC1:=Lib.hid (hBB.out.trans (Chg.of_below b1));have HBZ1:=Lib.hid hBB.out.size;clear hBB))
   have bb1:=BBF.out _ HC1.out
   replace kr:=kr.chg HC1.out (fun i hi hm=>by simp at hm)
   replace kp:=kp.chg HC1.out (fun i hi hm=>by simp at hm)
   clear HC0 HCr KL BBF kr kp
   go_wp2
   go_ret
   exact ⟨ret_bool HV.out.symm,bb1⟩
  ·have e2:=bytes_neC h2
   have HV:=Lib.hid (show (decide (r.1 = p) && decide (r.2.1 = q)) = false by rw [decide_eq_false h2,Bool.and_false])
   clear h1 h2
   go_enter Tryz.func191,Tryz.ntmps191
   have kr_c0:=kr.here.cell 0 _ rfl
   have kr_c1:=kr.here.cell 1 _ rfl
   have kr_c2:=kr.here.cell 2 _ rfl
   have kr_c3:=kr.here.cell 3 _ rfl
   have kr_c4:=kr.here.cell 4 _ rfl
   have kp_c0:=kp.here.cell 0 _ rfl
   have kp_c1:=kp.here.cell 1 _ rfl
   go_wp2_with fail
   have HC0:=Lib.hid (show Chg [] (w.alloc (.cells #[.string r.1,.string r.2.1,.bool r.2.2.1.1,.slice Ar r.2.2.1.2.length cr,.int .i64 r.2.2.2] 89)) (w.alloc (.cells #[.string r.1,.string r.2.1,.bool r.2.2.1.1,.slice Ar r.2.2.1.2.length cr,.int .i64 r.2.2.2] 89)).drew from (Chg.refl _ _).drew1)
   have HCr:=Lib.hid (show Chg [] (w.alloc (.cells #[.string r.1,.string r.2.1,.bool r.2.2.1.1,.slice Ar r.2.2.1.2.length cr,.int .i64 r.2.2.2] 89)) (w.alloc (.cells #[.string r.1,.string r.2.1,.bool r.2.2.1.1,.slice Ar r.2.2.1.2.length cr,.int .i64 r.2.2.2] 89)) from Chg.refl _ _)
   have KL:=Lib.hid (show ∀ W,Chg [] (w.alloc (.cells #[.string r.1,.string r.2.1,.bool r.2.2.1.1,.slice Ar r.2.2.1.2.length cr,.int .i64 r.2.2.2] 89)) W→W.cell? ⟨w.heap.size,0,none⟩ = some (.string r.1)∧W.cell? ⟨w.heap.size,1,none⟩ = some (.string r.2.1)∧W.cell? ⟨w.heap.size,2,none⟩ = some (.bool r.2.2.1.1)∧W.cell? ⟨w.heap.size,3,none⟩ = some (.slice Ar r.2.2.1.2.length cr)∧W.cell? ⟨w.heap.size,4,none⟩ = some (.int .i64 r.2.2.2)∧W.cell? ⟨B,0,none⟩ = some (.string p)∧W.cell? ⟨B,1,none⟩ = some (.string q)∧Hid (Chg [] (w.alloc (.cells #[.string r.1,.string r.2.1,.bool r.2.2.1.1,.slice Ar r.2.2.1.2.length cr,.int .i64 r.2.2.2] 89)) W) from fun W hc=>⟨(kr.chg hc (fun i hi hm=>by simp at hm)).here.cell 0 _ rfl,(kr.chg hc (fun i hi hm=>by simp at hm)).here.cell 1 _ rfl,(kr.chg hc (fun i hi hm=>by simp at hm)).here.cell 2 _ rfl,(kr.chg hc (fun i hi hm=>by simp at hm)).here.cell 3 _ rfl,(kr.chg hc (fun i hi hm=>by simp at hm)).here.cell 4 _ rfl,(kp.chg hc (fun i hi hm=>by simp at hm)).here.cell 0 _ rfl,(kp.chg hc (fun i hi hm=>by simp at hm)).here.cell 1 _ rfl,Lib.hid hc⟩)
   have BBF:=Lib.hid (show ∀ W,Chg [] (w.alloc (.cells #[.string r.1,.string r.2.1,.bool r.2.2.1.1,.slice Ar r.2.2.1.2.length cr,.int .i64 r.2.2.2] 89)) W→Below w.heap.size w W from fun W hc=>below_chg bb0 hc bb0.size (fun i hi=>by simp at hi))
   clear kr_c0 kr_c1 kr_c2 kr_c3 kr_c4 kp_c0 kp_c1
   go_region_held3 (fun W=>W.cell? ⟨w.heap.size,0,none⟩ = some (.string r.1)∧W.cell? ⟨w.heap.size,1,none⟩ = some (.string r.2.1)∧W.cell? ⟨w.heap.size,2,none⟩ = some (.bool r.2.2.1.1)∧W.cell? ⟨w.heap.size,3,none⟩ = some (.slice Ar r.2.2.1.2.length cr)∧W.cell? ⟨w.heap.size,4,none⟩ = some (.int .i64 r.2.2.2)∧W.cell? ⟨B,0,none⟩ = some (.string p)∧W.cell? ⟨B,1,none⟩ = some (.string q)∧Hid (Chg [] (w.alloc (.cells #[.string r.1,.string r.2.1,.bool r.2.2.1.1,.slice Ar r.2.2.1.2.length cr,.int .i64 r.2.2.2] 89)) W))
    ((refine KL.out _ ?_;(first | exact HC1.out | exact HCr.out | exact HC0.out | exact HC1.out.drew1 | exact HCr.out.drew1 | exact HC0.out.drew1 | exact HC1.out.trans (Chg.of_below (below_al (Below.refl _ _) _)) | exact HCr.out.trans (Chg.of_below (below_al (Below.refl _ _) _)) | exact HC0.out.trans (Chg.of_below (below_al (Below.refl _ _) _)) | fail)))
    (first
      | (go_at_call 153;(have hBB:=(‹_∧_∧_∧_∧_∧_∧_∧Hid (Chg [] (w.alloc (.cells #[.string r.1,.string r.2.1,.bool r.2.2.1.1,.slice Ar r.2.2.1.2.length cr,.int .i64 r.2.2.2] 89)) _)›).2.2.2.2.2.2.2);(with_reducible refine (pairOf_any _ r _ (HR.out _ (BBF.out _ hBB.out))).mono ?_);rintro e w1 ⟨rfl,b1⟩;have HC1:=Lib.hid (hBB.out.trans (Chg.of_below b1));have HBZ1:=Lib.hid hBB.out.size;clear hBB))
   have bb1:=BBF.out _ HC1.out
   replace kr:=kr.chg HC1.out (fun i hi hm=>by simp at hm)
   replace kp:=kp.chg HC1.out (fun i hi hm=>by simp at hm)
   clear HC0 HCr KL BBF kr kp
   go_wp2
   go_ret
   exact ⟨ret_bool HV.out.symm,bb1⟩
 ·have e1:=bytes_neC h1
  have HV:=Lib.hid (show (decide (r.1 = p) && decide (r.2.1 = q)) = false by rw [decide_eq_false h1,Bool.false_and])
  clear h1
  go_enter Tryz.func191,Tryz.ntmps191
  have kr_c0:=kr.here.cell 0 _ rfl
  have kr_c1:=kr.here.cell 1 _ rfl
  have kr_c2:=kr.here.cell 2 _ rfl
  have kr_c3:=kr.here.cell 3 _ rfl
  have kr_c4:=kr.here.cell 4 _ rfl
  have kp_c0:=kp.here.cell 0 _ rfl
  have kp_c1:=kp.here.cell 1 _ rfl
  go_wp2_with fail
  have HC0:=Lib.hid (show Chg [] (w.alloc (.cells #[.string r.1,.string r.2.1,.bool r.2.2.1.1,.slice Ar r.2.2.1.2.length cr,.int .i64 r.2.2.2] 89)) (w.alloc (.cells #[.string r.1,.string r.2.1,.bool r.2.2.1.1,.slice Ar r.2.2.1.2.length cr,.int .i64 r.2.2.2] 89)).drew from (Chg.refl _ _).drew1)
  have HCr:=Lib.hid (show Chg [] (w.alloc (.cells #[.string r.1,.string r.2.1,.bool r.2.2.1.1,.slice Ar r.2.2.1.2.length cr,.int .i64 r.2.2.2] 89)) (w.alloc (.cells #[.string r.1,.string r.2.1,.bool r.2.2.1.1,.slice Ar r.2.2.1.2.length cr,.int .i64 r.2.2.2] 89)) from Chg.refl _ _)
  have KL:=Lib.hid (show ∀ W,Chg [] (w.alloc (.cells #[.string r.1,.string r.2.1,.bool r.2.2.1.1,.slice Ar r.2.2.1.2.length cr,.int .i64 r.2.2.2] 89)) W→W.cell? ⟨w.heap.size,0,none⟩ = some (.string r.1)∧W.cell? ⟨w.heap.size,1,none⟩ = some (.string r.2.1)∧W.cell? ⟨w.heap.size,2,none⟩ = some (.bool r.2.2.1.1)∧W.cell? ⟨w.heap.size,3,none⟩ = some (.slice Ar r.2.2.1.2.length cr)∧W.cell? ⟨w.heap.size,4,none⟩ = some (.int .i64 r.2.2.2)∧W.cell? ⟨B,0,none⟩ = some (.string p)∧W.cell? ⟨B,1,none⟩ = some (.string q)∧Hid (Chg [] (w.alloc (.cells #[.string r.1,.string r.2.1,.bool r.2.2.1.1,.slice Ar r.2.2.1.2.length cr,.int .i64 r.2.2.2] 89)) W) from fun W hc=>⟨(kr.chg hc (fun i hi hm=>by simp at hm)).here.cell 0 _ rfl,(kr.chg hc (fun i hi hm=>by simp at hm)).here.cell 1 _ rfl,(kr.chg hc (fun i hi hm=>by simp at hm)).here.cell 2 _ rfl,(kr.chg hc (fun i hi hm=>by simp at hm)).here.cell 3 _ rfl,(kr.chg hc (fun i hi hm=>by simp at hm)).here.cell 4 _ rfl,(kp.chg hc (fun i hi hm=>by simp at hm)).here.cell 0 _ rfl,(kp.chg hc (fun i hi hm=>by simp at hm)).here.cell 1 _ rfl,Lib.hid hc⟩)
  have BBF:=Lib.hid (show ∀ W,Chg [] (w.alloc (.cells #[.string r.1,.string r.2.1,.bool r.2.2.1.1,.slice Ar r.2.2.1.2.length cr,.int .i64 r.2.2.2] 89)) W→Below w.heap.size w W from fun W hc=>below_chg bb0 hc bb0.size (fun i hi=>by simp at hi))
  clear kr_c0 kr_c1 kr_c2 kr_c3 kr_c4 kp_c0 kp_c1
  go_region_held3 (fun W=>W.cell? ⟨w.heap.size,0,none⟩ = some (.string r.1)∧W.cell? ⟨w.heap.size,1,none⟩ = some (.string r.2.1)∧W.cell? ⟨w.heap.size,2,none⟩ = some (.bool r.2.2.1.1)∧W.cell? ⟨w.heap.size,3,none⟩ = some (.slice Ar r.2.2.1.2.length cr)∧W.cell? ⟨w.heap.size,4,none⟩ = some (.int .i64 r.2.2.2)∧W.cell? ⟨B,0,none⟩ = some (.string p)∧W.cell? ⟨B,1,none⟩ = some (.string q)∧Hid (Chg [] (w.alloc (.cells #[.string r.1,.string r.2.1,.bool r.2.2.1.1,.slice Ar r.2.2.1.2.length cr,.int .i64 r.2.2.2] 89)) W))
   ((refine KL.out _ ?_;(first | exact HC1.out | exact HCr.out | exact HC0.out | exact HC1.out.drew1 | exact HCr.out.drew1 | exact HC0.out.drew1 | exact HC1.out.trans (Chg.of_below (below_al (Below.refl _ _) _)) | exact HCr.out.trans (Chg.of_below (below_al (Below.refl _ _) _)) | exact HC0.out.trans (Chg.of_below (below_al (Below.refl _ _) _)) | fail)))
   (first
     | (go_at_call 153;(have hBB:=(‹_∧_∧_∧_∧_∧_∧_∧Hid (Chg [] (w.alloc (.cells #[.string r.1,.string r.2.1,.bool r.2.2.1.1,.slice Ar r.2.2.1.2.length cr,.int .i64 r.2.2.2] 89)) _)›).2.2.2.2.2.2.2);(with_reducible refine (pairOf_any _ r _ (HR.out _ (BBF.out _ hBB.out))).mono ?_);rintro e w1 ⟨rfl,b1⟩;have HC1:=Lib.hid (hBB.out.trans (Chg.of_below b1));have HBZ1:=Lib.hid hBB.out.size;clear hBB))
  have bb1:=BBF.out _ HC1.out
  replace kr:=kr.chg HC1.out (fun i hi hm=>by simp at hm)
  replace kp:=kp.chg HC1.out (fun i hi hm=>by simp at hm)
  clear HC0 HCr KL BBF kr kp
  go_wp2
  go_ret
  exact ⟨ret_bool HV.out.symm,bb1⟩
theorem rateAt1_enters:∀ (args:Array Value) (w:World),(callFunc 191 args).run Tryz.prog w = .ok (.enter 191 args) w:=enters_of Tryz.func191 (by kernel_rfl) rfl
set_option maxHeartbeats 4000000 in
theorem indexE_any (v:Value) (l:List EI) (B:Nat) (p q:ByteArray) (w:World) (hl:l.length ≤ 140737488355328) (h:RdEL w v l) (kp:At [B] (BoxAt B #[.string p,.string q] 197) w) :
 Calls Tryz.prog 190 #[v,.func (.func 191) #[] #[.pointer (some ⟨B,0,none⟩)]] w (Postn (posE l p q) w):=by
 obtain ⟨A,c,rfl,hc⟩:=h
 have HC:=Lib.hid hc
 have KP:=Lib.hid (show ∀ W,Below w.heap.size w W→At [B] (BoxAt B #[.string p,.string q] 197) W from fun W hb=>kp.below hb)
 have he:=rateAt1_enters
 clear hc kp
 go_enter Tryz.func190,Tryz.ntmps190
 go_wp2
 go_loopw [5,8] (fun _ i wr=>∃ k:Nat,k ≤ l.length∧i = .int .i64 k∧Hid (k ≤ atE l p q)∧Below w.heap.size w wr) (fun _ i _=>l.length - (intOf i).toNat)
 case atStart=>exact ⟨0,Nat.zero_le _,rfl,Lib.hid (Nat.zero_le _),Below.refl _ _⟩
 case round =>
  obtain ⟨k,hk,rfl,HK,hb⟩:=hrel
  by_cases hlt:k < l.length
  ·obtain ⟨x,hxk⟩:∃ x,l[k]? = some x:=⟨_,List.getElem?_eq_getElem hlt⟩
   obtain ⟨a,u,rfl,ha,hc0,hc1,hc2,hc3,hc4,hr⟩:=HC.out k x hxk
   obtain ⟨A1,c1,rfl⟩:=row_form hr
   rw [intsV_length] at hc3 hr
   have k0:=(cell_keep5' hb ha k).trans hc0
   have k1:=(cell_keep5 hb ha k 1).trans hc1
   have k2:=(cell_keep5 hb ha k 2).trans hc2
   have k3:=(cell_keep5 hb ha k 3).trans hc3
   have k4:=(cell_keep5 hb ha k 4).trans hc4
   have hcall:=rateAt1_any (.agg #[.string x.1,.string x.2.1,.bool x.2.2.1.1,.slice A1 x.2.2.1.2.length c1,.int .i64 x.2.2.2]) x B p q wr (RdE.below ⟨_,rfl,hr⟩ hb) (KP.out _ hb)
   have HB:=Lib.hid hb
   clear hc0 hc1 hc2 hc3 hc4 hr ha hb
   by_cases hp:x.1 = p∧x.2.1 = q
   ·have HV:=Lib.hid (posE_hit HK.out hxk hp)
    rw [show (decide (x.1 = p) && decide (x.2.1 = q)) = true by rw [decide_eq_true hp.1,decide_eq_true hp.2];rfl] at hcall
    clear hp hxk
    go_wp2_with (go_at_fn 191;refine hcall.mono ?_;rintro e w1 ⟨rfl,b1⟩)
    go_ret
    exact ⟨ret_int HV.out.symm,Below.next HB.out b1⟩
   ·have HN:=Lib.hid (atE_next HK.out hxk hp)
    rw [show (decide (x.1 = p) && decide (x.2.1 = q)) = false by
     by_cases h1:x.1 = p
     ·rw [decide_eq_false (fun h2=>hp ⟨h1,h2⟩),Bool.and_false]
     ·rw [decide_eq_false h1,Bool.false_and]] at hcall
    clear hp hxk
    go_wp2_with (go_at_fn 191;refine hcall.mono ?_;rintro e w1 ⟨rfl,b1⟩)
    go_roundw
    case rel=>exact ⟨k+1,by omega,by go_num,HN,Below.next HB.out b1⟩
    case measure=>simp [intOf];omega
  ·obtain rfl:k = l.length:=by omega
   have HV:=Lib.hid (posE_none HK.out)
   go_wp2
   go_ret
   exact ⟨ret_int HV.out.symm,hb⟩
set_option maxHeartbeats 2000000 in
theorem rateAt_any (v:Value) (l:List EI) (p q:ByteArray) (w:World) (hl:l.length ≤ 140737488355328) (h:RdEL w v l) :
 Calls Tryz.prog 175 #[v,.agg #[.string p,.string q]] w (Postn (posE l p q) w):=by
 have hcall:=indexE_any v l w.heap.size p q _ hl (h.below (below_al (Below.refl _ _) (.cells #[.string p,.string q] 197))) (box_new w #[.string p,.string q] 197)
 obtain ⟨A,c,rfl,_⟩:=h
 go_enter Tryz.func175,Tryz.ntmps175
 go_wp2_with fail
 refine hcall.mono ?_
 rintro e w1 ⟨rfl,b1⟩
 have bb:=Below.next (below_al (Below.refl _ _) _) b1
 go_wp2
 go_ret
 exact ⟨rfl,bb⟩
theorem cmpS_zero {b:SI} (h:okS b = true):(cmpS b zeroS = 0) ↔ nval b.2 = 0:=by
 have n:=nval_ok (okS_parts h).1
 unfold cmpS
 rw [if_pos ⟨h,zeroS_ok⟩,zeroS_val]
 have e:valS b = 0 ↔ nval b.2 = 0:=by
  unfold valS
  split <;> omega
 rw [← e]
 unfold cmpI
 split
 ·omega
 ·split <;> omega
theorem makeQ_none {a b:SI} (h:¬ (okS a = true∧cmpS b zeroS ≠ 0)):makeQ a b = (zeroQ,false):=by
 unfold makeQ
 split
 ·rename_i hk
  have hz:nval b.2 = 0:=(cmpS_zero hk.2).1 (Classical.byContradiction fun e=>h ⟨hk.1,e⟩)
  unfold lowQ
  rw [if_neg (fun k=>k.1 (by rw [hz];rfl))]
 ·rfl
theorem cmpS_ok {b:SI} (h:cmpS b zeroS ≠ 0):okS b = true:=by
 unfold cmpS at h
 rcases Classical.em (okS b = true∧okS zeroS = true) with k | k
 ·exact k.1
 ·rw [if_neg k] at h
  exact absurd rfl h
theorem makeQ_parts {a b:SI} (ha:okS a = true) (hb:cmpS b zeroS ≠ 0):∃ X Y:Nat,
 gcdN a.2 b.2 = limbs (Nat.gcd (nval a.2).toNat (nval b.2).toNat)∧(divN a.2 (gcdN a.2 b.2)).1 = limbs X∧(divN b.2 (gcdN a.2 b.2)).1 = limbs Y∧(limbs X).length ≤ 50∧(limbs Y).length ≤ 50∧0 < (limbs Y).length ∧
 makeQ a b = if (limbs X).length ≤ 18∧(limbs Y).length ≤ 18 then ((mkS (!(a.1 == b.1)) (limbs X),limbs Y),true) else (zeroQ,false):=by
 have hkb:=cmpS_ok hb
 have pa:=okS_parts ha
 have pb:=okS_parts hkb
 have na:=nval_ok pa.1
 have nb:=nval_ok pb.1
 have hz:nval b.2 ≠ 0:=fun e=>hb ((cmpS_zero hkb).2 e)
 have hg:=gcdN_small a.2 b.2
 have eg:gcdN a.2 b.2 = limbs (Nat.gcd (nval a.2).toNat (nval b.2).toNat):=by unfold gcdN;rw [if_pos ⟨pa.1,pb.1⟩]
 have g0:=Nat.gcd_pos_of_pos_right (nval a.2).toNat (show 0 < (nval b.2).toNat by omega)
 have okg:natOkB (gcdN a.2 b.2) = true:=by rw [eg] at hg ⊢;exact limbs_okL _ hg
 have lg:0 < (gcdN a.2 b.2).length:=by
  rw [eg]
  rcases Nat.eq_zero_or_pos (limbs (Nat.gcd (nval a.2).toNat (nval b.2).toNat)).length with h | h
  ·have:=(limbs_zero_iff _).1 h
   omega
  ·exact h
 have dv:∀ c:List Int,natOkB c = true→(divN c (gcdN a.2 b.2)).1 = limbs ((nval c).toNat / Nat.gcd (nval a.2).toNat (nval b.2).toNat)∧(limbs ((nval c).toNat / Nat.gcd (nval a.2).toNat (nval b.2).toNat)).length ≤ 50:=by
  intro c hc
  have nc:=nval_ok hc
  unfold divN
  rw [if_pos ⟨hc,okg,lg⟩,eg,limbs_val]
  have e:(nval c / ((Nat.gcd (nval a.2).toNat (nval b.2).toNat:Nat):Int)).toNat = (nval c).toNat / Nat.gcd (nval a.2).toNat (nval b.2).toNat:=by
   rw [← div_toNat]
   congr 2
   omega
  simp only
  rw [e]
  refine ⟨rfl,?_⟩
  have hm:=limbs_mono (m:=(((nval c).toNat / Nat.gcd (nval a.2).toNat (nval b.2).toNat:Nat):Int)) (n:=nval c) (by omega) (by have:=Nat.div_le_self (nval c).toNat (Nat.gcd (nval a.2).toNat (nval b.2).toNat);omega)
  rw [Int.toNat_natCast,← natOk_limbs hc] at hm
  have:=(natOk_parts hc).2.1
  omega
 have hy:0 < (limbs ((nval b.2).toNat / Nat.gcd (nval a.2).toNat (nval b.2).toNat)).length:=by
  have h1:=Nat.div_pos (Nat.le_of_dvd (show 0 < (nval b.2).toNat by omega) (Nat.gcd_dvd_right (nval a.2).toNat (nval b.2).toNat)) g0
  rcases Nat.eq_zero_or_pos (limbs ((nval b.2).toNat / Nat.gcd (nval a.2).toNat (nval b.2).toNat)).length with h | h
  ·have:=(limbs_zero_iff _).1 h
   omega
  ·exact h
 refine ⟨(nval a.2).toNat / Nat.gcd (nval a.2).toNat (nval b.2).toNat,(nval b.2).toNat / Nat.gcd (nval a.2).toNat (nval b.2).toNat,eg,(dv _ pa.1).1,(dv _ pb.1).1,(dv _ pa.1).2,(dv _ pb.1).2,hy,?_⟩
 unfold makeQ
 rw [if_pos ⟨ha,hkb⟩]
 unfold lowQ
 have h0:(nval b.2).toNat ≠ 0:=by omega
 have e:(a.1 != b.1) = !(a.1 == b.1):=rfl
 simp only [h0,ne_eq,not_false_eq_true,true_and,e]
theorem mulS_cross {x:SI} {d:List Int} {n:Nat} (hx:okS x = true) (hd:natOkB d = true) (hn:n = (nval d).toNat):mulS x (false,d) = ofZ (valS x * n)∧okS (false,d) = true:=by
 have h0:=nval_ok hd
 have hk:okS (false,d) = true:=by unfold okS;rw [hd];rfl
 refine ⟨?_,hk⟩
 unfold mulS
 rw [if_pos ⟨hx,hk⟩]
 have:valS (false,d) = n:=by unfold valS;simp;omega
 rw [this]
theorem cross_abs {q:QI} {n:Nat} (h:Parts q) (hn:(n:Int) < bp 18):((numQ q * n).natAbs:Int) < bp 36:=by
 rw [h.top]
 have:=prod_lt h.nlt hn
 split
 ·rw [Int.neg_mul,Int.natAbs_neg,← Int.natCast_mul];omega
 ·rw [← Int.natCast_mul];omega
theorem ofZ_short {z:Int} {k:Nat} (h:(z.natAbs:Int) < bp k) (hk:k ≤ 50):okS (ofZ z) = true∧valS (ofZ z) = z∧ofZ z = (decide (z < 0),limbs z.natAbs):=by
 have hl:=limbs_length_le z.natAbs k h
 refine ⟨ofZ_ok z,ofZ_val (by omega),?_⟩
 unfold ofZ
 rw [if_pos (by omega)]
theorem makeQ_ofZ {z:Int} {k m:Nat} {n:Bool} {d:List Int} (h:(z.natAbs:Int) < bp k) (hk:k ≤ 50) (hd:d = limbs m) (_:(limbs m).length ≤ 50) (hn:okS (n,d) = true):makeQ (ofZ z) (n,d) = lowQ (decide (z < 0) != n) z.natAbs m:=by
 obtain ⟨h1,_,h3⟩:=ofZ_short h hk
 unfold makeQ
 rw [if_pos ⟨h1,hn⟩,h3]
 simp only
 rw [limbs_val,hd,limbs_val,Int.toNat_natCast,Int.toNat_natCast]
theorem nil_ok {d:List Int} (hd:natOkB d = true):okS (false,d) = true:=by unfold okS;rw [hd];rfl
theorem numQ_val (q:QI):valS q.1 = numQ q:=rfl
def leftS (r s:QI):SI:=mulS r.1 (false,s.2)
def denS (r s:QI):SI:=(false,mulN r.2 s.2)
def topS (r s:QI):SI:=mulS r.1 s.1
theorem leftS_eq {r s:QI} (hr:Parts r) (hs:Parts s):leftS r s = ofZ (numQ r * denQ s)∧okS (leftS r s) = true∧valS (leftS r s) = numQ r * denQ s:=by
 have h:=(mulS_cross hr.okn hs.okd (show denQ s = _ from rfl)).1
 rw [numQ_val] at h
 have hz:=ofZ_short (cross_abs hr hs.dlt) (by decide)
 unfold leftS
 rw [h]
 exact ⟨rfl,hz.1,hz.2.1⟩
theorem denS_eq {r s:QI} (hr:Parts r) (hs:Parts s):denS r s = (false,limbs (denQ r * denQ s))∧okS (denS r s) = true∧(limbs (denQ r * denQ s)).length ≤ 50:=by
 have hl:=Nat.le_trans (prod_len hr.dlt hs.dlt) (show 36 ≤ 50 by decide)
 have e:mulN r.2 s.2 = limbs (denQ r * denQ s):=by
  unfold mulN natRes capL
  rw [if_pos ⟨hr.okd,hs.okd⟩,mul_toNat hr.okd hs.okd]
  show (if 50 < (limbs (denQ r * denQ s)).length then [] else limbs (denQ r * denQ s)) = _
  rw [if_neg (by omega)]
 unfold denS
 rw [e]
 exact ⟨rfl,nil_ok (limbs_okL _ hl),hl⟩
theorem topS_eq {r s:QI} (hr:Parts r) (hs:Parts s):topS r s = ofZ (numQ r * numQ s)∧((numQ r * numQ s).natAbs:Int) < bp 36∧(numQ r * numQ s).natAbs = topN r * topN s:=by
 have e:(numQ r * numQ s).natAbs = topN r * topN s:=by
  rw [Int.natAbs_mul,hr.top,hs.top]
  congr 1 <;> split <;> omega
 unfold topS mulS
 rw [if_pos ⟨hr.okn,hs.okn⟩]
 exact ⟨rfl,by rw [e];exact prod_lt hr.nlt hs.nlt,e⟩
theorem sum_abs {x y:Int} (hx:(x.natAbs:Int) < bp 36) (hy:(y.natAbs:Int) < bp 36):((x+y).natAbs:Int) < bp 37∧((x - y).natAbs:Int) < bp 37:=by
 have:=bp37
 omega
theorem addQ_make {r s:QI} (hr:Parts r) (hs:Parts s) (okr:okQ r = true) (oks:okQ s = true):makeQ (addS (leftS r s) (leftS s r)) (denS r s) = addQ r s:=by
 have l:=leftS_eq hr hs
 have m:=leftS_eq hs hr
 have d:=denS_eq hr hs
 have e:addS (leftS r s) (leftS s r) = ofZ (numQ r * denQ s+numQ s * denQ r):=by
  unfold addS
  rw [if_pos ⟨l.2.1,m.2.1⟩,l.2.2,m.2.2]
 rw [e,d.1,makeQ_ofZ (sum_abs (cross_abs hr hs.dlt) (cross_abs hs hr.dlt)).1 (by decide) rfl d.2.2 (by rw [← d.1];exact d.2.1)]
 unfold addQ
 rw [if_pos ⟨okr,oks⟩]
 simp
theorem numQ_neg {s:QI} (oks:okQ s = true):(negQ s).2 = true∧okQ (negQ s).1 = true∧numQ (negQ s).1 = -(numQ s)∧denQ (negQ s).1 = denQ s:=by
 have h:=parts_of oks
 have e:negQ s = ((negS s.1,s.2),true):=by unfold negQ;rw [if_pos oks]
 rw [e]
 have hv:=negS_val h.okn
 have hp:=okQ_parts oks
 have habs:nval (negS s.1).2 = nval s.1.2∧(negS s.1).2.length = s.1.2.length:=by
  have e2:(negS s.1).2 = limbs (valS s.1).natAbs:=by
   unfold negS
   rw [if_pos h.okn]
   have:=ofZ_short (z:=-(valS s.1)) (k:=18) (by rw [Int.natAbs_neg,valS_abs _ (okS_parts h.okn).1];exact h.nlt) (by decide)
   rw [this.2.2,Int.natAbs_neg]
  have e3:s.1.2 = limbs (valS s.1).natAbs:=by
   rw [valS_abs _ (okS_parts h.okn).1]
   exact natOk_limbs (okS_parts h.okn).1
  rw [e2,← e3]
  exact ⟨rfl,rfl⟩
 refine ⟨rfl,?_,hv,rfl⟩
 unfold okQ
 rw [negS_ok,h.okd]
 simp only [Bool.true_and,decide_eq_true_eq]
 rw [habs.1,habs.2]
 exact ⟨hp.2.2.1,hp.2.2.2.1,hp.2.2.2.2.1,hp.2.2.2.2.2⟩
theorem subQ_make {r s:QI} (hr:Parts r) (hs:Parts s) (okr:okQ r = true) (oks:okQ s = true):makeQ (subS (leftS r s) (leftS s r)) (denS r s) = subQ r s:=by
 have l:=leftS_eq hr hs
 have m:=leftS_eq hs hr
 have d:=denS_eq hr hs
 have e:subS (leftS r s) (leftS s r) = ofZ (numQ r * denQ s - numQ s * denQ r):=by
  unfold subS
  rw [if_pos ⟨l.2.1,m.2.1⟩,l.2.2,m.2.2]
 have n:=numQ_neg oks
 rw [e,d.1,makeQ_ofZ (sum_abs (cross_abs hr hs.dlt) (cross_abs hs hr.dlt)).2 (by decide) rfl d.2.2 (by rw [← d.1];exact d.2.1)]
 unfold subQ addQ
 rw [if_pos n.1,if_pos ⟨okr,n.2.1⟩,n.2.2.1,n.2.2.2,Int.neg_mul,← Int.sub_eq_add_neg]
 simp
theorem lowQ_sign {n m:Bool} {a b:Nat} (h:a ≠ 0→n = m):lowQ n a b = lowQ m a b:=by
 by_cases ha:a = 0
 ·subst ha
  unfold lowQ
  have e:∀ k:Bool,mkS k (limbs (0 / Nat.gcd 0 b)) = zeroS:=fun k=>by
   rw [Nat.zero_div,mkS_limbs]
   cases k <;> exact ofZ_zero
  rw [e,e]
 ·rw [h ha]
theorem mulQ_make {r s:QI} (hr:Parts r) (hs:Parts s) (okr:okQ r = true) (oks:okQ s = true):makeQ (topS r s) (denS r s) = mulQ r s:=by
 have t:=topS_eq hr hs
 have d:=denS_eq hr hs
 rw [t.1,d.1,makeQ_ofZ t.2.1 (by decide) rfl d.2.2 (by rw [← d.1];exact d.2.1),t.2.2]
 unfold mulQ
 rw [if_pos ⟨okr,oks⟩]
 refine lowQ_sign fun h=>?_
 have hr0:topN r ≠ 0:=fun e=>h (by rw [e,Nat.zero_mul])
 have hs0:topN s ≠ 0:=fun e=>h (by rw [e,Nat.mul_zero])
 rw [hr.top,hs.top]
 have p:0 < (topN r:Int) * (topN s:Int):=Int.mul_pos (by omega) (by omega)
 have e:decide ((if r.1.1 = true then -(topN r:Int) else topN r) * (if s.1.1 = true then -(topN s:Int) else topN s) < 0) = (r.1.1 != s.1.1):=by
  cases r.1.1 <;> cases s.1.1 <;> simp [Int.neg_mul,Int.mul_neg] <;> omega
 rw [e]
 cases (r.1.1 != s.1.1) <;> rfl
theorem divQ_make {r s:QI} (hr:Parts r) (hs:Parts s) (okr:okQ r = true) (oks:okQ s = true):makeQ (leftS r s) (leftS s r) = divQ r s:=by
 have l:=leftS_eq hr hs
 have m:=leftS_eq hs hr
 have h1:=ofZ_short (cross_abs hr hs.dlt) (by decide)
 have h2:=ofZ_short (cross_abs hs hr.dlt) (by decide)
 have a1:(numQ r * denQ s).natAbs = topN r * denQ s:=by rw [Int.natAbs_mul,hr.top,Int.natAbs_natCast];congr 1;split <;> omega
 have a2:(numQ s * denQ r).natAbs = denQ r * topN s:=by rw [Int.natAbs_mul,hs.top,Int.natAbs_natCast,Nat.mul_comm];congr 1;split <;> omega
 unfold makeQ divQ
 rw [if_pos ⟨l.2.1,m.2.1⟩,if_pos ⟨okr,oks⟩,l.1,m.1,h1.2.2,h2.2.2]
 simp only
 rw [limbs_val,limbs_val,Int.toNat_natCast,Int.toNat_natCast,a1,a2]
 by_cases hs0:topN s = 0
 ·have e:(denQ r * topN s) = 0:=by rw [hs0,Nat.mul_zero]
  have e2:denQ r * (nval s.1.2).toNat = 0:=e
  rw [e,e2]
  unfold lowQ
  simp
 ·refine lowQ_sign fun h=>?_
  have hr0:topN r ≠ 0:=fun e=>h (by rw [e,Nat.zero_mul])
  have p1:0 < (topN r:Int) * (denQ s:Int):=Int.mul_pos (by omega) (by have:=hs.pos;omega)
  have p2:0 < (topN s:Int) * (denQ r:Int):=Int.mul_pos (by omega) (by have:=hr.pos;omega)
  have e1:decide (numQ r * denQ s < 0) = r.1.1:=by rw [hr.top];cases r.1.1 <;> simp [Int.neg_mul] <;> omega
  have e2:decide (numQ s * denQ r < 0) = s.1.1:=by rw [hs.top];cases s.1.1 <;> simp [Int.neg_mul] <;> omega
  rw [e1,e2]
end Go.Proofs.YtipbdpdmefcofabGreatDoor
namespace Go.Proofs
open Go.Shelf
def Tryz.lays134_ren:Go.Shelf.Ren:=⟨fun | 134=>210 | 129=>211 | n=>n,fun | 53=>224 | 3=>3 | 4=>4 | 46=>228 | 5=>5 | 9=>9 | n=>n,fun | n=>n⟩
theorem Tryz.lays134:Go.Proofs.Lays.n134 Tryz.prog Tryz.lays134_ren:={
 mixed:=by kernel_rfl
 f129:=Tryz.func211.trans (congrArg some (by kernel_rfl))
 f134:=Tryz.func210.trans (congrArg some (by kernel_rfl))
 t3:=Tryz.underlying3
 a3:=Tryz.isAgg3
 z3:=Tryz.sizeOf3
 v3:=Tryz.zeroValue3
 t4:=Tryz.underlying4
 a4:=Tryz.isAgg4
 z4:=Tryz.sizeOf4
 v4:=Tryz.zeroValue4
 t5:=Tryz.underlying5
 a5:=Tryz.isAgg5
 z5:=Tryz.sizeOf5
 v5:=Tryz.zeroValue5
 t9:=Tryz.underlying9
 a9:=Tryz.isAgg9
 z9:=Tryz.sizeOf9
 v9:=Tryz.zeroValue9
 t46:=Tryz.underlying228
 a46:=Tryz.isAgg228
 z46:=Tryz.sizeOf228
 v46:=Tryz.zeroValue228
 t53:=Tryz.underlying224
 a53:=Tryz.isAgg224
 z53:=Tryz.sizeOf224
 v53:=Tryz.zeroValue224 }
theorem Tryz.bits_LeadingZeros64 (x:Int) (w:World) (h0:0 ≤ x) (h1:x ≤ 18446744073709551615) :
 Calls Tryz.prog 210 #[.int .u64 x] w fun e w'=>e = .returned (.int .i64 (64 - (Lib.bitLen x.toNat:Int)))∧w' = w:=Any.bits_LeadingZeros64 Tryz.lays134 x w h0 h1
def Tryz.lays264_ren:Go.Shelf.Ren:=⟨fun | 264=>207 | n=>n,fun | 53=>224 | 46=>228 | n=>n,fun | n=>n⟩
theorem Tryz.lays264:Go.Proofs.Lays.n264 Tryz.prog Tryz.lays264_ren:={
 mixed:=by kernel_rfl
 f264:=Tryz.func207.trans (congrArg some (by kernel_rfl))
 t46:=Tryz.underlying228
 a46:=Tryz.isAgg228
 z46:=Tryz.sizeOf228
 v46:=Tryz.zeroValue228
 t53:=Tryz.underlying224
 a53:=Tryz.isAgg224
 z53:=Tryz.sizeOf224
 v53:=Tryz.zeroValue224 }
open Go.RowKit Go.Lib in
theorem Tryz.bits_Mul64 (x y:Nat) (hx:x < 18446744073709551616) (hy:y < 18446744073709551616) (w:World) :
 Calls Tryz.prog 207 #[.int .u64 x,.int .u64 y] w fun e w'=>e = .returned (.tuple #[.int .u64 ((x * y / 18446744073709551616:Nat):Int),.int .u64 ((x * y % 18446744073709551616:Nat):Int)])∧w' = w:=Any.bits_Mul64 Tryz.lays264 x y hx hy w
end Go.Proofs
