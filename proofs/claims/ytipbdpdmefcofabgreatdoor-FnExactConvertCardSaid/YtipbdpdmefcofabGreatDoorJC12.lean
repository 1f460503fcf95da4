import Derived.Lib.SmallJoins
import Derived.ChangeArms
import Derived.Deep.Strs
import Derived.Test.YtipbdpdmefcofabGreatDoorJC11
set_option maxRecDepth 100000
namespace Go.Proofs.YtipbdpdmefcofabGreatDoor
open Go.RowKit
theorem postMQe_is {a d:MI} {b f:QI} {c g:Int} (e1:a = d) (e2:b = f) (e3:c = g) {w w':World} {n:Ending} (h:PostMQe a b c w n w'):PostMQe d f g w n w':=by subst e1 e2 e3;exact h
set_option maxHeartbeats 4000000 in
theorem implConvertSum_any (v vl:Value) (t:TI) (l:List MI) (q:ByteArray) (k:Int) (w:World) (hl:t.2.length ≤ 1099511627776) (hx:∀ x ∈ t.2,x.2.2.1.2.length ≤ 1048576) (hll:l.length ≤ 140737488355328) (hlx:∀ x ∈ l,szS x.2 ≤ 1048576) (h:OwnTR w v t) (hm:OwnMR w vl l) (ht:CurTab w) (hsen:Sen w) (het:ErrTy w) :
 Calls Tryz.prog 27 #[v,vl,.string q,.int .i64 k] w (PostMQn (cvM t l q k) (cvQ t l q k) (cvN t l q k) w):=by
 have HT:=Lib.hid ht
 have HS:=Lib.hid hsen
 clear ht hsen
 have HE:=Lib.hid het
 clear het
 have HL:=Lib.hid (show ∀ W,Below w.heap.size w W→OwnMR W vl l from fun W hb=>ownMR_belowC hm hb)
 clear hm
 obtain ⟨A,c,rfl,hr⟩:=ownTR_form h
 have HR:=Lib.hid (show ∀ W,Below w.heap.size w W→OwnER W (.slice A t.2.length c) t.2 from fun W h=>hr.below h)
 have HTR:=Lib.hid (show ∀ W,Below w.heap.size w W→OwnTR W (.agg #[.string t.1,.slice A t.2.length c]) t from fun W h=>⟨_,rfl,hr.below h⟩)
 clear h hr
 have bb0:Below w.heap.size w (((w.alloc (.cells #[.string t.1,.slice A t.2.length c] 41)).alloc (.cells #[.string ⟨#[]⟩,.bool false,.slice none 0 0] 34)).alloc (.cells #[.bool false,.slice none 0 0,.slice none 0 0] 36)):=below_al (below_al (below_al (Below.refl _ _) _) _) _
 have kt:=(box_new w #[.string t.1,.slice A t.2.length c] 41).below (below_al (below_al (Below.refl _ _) (.cells #[.string ⟨#[]⟩,.bool false,.slice none 0 0] 34)) (.cells #[.bool false,.slice none 0 0,.slice none 0 0] 36))
 have kM:=(box_new (w.alloc (.cells #[.string t.1,.slice A t.2.length c] 41)) #[.string ⟨#[]⟩,.bool false,.slice none 0 0] 34).below (below_al (Below.refl _ _) (.cells #[.bool false,.slice none 0 0,.slice none 0 0] 36))
 rw [show (w.alloc (.cells #[.string t.1,.slice A t.2.length c] 41)).heap.size = w.heap.size+1 by simp] at kM
 have kQ:=(box_new ((w.alloc (.cells #[.string t.1,.slice A t.2.length c] 41)).alloc (.cells #[.string ⟨#[]⟩,.bool false,.slice none 0 0] 34)) #[.bool false,.slice none 0 0,.slice none 0 0] 36)
 rw [show ((w.alloc (.cells #[.string t.1,.slice A t.2.length c] 41)).alloc (.cells #[.string ⟨#[]⟩,.bool false,.slice none 0 0] 34)).heap.size = w.heap.size+1+1 by simp] at kQ
 obtain ⟨R,hR⟩:∃ R,cvM t l q k = R:=⟨_,rfl⟩
 obtain ⟨Q,hQ⟩:∃ Q,cvQ t l q k = Q:=⟨_,rfl⟩
 obtain ⟨N,hN⟩:∃ N,cvN t l q k = N:=⟨_,rfl⟩
 have HZ:=Lib.hid (show ¬ N = 0→R = zeroM∧Q = zeroQ from fun h=>by rw [← hN] at h;rw [← hR,← hQ];exact cv_zero h)
 have HR2:=Lib.hid hR
 have HQ2:=Lib.hid hQ
 have HN2:=Lib.hid hN
 rw [hR,hQ,hN]
 clear hR hQ hN
 go_enter Tryz.func27,Tryz.ntmps27
 have kt_c0:=kt.here.cell 0 _ rfl
 have kt_c1:=kt.here.cell 1 _ rfl
 go_wp2_with fail
 clear kt_c0 kt_c1
 refine ((implconvertSum_any _ _ t l q k _ hl hx hll hlx (HTR.out _ bb0) (HL.out _ bb0) (HT.out.below bb0) (HS.out.below bb0)).mono fun _ _ h=>postMQe_is HR2.out HQ2.out HN2.out h).mono ?_
 rintro e w1 ⟨u3,x3,S3,T3,rfl,o3,q3,ap3,l3,k3,b1⟩
 obtain ⟨A3,c3,rfl⟩:=ownM_form o3.here
 obtain ⟨A4,c4,B4,d4,rfl⟩:=ownQ_form q3.here
 have hz1:w.heap.size+3 ≤ w1.heap.size:=by have:=b1.size;(try simp at this);omega
 have bb1:=Below.next bb0 b1
 replace kt:=kt.below b1
 replace kM:=kM.below b1
 replace kQ:=kQ.below b1
 clear kt
 have HLS:=Lib.hid (show ∀ i ∈ S3,w.heap.size+1+1 < i from fun i hi=>by have:=(l3 i hi).1;simp at this;omega)
 have HLT:=Lib.hid (show ∀ i ∈ T3,w.heap.size+1+1 < i from fun i hi=>by have:=(k3 i hi).1;simp at this;omega)
 have HAP:=Lib.hid ap3
 clear l3 k3 ap3
 by_cases hN0:N = 0
 ·rw [show errV N = .nilIface by rw [hN0];rfl]
  subst hN0
  go_upto_region 3 with fail
  have al2:Below w1.heap.size w1 (((w1.alloc (.cells #[.string R.1,.bool R.2.1,.slice A3 R.2.2.length c3] 34)).alloc (.cells #[.bool Q.1.1,.slice A4 Q.1.2.length c4,.slice B4 Q.2.length d4] 36)).alloc (.cells #[.int .i64 0] 97)):=Below.next (Below.next (below_al (Below.refl _ _) _) (below_al (Below.refl _ _) _)) (below_al (Below.refl _ _) _)
  have km:=(box_new w1 #[.string R.1,.bool R.2.1,.slice A3 R.2.2.length c3] 34).below (below_al (below_al (Below.refl _ _) (.cells #[.bool Q.1.1,.slice A4 Q.1.2.length c4,.slice B4 Q.2.length d4] 36)) (.cells #[.int .i64 0] 97))
  have kx:=(box_new (w1.alloc (.cells #[.string R.1,.bool R.2.1,.slice A3 R.2.2.length c3] 34)) #[.bool Q.1.1,.slice A4 Q.1.2.length c4,.slice B4 Q.2.length d4] 36).below (below_al (Below.refl _ _) (.cells #[.int .i64 0] 97))
  rw [show (w1.alloc (.cells #[.string R.1,.bool R.2.1,.slice A3 R.2.2.length c3] 34)).heap.size = w1.heap.size+1 by simp] at kx
  have ke:=(box_new ((w1.alloc (.cells #[.string R.1,.bool R.2.1,.slice A3 R.2.2.length c3] 34)).alloc (.cells #[.bool Q.1.1,.slice A4 Q.1.2.length c4,.slice B4 Q.2.length d4] 36)) #[.int .i64 0] 97)
  rw [show ((w1.alloc (.cells #[.string R.1,.bool R.2.1,.slice A3 R.2.2.length c3] 34)).alloc (.cells #[.bool Q.1.1,.slice A4 Q.1.2.length c4,.slice B4 Q.2.length d4] 36)).heap.size = w1.heap.size+1+1 by simp] at ke
  have bb2:=Below.next bb1 al2
  replace kM:=kM.below al2
  replace kQ:=kQ.below al2
  replace o3:=o3.below al2
  replace q3:=q3.below al2
  obtain ⟨w2,hw2⟩:∃ W,W = (((w1.alloc (.cells #[.string R.1,.bool R.2.1,.slice A3 R.2.2.length c3] 34)).alloc (.cells #[.bool Q.1.1,.slice A4 Q.1.2.length c4,.slice B4 Q.2.length d4] 36)).alloc (.cells #[.int .i64 0] 97)):=⟨_,rfl⟩
  rw [← hw2] at km kx ke kM kQ o3 q3 bb2 ⊢
  clear hw2 al2
  go_wp2_with fail
  refine (as_nilB _ _).mono ?_
  rintro e w3 ⟨rfl,b3⟩
  have bb3:=Below.next bb2 b3
  replace kM:=kM.below b3
  replace kQ:=kQ.below b3
  replace o3:=o3.below b3
  replace q3:=q3.below b3
  replace km:=km.below b3
  replace kx:=kx.below b3
  replace ke:=ke.below b3
  clear ke
  have HW:=Lib.hid (newMQn_chgC (R2:=0) (T:=[w.heap.size+1,w.heap.size+1+1]) o3 q3 HAP.out (fun i hi hm=>by have:=HLS.out i hi;simp at hm;omega) (fun i hi hm=>by have:=HLT.out i hi;simp at hm;omega) (fun i hi=>by simp at hi;omega) (fun i hi=>by have:=HLS.out i hi;omega) (fun i hi=>by have:=HLT.out i hi;omega) bb3)
  have ckM0:=kM.here.cell 0 _ rfl
  have fkM0:=Lib.frozen_of_heap kM.here 0
  have ckM1:=kM.here.cell 1 _ rfl
  have fkM1:=Lib.frozen_of_heap kM.here 1
  have ckM2:=kM.here.cell 2 _ rfl
  have fkM2:=Lib.frozen_of_heap kM.here 2
  have ckQ0:=kQ.here.cell 0 _ rfl
  have fkQ0:=Lib.frozen_of_heap kQ.here 0
  have ckQ1:=kQ.here.cell 1 _ rfl
  have fkQ1:=Lib.frozen_of_heap kQ.here 1
  have ckQ2:=kQ.here.cell 2 _ rfl
  have fkQ2:=Lib.frozen_of_heap kQ.here 2
  have ckm0:=km.here.cell 0 _ rfl
  have ckm1:=km.here.cell 1 _ rfl
  have ckm2:=km.here.cell 2 _ rfl
  have ckx0:=kx.here.cell 0 _ rfl
  have ckx1:=kx.here.cell 1 _ rfl
  have ckx2:=kx.here.cell 2 _ rfl
  have hn1:¬ w1.heap.size = w.heap.size+1:=by omega
  have hn1':¬ w.heap.size+1 = w1.heap.size:=by omega
  have hn2:¬ w1.heap.size = w.heap.size+1+1:=by omega
  have hn2':¬ w.heap.size+1+1 = w1.heap.size:=by omega
  have hn3:¬ w1.heap.size+1 = w.heap.size+1:=by omega
  have hn3':¬ w.heap.size+1 = w1.heap.size+1:=by omega
  have hn4:¬ w1.heap.size+1 = w.heap.size+1+1:=by omega
  have hn4':¬ w.heap.size+1+1 = w1.heap.size+1:=by omega
  clear kM kQ km kx o3 q3
  go_wp2_with fail
  go_region
  all_goals
   go_wp2
   refine bodyPost_ret (v:=.tuple #[.agg #[.string R.1,.bool R.2.1,.slice A3 R.2.2.length c3],.agg #[.bool Q.1.1,.slice A4 Q.1.2.length c4,.slice B4 Q.2.length d4],.int .i64 0]) (by simp [results,Tryz.results27,go_sem,ckM0,ckM1,ckM2,ckQ0,ckQ1,ckQ2]) rfl ?_
   refine HW.out _ ?_
   repeat (first | with_reducible exact Chg.refl _ _ | with_reducible refine Chg.drew1 ?_ | with_reducible refine Chg.setCell ?_ (by simp) _)
 ·rw [errV_pos hN0]
  have HV:=Lib.hid (HZ.out hN0)
  clear hN0
  go_upto_region 3 with fail
  have al2:Below w1.heap.size w1 (((w1.alloc (.cells #[.string R.1,.bool R.2.1,.slice A3 R.2.2.length c3] 34)).alloc (.cells #[.bool Q.1.1,.slice A4 Q.1.2.length c4,.slice B4 Q.2.length d4] 36)).alloc (.cells #[.int .i64 0] 97)):=Below.next (Below.next (below_al (Below.refl _ _) _) (below_al (Below.refl _ _) _)) (below_al (Below.refl _ _) _)
  have km:=(box_new w1 #[.string R.1,.bool R.2.1,.slice A3 R.2.2.length c3] 34).below (below_al (below_al (Below.refl _ _) (.cells #[.bool Q.1.1,.slice A4 Q.1.2.length c4,.slice B4 Q.2.length d4] 36)) (.cells #[.int .i64 0] 97))
  have kx:=(box_new (w1.alloc (.cells #[.string R.1,.bool R.2.1,.slice A3 R.2.2.length c3] 34)) #[.bool Q.1.1,.slice A4 Q.1.2.length c4,.slice B4 Q.2.length d4] 36).below (below_al (Below.refl _ _) (.cells #[.int .i64 0] 97))
  rw [show (w1.alloc (.cells #[.string R.1,.bool R.2.1,.slice A3 R.2.2.length c3] 34)).heap.size = w1.heap.size+1 by simp] at kx
  have ke:=(box_new ((w1.alloc (.cells #[.string R.1,.bool R.2.1,.slice A3 R.2.2.length c3] 34)).alloc (.cells #[.bool Q.1.1,.slice A4 Q.1.2.length c4,.slice B4 Q.2.length d4] 36)) #[.int .i64 0] 97)
  rw [show ((w1.alloc (.cells #[.string R.1,.bool R.2.1,.slice A3 R.2.2.length c3] 34)).alloc (.cells #[.bool Q.1.1,.slice A4 Q.1.2.length c4,.slice B4 Q.2.length d4] 36)).heap.size = w1.heap.size+1+1 by simp] at ke
  have bb2:=Below.next bb1 al2
  replace kM:=kM.below al2
  replace kQ:=kQ.below al2
  replace o3:=o3.below al2
  replace q3:=q3.below al2
  obtain ⟨w2,hw2⟩:∃ W,W = (((w1.alloc (.cells #[.string R.1,.bool R.2.1,.slice A3 R.2.2.length c3] 34)).alloc (.cells #[.bool Q.1.1,.slice A4 Q.1.2.length c4,.slice B4 Q.2.length d4] 36)).alloc (.cells #[.int .i64 0] 97)):=⟨_,rfl⟩
  rw [← hw2] at km kx ke kM kQ o3 q3 bb2 ⊢
  clear hw2 al2
  clear km kx o3 q3
  go_wp2_with fail
  refine (as_store (n:=N) (HE.out.below bb2) ke).mono ?_
  rintro e w3 ⟨rfl,ke2,ce,hze⟩
  clear ke
  have bb3:=below_chg bb2 ce bb2.size (fun i hi=>by simp at hi;omega)
  replace kM:=kM.chg ce (fun i hi hm=>by simp at hi hm;omega)
  replace kQ:=kQ.chg ce (fun i hi hm=>by simp at hi hm;omega)
  clear ce hze
  have HW:=Lib.hid (newMQn_zeroC (n:=N) (T:=[w.heap.size+1,w.heap.size+1+1]) (fun i hi=>by simp at hi;omega) bb3)
  have ckM0:=kM.here.cell 0 _ rfl
  have fkM0:=Lib.frozen_of_heap kM.here 0
  have ckM1:=kM.here.cell 1 _ rfl
  have fkM1:=Lib.frozen_of_heap kM.here 1
  have ckM2:=kM.here.cell 2 _ rfl
  have fkM2:=Lib.frozen_of_heap kM.here 2
  have ckQ0:=kQ.here.cell 0 _ rfl
  have fkQ0:=Lib.frozen_of_heap kQ.here 0
  have ckQ1:=kQ.here.cell 1 _ rfl
  have fkQ1:=Lib.frozen_of_heap kQ.here 1
  have ckQ2:=kQ.here.cell 2 _ rfl
  have fkQ2:=Lib.frozen_of_heap kQ.here 2
  have cke:=ke2.here.cell 0 _ rfl
  clear ke2
  have hn1:¬ w1.heap.size+1+1 = w.heap.size+1:=by omega
  have hn1':¬ w.heap.size+1 = w1.heap.size+1+1:=by omega
  have hn2:¬ w1.heap.size+1+1 = w.heap.size+1+1:=by omega
  have hn2':¬ w.heap.size+1+1 = w1.heap.size+1+1:=by omega
  clear kM kQ
  go_wp2_with fail
  go_region
  all_goals
   go_wp2
   refine bodyPost_ret (v:=.tuple #[.agg #[.string ⟨#[]⟩,.bool false,.slice none 0 0],.agg #[.bool false,.slice none 0 0,.slice none 0 0],.int .i64 N]) (by simp [results,Tryz.results27,go_sem,ckM0,ckM1,ckM2,ckQ0,ckQ1,ckQ2]) rfl ?_
   rw [HV.out.1,HV.out.2]
   refine HW.out _ ?_
   repeat (first | with_reducible exact Chg.refl _ _ | with_reducible refine Chg.drew1 ?_ | with_reducible refine Chg.setCell ?_ (by simp) _)
set_option maxHeartbeats 4000000 in
theorem implConvert_any (v vm:Value) (t:TI) (m:MI) (q:ByteArray) (k:Int) (w:World) (hl:t.2.length ≤ 1099511627776) (hx:∀ x ∈ t.2,x.2.2.1.2.length ≤ 1048576) (hzm:szS m.2 ≤ 1048576) (h:OwnTR w v t) (hm:OwnM vm m w) (ht:CurTab w) (hsen:Sen w) (het:ErrTy w) :
 Calls Tryz.prog 9 #[v,vm,.string q,.int .i64 k] w (PostMQn (cvM t [m] q k) (cvQ t [m] q k) (cvN t [m] q k) w):=by
 have HT:=Lib.hid ht
 have HS:=Lib.hid hsen
 clear ht hsen
 have HE:=Lib.hid het
 clear het
 obtain ⟨A,c,rfl,hr⟩:=ownTR_form h
 have HR:=Lib.hid (show ∀ W,Below w.heap.size w W→OwnER W (.slice A t.2.length c) t.2 from fun W h=>hr.below h)
 have HTR:=Lib.hid (show ∀ W,Below w.heap.size w W→OwnTR W (.agg #[.string t.1,.slice A t.2.length c]) t from fun W h=>⟨_,rfl,hr.below h⟩)
 clear h hr
 have Hm:=Lib.hid hm
 obtain ⟨Am,cm,rfl⟩:=ownM_form hm
 have OMm:=Lib.hid (show ∀ W,Below w.heap.size w W→OwnM (.agg #[.string m.1,.bool m.2.1,.slice Am m.2.2.length cm]) m W from fun W hb=>OwnM.below Hm.out hb)
 have OIm:=Lib.hid (show ∀ W,Below w.heap.size w W→OwnI (.slice Am m.2.2.length cm) m.2.2 W from fun W hb=>ownM_open (OMm.out W hb))
 have OSm:=Lib.hid (show ∀ W,Below w.heap.size w W→OwnS (.agg #[.bool m.2.1,.slice Am m.2.2.length cm]) m.2 W from fun W hb=>OwnS.mk (OIm.out W hb))
 clear hm
 have bb0:Below w.heap.size w ((((w.alloc (.cells #[.string t.1,.slice A t.2.length c] 41)).alloc (.cells #[.string m.1,.bool m.2.1,.slice Am m.2.2.length cm] 34)).alloc (.cells #[.string ⟨#[]⟩,.bool false,.slice none 0 0] 34)).alloc (.cells #[.bool false,.slice none 0 0,.slice none 0 0] 36)):=below_al (below_al (below_al (below_al (Below.refl _ _) _) _) _) _
 have kt:=(box_new w #[.string t.1,.slice A t.2.length c] 41).below (below_al (below_al (below_al (Below.refl _ _) (.cells #[.string m.1,.bool m.2.1,.slice Am m.2.2.length cm] 34)) (.cells #[.string ⟨#[]⟩,.bool false,.slice none 0 0] 34)) (.cells #[.bool false,.slice none 0 0,.slice none 0 0] 36))
 have km:=(box_new (w.alloc (.cells #[.string t.1,.slice A t.2.length c] 41)) #[.string m.1,.bool m.2.1,.slice Am m.2.2.length cm] 34).below (below_al (below_al (Below.refl _ _) (.cells #[.string ⟨#[]⟩,.bool false,.slice none 0 0] 34)) (.cells #[.bool false,.slice none 0 0,.slice none 0 0] 36))
 rw [show (w.alloc (.cells #[.string t.1,.slice A t.2.length c] 41)).heap.size = w.heap.size+1 by simp] at km
 have kM:=(box_new ((w.alloc (.cells #[.string t.1,.slice A t.2.length c] 41)).alloc (.cells #[.string m.1,.bool m.2.1,.slice Am m.2.2.length cm] 34)) #[.string ⟨#[]⟩,.bool false,.slice none 0 0] 34).below (below_al (Below.refl _ _) (.cells #[.bool false,.slice none 0 0,.slice none 0 0] 36))
 rw [show ((w.alloc (.cells #[.string t.1,.slice A t.2.length c] 41)).alloc (.cells #[.string m.1,.bool m.2.1,.slice Am m.2.2.length cm] 34)).heap.size = w.heap.size+1+1 by simp] at kM
 have kQ:=(box_new (((w.alloc (.cells #[.string t.1,.slice A t.2.length c] 41)).alloc (.cells #[.string m.1,.bool m.2.1,.slice Am m.2.2.length cm] 34)).alloc (.cells #[.string ⟨#[]⟩,.bool false,.slice none 0 0] 34)) #[.bool false,.slice none 0 0,.slice none 0 0] 36)
 rw [show (((w.alloc (.cells #[.string t.1,.slice A t.2.length c] 41)).alloc (.cells #[.string m.1,.bool m.2.1,.slice Am m.2.2.length cm] 34)).alloc (.cells #[.string ⟨#[]⟩,.bool false,.slice none 0 0] 34)).heap.size = w.heap.size+1+1+1 by simp] at kQ
 have ks:=box_new (((((w.alloc (.cells #[.string t.1,.slice A t.2.length c] 41)).alloc (.cells #[.string m.1,.bool m.2.1,.slice Am m.2.2.length cm] 34)).alloc (.cells #[.string ⟨#[]⟩,.bool false,.slice none 0 0] 34)).alloc (.cells #[.bool false,.slice none 0 0,.slice none 0 0] 36))) #[.string m.1,.bool m.2.1,.slice Am m.2.2.length cm] 34
 have als:=below_al (Below.refl (((((w.alloc (.cells #[.string t.1,.slice A t.2.length c] 41)).alloc (.cells #[.string m.1,.bool m.2.1,.slice Am m.2.2.length cm] 34)).alloc (.cells #[.string ⟨#[]⟩,.bool false,.slice none 0 0] 34)).alloc (.cells #[.bool false,.slice none 0 0,.slice none 0 0] 36))).heap.size (((((w.alloc (.cells #[.string t.1,.slice A t.2.length c] 41)).alloc (.cells #[.string m.1,.bool m.2.1,.slice Am m.2.2.length cm] 34)).alloc (.cells #[.string ⟨#[]⟩,.bool false,.slice none 0 0] 34)).alloc (.cells #[.bool false,.slice none 0 0,.slice none 0 0] 36)))) (.cells #[.string m.1,.bool m.2.1,.slice Am m.2.2.length cm] 34)
 have bbs:=Below.next bb0 als
 replace kt:=kt.below als
 replace km:=km.below als
 replace kM:=kM.below als
 replace kQ:=kQ.below als
 rw [show ((((w.alloc (.cells #[.string t.1,.slice A t.2.length c] 41)).alloc (.cells #[.string m.1,.bool m.2.1,.slice Am m.2.2.length cm] 34)).alloc (.cells #[.string ⟨#[]⟩,.bool false,.slice none 0 0] 34)).alloc (.cells #[.bool false,.slice none 0 0,.slice none 0 0] 36)).heap.size = w.heap.size+1+1+1+1 by simp] at ks
 obtain ⟨R,hR⟩:∃ R,cvM t [m] q k = R:=⟨_,rfl⟩
 obtain ⟨Q,hQ⟩:∃ Q,cvQ t [m] q k = Q:=⟨_,rfl⟩
 obtain ⟨N,hN⟩:∃ N,cvN t [m] q k = N:=⟨_,rfl⟩
 have HR2:=Lib.hid hR
 have HQ2:=Lib.hid hQ
 have HN2:=Lib.hid hN
 rw [hR,hQ,hN]
 clear hR hQ hN
 have HLX:=Lib.hid (show ∀ x ∈ [m],szS x.2 ≤ 1048576 from fun x hx=>by rw [List.mem_singleton.1 hx];exact hzm)
 have HML:=Lib.hid (ownMR_one ks (OIm.out _ bbs))
 go_enter Tryz.func9,Tryz.ntmps9
 have kt_c0:=kt.here.cell 0 _ rfl
 have kt_c1:=kt.here.cell 1 _ rfl
 have km_c0:=km.here.cell 0 _ rfl
 have km_c1:=km.here.cell 1 _ rfl
 have km_c2:=km.here.cell 2 _ rfl
 have ks_c0:=ks.here.cell 0 _ rfl
 have ks_c1:=ks.here.cell 1 _ rfl
 have ks_c2:=ks.here.cell 2 _ rfl
 go_wp2_with fail
 clear kt_c0 kt_c1 km_c0 km_c1 km_c2 ks_c0 ks_c1 ks_c2
 refine ((implConvertSum_any _ _ t [m] q k _ hl hx (show (1:Nat) ≤ 140737488355328 by omega) HLX.out (HTR.out _ bbs) HML.out (HT.out.below bbs) (HS.out.below bbs) (HE.out.below bbs)).mono fun _ _ h=>postMQn_isC HR2.out HQ2.out HN2.out h).mono ?_
 rintro e w1 ⟨u3,x3,S3,T3,rfl,o3,q3,ap3,l3,k3,b1⟩
 obtain ⟨A3,c3,rfl⟩:=ownM_form o3.here
 obtain ⟨A4,c4,B4,d4,rfl⟩:=ownQ_form q3.here
 have hz1:w.heap.size+4 ≤ w1.heap.size:=by have:=b1.size;(try simp at this);omega
 have bb1:=Below.next bbs b1
 replace kt:=kt.below b1
 replace km:=km.below b1
 replace kM:=kM.below b1
 replace kQ:=kQ.below b1
 replace ks:=ks.below b1
 clear kt km ks
 have HLS:=Lib.hid (show ∀ i ∈ S3,w.heap.size+1+1+1 < i from fun i hi=>by have:=(l3 i hi).1;simp at this;omega)
 have HLT:=Lib.hid (show ∀ i ∈ T3,w.heap.size+1+1+1 < i from fun i hi=>by have:=(k3 i hi).1;simp at this;omega)
 have HW:=Lib.hid (newMQn_chgC (R2:=N) (T:=[w.heap.size+1+1,w.heap.size+1+1+1]) o3 q3 ap3 (fun i hi hm=>by have:=HLS.out i hi;simp at hm;omega) (fun i hi hm=>by have:=HLT.out i hi;simp at hm;omega) (fun i hi=>by simp at hi;omega) (fun i hi=>by have:=HLS.out i hi;omega) (fun i hi=>by have:=HLT.out i hi;omega) bb1)
 have ckM0:=kM.here.cell 0 _ rfl
 have fkM0:=Lib.frozen_of_heap kM.here 0
 have ckM1:=kM.here.cell 1 _ rfl
 have fkM1:=Lib.frozen_of_heap kM.here 1
 have ckM2:=kM.here.cell 2 _ rfl
 have fkM2:=Lib.frozen_of_heap kM.here 2
 have ckQ0:=kQ.here.cell 0 _ rfl
 have fkQ0:=Lib.frozen_of_heap kQ.here 0
 have ckQ1:=kQ.here.cell 1 _ rfl
 have fkQ1:=Lib.frozen_of_heap kQ.here 1
 have ckQ2:=kQ.here.cell 2 _ rfl
 have fkQ2:=Lib.frozen_of_heap kQ.here 2
 clear kM kQ o3 q3 ap3 l3 k3
 go_wp2
 refine bodyPost_ret (v:=.tuple #[.agg #[.string R.1,.bool R.2.1,.slice A3 R.2.2.length c3],.agg #[.bool Q.1.1,.slice A4 Q.1.2.length c4,.slice B4 Q.2.length d4],.int .i64 N]) (by simp [results,Tryz.results9,go_sem,ckM0,ckM1,ckM2,ckQ0,ckQ1,ckQ2]) rfl ?_
 refine HW.out _ ?_
 repeat (first | with_reducible exact Chg.refl _ _ | with_reducible refine Chg.drew1 ?_ | with_reducible refine Chg.setCell ?_ (by simp) _)
end Go.Proofs.YtipbdpdmefcofabGreatDoor
namespace Go.Proofs.YtipbdpdmefcofabGreatDoor
open Go.ChangeShapes Go.WideShapes Go.ChangeAt Go.RowKit Go.Joins
section
variable {H:Type} {enc:TypeId × Value→H} {P:Program} {W:World} {base:Nat} {t e:TypeId}
theorem cell_ints {fuel:Nat} {a0:Option Addr} {len0 cap0:Nat} {x:DataW H × List MemPlace} (ht:P.underlying t = some (.slice e)) (he:P.underlying e = some (.int .i64)) (hc:P.cellsOf e = 1)
 (hf:DataW.trod enc P W 0 (fun _=>true) true fuel t [.slice a0 len0 cap0] = some x) :
 ∃ xs:List Int,Row W 0 W.heap.size (.slice a0 len0 cap0) (xs.map (Value.int .i64))∧xs.length ≤ maxLen:=by
 rcases open_ints ht he hc hf with ⟨hcs,_⟩ | ⟨a,len,cap,ss,hcs,_,hl,hm,hz,_,hcell,hsz⟩
 ·have hcs':Value.slice a0 len0 cap0 = .slice none 0 0:=by simpa using hcs
  cases hcs'
  exact ⟨[],Row.nil_ _ _,by simp⟩
 ·have hcs':Value.slice a0 len0 cap0 = .slice (some a) len cap:=by simpa using hcs
  obtain ⟨rfl,rfl,rfl⟩:a0 = some a∧len = len0∧cap = cap0:=by cases hcs';exact ⟨rfl,rfl,rfl⟩
  have hzl:ss.length = cap:=by simpa using hz
  have hlen:(ss.take len).length = len:=by rw [List.length_take];omega
  refine ⟨ss.take len,⟨some a,cap,by rw [List.length_map,hlen],fun j u hu=>?_⟩,by omega⟩
  rw [List.getElem?_map] at hu
  obtain ⟨s,hs,rfl⟩:=Option.map_eq_some_iff.1 hu
  have hj:j < len:=by rw [← hlen];exact (List.getElem?_eq_some_iff.1 hs).1
  have hs':ss[j]? = some s:=by rw [← hs,List.getElem?_take_of_lt hj]
  have hc1:=hcell j (by omega)
  rw [List.getD_eq_getElem?_getD,hs'] at hc1
  exact ⟨a,rfl,Nat.zero_le _,by have:=cell_lt hc1;rwa [block_add] at this,hc1⟩
end
theorem Tryz.cellsSigned:Tryz.prog.cellsOf 27 = 2:=by kernel_rfl
theorem Tryz.cellsInt1:Tryz.prog.cellsOf 3 = 1:=by kernel_rfl
end Go.Proofs.YtipbdpdmefcofabGreatDoor
namespace Go.Proofs.YtipbdpdmefcofabGreatDoor
open Go.ChangeShapes Go.WideShapes Go.ChangeAt Go.RowKit Go.Joins
theorem Tryz.cellsRate:Tryz.prog.cellsOf 74 = 5:=by kernel_rfl
theorem rate_cells {H:Type} {enc:TypeId × Value→H} {W:World} {fuel:Nat} {c0 c1 c2 c3 c4:Value} {y:DataW H × List MemPlace}
 (hf:DataW.trod enc Tryz.prog W 0 (fun _=>true) true fuel 74 [c0,c1,c2,c3,c4] = some y) :
 ∃ x:EI,∃ u,c0 = .string x.1∧c1 = .string x.2.1∧c2 = .bool x.2.2.1.1∧c3 = u∧c4 = .int .i64 x.2.2.2∧Row W 0 W.heap.size u (intsV x.2.2.1.2)∧x.1.size ≤ maxLen∧x.2.1.size ≤ maxLen∧x.2.2.1.2.length ≤ maxLen:=by
 obtain ⟨y0,y1,y2,n,hx,_,h0,h1,h2⟩:=Go.Deep.trod_struct3 Tryz.underlying74 hf
 have kd:Tryz.prog.cellsOf 72 = 3:=by kernel_rfl
 have ks:Tryz.prog.cellsOf 27 = 2:=Tryz.cellsSigned
 have ki:Tryz.prog.cellsOf 25 = 1:=by kernel_rfl
 have kn:Tryz.prog.cellsOf 3 = 1:=Tryz.cellsInt1
 have kt:Tryz.prog.cellsOf 9 = 1:=by kernel_rfl
 have kb:Tryz.prog.cellsOf 4 = 1:=by kernel_rfl
 simp only [kd,kt,List.drop_zero,List.take_succ_cons,List.take_zero,List.drop_succ_cons] at h0 h1 h2
 obtain ⟨z0,z1,m,_,_,g0,g1⟩:=trod_struct2 Tryz.underlying72 h2
 simp only [ks,kn,List.drop_zero,List.take_succ_cons,List.take_zero,List.drop_succ_cons] at g0 g1
 obtain ⟨q0,q1,m2,_,_,k0,k1⟩:=trod_struct2 Tryz.underlying27 g0
 simp only [kb,ki,List.drop_zero,List.take_succ_cons,List.take_zero,List.drop_succ_cons] at k0 k1
 obtain ⟨s0,e0,_,hs0⟩:=DataW.trod_string Tryz.underlying9 h0
 obtain ⟨s1,e1,_,hs1⟩:=DataW.trod_string Tryz.underlying9 h1
 obtain ⟨b,e2,_⟩:=DataW.trod_bool Tryz.underlying4 k0
 obtain ⟨a1,l1,cc1,e3⟩:=slice_form Tryz.underlying25 k1
 obtain ⟨k,e4,_,_⟩:=DataW.trod_int Tryz.underlying3 g1
 simp at e0 e1 e2 e3 e4
 subst e0 e1 e2 e3 e4
 obtain ⟨xs,hr,hl⟩:=cell_ints Tryz.underlying25 Tryz.underlying3 Tryz.cellsInt1 k1
 exact ⟨(s0,s1,(b,xs),k),_,rfl,rfl,rfl,rfl,rfl,hr,hs0,hs1,hl⟩
theorem cells_five {w:World} {base:Nat} {a:Addr} {cs:List Value} (h:w.cells? base a 5 = some cs):∃ c0 c1 c2 c3 c4,cs = [c0,c1,c2,c3,c4]∧w.cell? a = some c0∧w.cell? ⟨a.block,a.off+1,none⟩ = some c1∧w.cell? ⟨a.block,a.off+2,none⟩ = some c2∧w.cell? ⟨a.block,a.off+3,none⟩ = some c3∧w.cell? ⟨a.block,a.off+4,none⟩ = some c4:=by
 unfold World.cells? at h
 split at h
 ·rw [show List.range 5 = [0,1,2,3,4] from rfl] at h
  simp only [List.mapM_cons,List.mapM_nil,Option.bind_eq_bind,Option.pure_def,Option.bind_eq_some_iff,Option.some.injEq] at h
  obtain ⟨c0,h0,r,⟨c1,h1,r2,⟨c2,h2,r3,⟨c3,h3,r4,⟨c4,h4,s,rfl,rfl⟩,rfl⟩,rfl⟩,rfl⟩,rfl⟩:=h
  exact ⟨c0,c1,c2,c3,c4,rfl,by simpa [Addr.add] using h0,by simpa [Addr.add] using h1,by simpa [Addr.add] using h2,by simpa [Addr.add] using h3,by simpa [Addr.add] using h4⟩
 ·cases h
def EachE (W:World) (a:Addr) (i:Nat) (x:EI):Prop:=∃ u,a.block < W.heap.size∧W.cell? (a.add (i * 5)) = some (.string x.1)∧W.cell? ⟨(a.add (i * 5)).block,(a.add (i * 5)).off+1,none⟩ = some (.string x.2.1)∧W.cell? ⟨(a.add (i * 5)).block,(a.add (i * 5)).off+2,none⟩ = some (.bool x.2.2.1.1)∧W.cell? ⟨(a.add (i * 5)).block,(a.add (i * 5)).off+3,none⟩ = some u∧W.cell? ⟨(a.add (i * 5)).block,(a.add (i * 5)).off+4,none⟩ = some (.int .i64 x.2.2.2)∧Row W 0 W.heap.size u (intsV x.2.2.1.2)∧capE x
set_option maxHeartbeats 400000 in
theorem cell_rates {H:Type} {enc:TypeId × Value→H} {W:World} {fuel:Nat} {a0:Option Addr} {len0 cap0:Nat} {y:DataW H × List MemPlace}
 (hf:DataW.trod enc Tryz.prog W 0 (fun _=>true) true fuel 22 [.slice a0 len0 cap0] = some y):∃ l:List EI,RdEL W (.slice a0 len0 cap0) l∧l.length ≤ maxLen∧∀ x ∈ l,capE x:=by
 rcases DataW.trod_slice Tryz.underlying22 hf with ⟨hcs,_⟩ | ⟨a,len,cap,elems,rest,n,_,hcs,_,_,hl,hm,hel,hcell,_,_⟩
 ·have hcs':Value.slice a0 len0 cap0 = .slice none 0 0:=by simpa [Value.cells] using hcs
  cases hcs'
  exact ⟨[],⟨_,_,rfl,fun j x hj=>by simp at hj⟩,by simp,fun x hx=>by cases hx⟩
 ·have hcs':Value.slice a0 len0 cap0 = .slice (some a) len cap:=by simpa [Value.cells] using hcs
  obtain ⟨rfl,rfl,rfl⟩:a0 = some a∧len = len0∧cap = cap0:=by cases hcs';exact ⟨rfl,rfl,rfl⟩
  have each:∀ i,i < len→∃ x:EI,EachE W a i x:=by
   intro i hi
   have hc:=hcell i hi
   rw [Tryz.cellsRate,List.getElem?_eq_getElem (by omega),Option.bind_eq_some_iff] at hc
   obtain ⟨cs,hcs,hd⟩:=hc
   obtain ⟨c0,c1,c2,c3,c4,rfl,h0,h1,h2,h3,h4⟩:=cells_five hcs
   obtain ⟨x,u,rfl,rfl,rfl,rfl,rfl,hr,hs,hs2,hxl⟩:=rate_cells hd
   exact ⟨x,_,by have:=cell_lt h0;rwa [block_add] at this,h0,h1,h2,h3,h4,hr,by unfold maxLen at hs hs2 hxl;unfold capE;omega⟩
  obtain ⟨f,hF⟩:∃ f:Nat→EI,∀ i,i < len→EachE W a i (f i):=by
   refine ⟨fun i=>if h:i < len then Classical.choose (each i h) else (⟨#[]⟩,⟨#[]⟩,(false,[]),0),fun i hi=>?_⟩
   simp only [dif_pos hi]
   exact Classical.choose_spec (each i hi)
  have hlen:((List.range len).map f).length = len:=by simp
  refine ⟨(List.range len).map f,⟨some a,cap,by rw [hlen],fun j x hj=>?_⟩,by rw [hlen];omega,fun x hx=>?_⟩
  ·have hjl:j < len:=by rw [← hlen];exact (List.getElem?_eq_some_iff.1 hj).1
   have hx:x = f j:=by
    rw [List.getElem?_map,List.getElem?_range hjl] at hj
    simpa using hj.symm
   subst hx
   obtain ⟨u,h1,h2,h3,h4,h5,h6,h7,_⟩:=hF j hjl
   exact ⟨a,u,rfl,h1,h2,h3,h4,h5,h6,h7⟩
  ·obtain ⟨i,hi,rfl⟩:=List.mem_map.1 hx
   obtain ⟨_,_,_,_,_,_,_,_,h5⟩:=hF i (by simpa using hi)
   exact h5
theorem Tryz.cellsRates:Tryz.prog.cellsOf 24 = 2:=by kernel_rfl
set_option maxHeartbeats 400000 in
theorem arg_rates {H:Type} {enc:TypeId × Value→H} {W:World} {base:Nat} {v:Value} {d:DataW H} {p:List MemPlace}
 (hv:Value.okWide Tryz.prog W .any base 24 v) (h:DataW.Trod enc Tryz.prog W 0 (fun _=>true) true 24 v d p):∃ x:TI,RdT W v x∧capT x:=by
 obtain ⟨cs,rfl,hsz⟩:=okWide_struct Tryz.underlying24 hv
 obtain ⟨c0,c1,rfl⟩:=array2 (hsz.trans Tryz.cellsRates)
 obtain ⟨fuel,hf⟩:=h
 obtain ⟨y0,y1,n,hx,_,h0,h1⟩:=trod_struct2 Tryz.underlying24 hf
 have kt:Tryz.prog.cellsOf 9 = 1:=by kernel_rfl
 have kl:Tryz.prog.cellsOf 22 = 1:=by kernel_rfl
 simp only [Value.cells,kt,kl,List.drop_zero,List.take_succ_cons,List.take_zero,List.drop_succ_cons] at h0 h1
 obtain ⟨s,e0,_,hs⟩:=DataW.trod_string Tryz.underlying9 h0
 obtain ⟨a1,l1,cc1,e1⟩:=slice_form Tryz.underlying22 h1
 simp at e0 e1
 subst e0 e1
 obtain ⟨l,hr,hl,hx⟩:=cell_rates h1
 exact ⟨(s,l),⟨_,rfl,hr⟩,by unfold maxLen at hs;exact hs,by unfold maxLen at hl;exact hl,hx⟩
theorem Tryz.cellsMoney:Tryz.prog.cellsOf 29 = 3:=by kernel_rfl
theorem money_cells {H:Type} {enc:TypeId × Value→H} {W:World} {fuel:Nat} {c0 c1 c2:Value} {y:DataW H × List MemPlace}
 (hf:DataW.trod enc Tryz.prog W 0 (fun _=>true) true fuel 29 [c0,c1,c2] = some y) :
 ∃ x:MI,∃ u,c0 = .string x.1∧c1 = .bool x.2.1∧c2 = u∧Row W 0 W.heap.size u (intsV x.2.2)∧x.1.size ≤ maxLen∧x.2.2.length ≤ maxLen:=by
 obtain ⟨y0,y1,n,hx,_,h0,h1⟩:=trod_struct2 Tryz.underlying29 hf
 have k0:Tryz.prog.cellsOf 27 = 2:=Tryz.cellsSigned
 have k1:Tryz.prog.cellsOf 25 = 1:=by kernel_rfl
 have k2:Tryz.prog.cellsOf 9 = 1:=by kernel_rfl
 have kb:Tryz.prog.cellsOf 4 = 1:=by kernel_rfl
 simp only [k0,k2,List.drop_zero,List.take_succ_cons,List.take_zero,List.drop_succ_cons] at h0 h1
 obtain ⟨z0,z1,m,_,_,g0,g1⟩:=trod_struct2 Tryz.underlying27 h1
 simp only [kb,k1,List.drop_zero,List.take_succ_cons,List.take_zero,List.drop_succ_cons] at g0 g1
 obtain ⟨s,e2,_,hs⟩:=DataW.trod_string Tryz.underlying9 h0
 obtain ⟨b,e0,_⟩:=DataW.trod_bool Tryz.underlying4 g0
 obtain ⟨a1,l1,cc1,e1⟩:=slice_form Tryz.underlying25 g1
 simp at e0 e1 e2
 subst e0 e1 e2
 obtain ⟨xs,hr,hl⟩:=cell_ints Tryz.underlying25 Tryz.underlying3 Tryz.cellsInt1 g1
 exact ⟨(s,(b,xs)),_,rfl,rfl,rfl,hr,hs,hl⟩
set_option maxHeartbeats 400000 in
theorem arg_money {H:Type} {enc:TypeId × Value→H} {W:World} {base:Nat} {v:Value} {d:DataW H} {p:List MemPlace}
 (hv:Value.okWide Tryz.prog W .any base 29 v) (h:DataW.Trod enc Tryz.prog W 0 (fun _=>true) true 29 v d p):∃ x:MI,RdM W v x∧x.1.size ≤ maxLen∧x.2.2.length ≤ maxLen:=by
 obtain ⟨cs,rfl,hsz⟩:=okWide_struct Tryz.underlying29 hv
 obtain ⟨c0,c1,c2,rfl⟩:=array3 (hsz.trans Tryz.cellsMoney)
 obtain ⟨fuel,hf⟩:=h
 obtain ⟨x,u,rfl,rfl,rfl,hr,h1,h2⟩:=money_cells (by simpa [Value.cells] using hf)
 exact ⟨x,⟨_,rfl,hr⟩,h1,h2⟩
end Go.Proofs.YtipbdpdmefcofabGreatDoor
