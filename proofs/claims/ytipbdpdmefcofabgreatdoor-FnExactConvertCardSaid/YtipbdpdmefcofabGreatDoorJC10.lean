import Derived.Deep.RegionHeld3
import Derived.Shelf.Abstract
import Derived.Maps.RangeWalk
import Derived.WideKeyEntry
import Derived.DeepKeys4
import Derived.Test.YtipbdpdmefcofabGreatDoorJC9
set_option maxRecDepth 100000
namespace Go.Proofs.YtipbdpdmefcofabGreatDoor
open Go.RowKit
theorem szS_ofZ (z:Int):szS (ofZ z) ≤ 1048576:=by have:=ofZ_len z;unfold szS szI;omega
theorem part_sz_left {r s:QI} (hr:Parts r) (hs:Parts s):szS (leftS r s) ≤ 1048576:=by rw [(leftS_eq hr hs).1];exact szS_ofZ _
theorem part_sz_right {r s:QI} (hr:Parts r) (hs:Parts s):szS (leftS s r) ≤ 1048576:=part_sz_left hs hr
theorem part_sz_numerators {r s:QI} (hr:Parts r) (hs:Parts s):szS (topS r s) ≤ 1048576:=by rw [(topS_eq hr hs).1];exact szS_ofZ _
theorem part_sz_denominators {r s:QI} (hr:Parts r) (hs:Parts s):szS (denS r s) ≤ 1048576:=by
 have h:=denS_eq hr hs
 rw [h.1]
 unfold szS szI
 simp only
 have:=h.2.2
 omega
theorem part_sz_sum {r s:QI} (_:Parts r) (_:Parts s):szS (addS (leftS r s) (leftS s r)) ≤ 1048576:=by unfold addS;split;exact szS_ofZ _;decide
theorem part_sz_difference {r s:QI} (_:Parts r) (_:Parts s):szS (subS (leftS r s) (leftS s r)) ≤ 1048576:=by unfold subS;split;exact szS_ofZ _;decide
theorem negQ_ok {s:QI} (h:(negQ s).2 = true):okQ s = true:=by
 unfold negQ at h
 split at h
 ·rename_i k;exact k
 ·cases h
theorem subQ_none {r s:QI} (h:¬ (okQ r = true∧okQ s = true)):subQ r s = (zeroQ,false):=by
 unfold subQ
 split
 ·rename_i k
  have ks:=negQ_ok k
  unfold addQ
  rw [if_neg (fun e=>h ⟨e.1,ks⟩)]
 ·rfl
set_option maxHeartbeats 2000000 in
theorem combineRatAdd_any {Ar Br:Option Addr} {cr dr:Nat} {As Bs:Option Addr} {cs ds:Nat} (r s:QI) (w:World) (hzr:szQ r ≤ 1048576) (hzs:szQ s ≤ 1048576) (hsen:Sen w) (hr:OwnQ (.agg #[.bool r.1.1,.slice Ar r.1.2.length cr,.slice Br r.2.length dr]) r w) (hs:OwnQ (.agg #[.bool s.1.1,.slice As s.1.2.length cs,.slice Bs s.2.length ds]) s w) :
 Calls Tryz.prog 137 #[.agg #[.bool r.1.1,.slice Ar r.1.2.length cr,.slice Br r.2.length dr,.bool s.1.1,.slice As s.1.2.length cs,.slice Bs s.2.length ds],.func (.func 138) #[.agg #[.bool r.1.1,.slice Ar r.1.2.length cr,.slice Br r.2.length dr,.bool s.1.1,.slice As s.1.2.length cs,.slice Bs s.2.length ds]] #[],.func (.func 139) #[.agg #[.bool r.1.1,.slice Ar r.1.2.length cr,.slice Br r.2.length dr,.bool s.1.1,.slice As s.1.2.length cs,.slice Bs s.2.length ds]] #[]] w (PostQb (addQ r s).1 (addQ r s).2 w):=by
 have HS:=Lib.hid hsen
 clear hsen
 have Hr:=Lib.hid hr
 have OQr:=Lib.hid (show ∀ W,Below w.heap.size w W→OwnQ (.agg #[.bool r.1.1,.slice Ar r.1.2.length cr,.slice Br r.2.length dr]) r W from fun W hb=>OwnQ.below Hr.out hb)
 have OUr:=Lib.hid (show ∀ W,Below w.heap.size w W→OwnI (.slice Ar r.1.2.length cr) r.1.2 W from fun W hb=>(ownQ_open (OQr.out W hb)).2.1)
 have ODr:=Lib.hid (show ∀ W,Below w.heap.size w W→OwnI (.slice Br r.2.length dr) r.2 W from fun W hb=>(ownQ_open (OQr.out W hb)).2.2.1)
 have OSr:=Lib.hid (show ∀ W,Below w.heap.size w W→OwnS (.agg #[.bool r.1.1,.slice Ar r.1.2.length cr]) r.1 W from fun W hb=>OwnS.mk (OUr.out W hb))
 clear hr
 have Hs:=Lib.hid hs
 have OQs:=Lib.hid (show ∀ W,Below w.heap.size w W→OwnQ (.agg #[.bool s.1.1,.slice As s.1.2.length cs,.slice Bs s.2.length ds]) s W from fun W hb=>OwnQ.below Hs.out hb)
 have OUs:=Lib.hid (show ∀ W,Below w.heap.size w W→OwnI (.slice As s.1.2.length cs) s.1.2 W from fun W hb=>(ownQ_open (OQs.out W hb)).2.1)
 have ODs:=Lib.hid (show ∀ W,Below w.heap.size w W→OwnI (.slice Bs s.2.length ds) s.2 W from fun W hb=>(ownQ_open (OQs.out W hb)).2.2.1)
 have OSs:=Lib.hid (show ∀ W,Below w.heap.size w W→OwnS (.agg #[.bool s.1.1,.slice As s.1.2.length cs]) s.1 W from fun W hb=>OwnS.mk (OUs.out W hb))
 clear hs
 have bb0:Below w.heap.size w ((w.alloc (.cells #[.bool r.1.1,.slice Ar r.1.2.length cr,.slice Br r.2.length dr,.bool s.1.1,.slice As s.1.2.length cs,.slice Bs s.2.length ds] 189)).alloc (.cells #[.bool false,.slice none 0 0,.slice none 0 0] 36)):=below_al (below_al (Below.refl _ _) _) _
 have kp:=(box_new w #[.bool r.1.1,.slice Ar r.1.2.length cr,.slice Br r.2.length dr,.bool s.1.1,.slice As s.1.2.length cs,.slice Bs s.2.length ds] 189).below (below_al (Below.refl _ _) (.cells #[.bool false,.slice none 0 0,.slice none 0 0] 36))
 have ko:=(box_new (w.alloc (.cells #[.bool r.1.1,.slice Ar r.1.2.length cr,.slice Br r.2.length dr,.bool s.1.1,.slice As s.1.2.length cs,.slice Bs s.2.length ds] 189)) #[.bool false,.slice none 0 0,.slice none 0 0] 36)
 rw [show (w.alloc (.cells #[.bool r.1.1,.slice Ar r.1.2.length cr,.slice Br r.2.length dr,.bool s.1.1,.slice As s.1.2.length cs,.slice Bs s.2.length ds] 189)).heap.size = w.heap.size+1 by simp] at ko
 have HKO:=Lib.hid (ko.lt (w.heap.size+1) (by simp))
 go_enter Tryz.func137,Tryz.ntmps137
 have kp_c0:=kp.here.cell 0 _ rfl
 have kp_c1:=kp.here.cell 1 _ rfl
 have kp_c2:=kp.here.cell 2 _ rfl
 have kp_c3:=kp.here.cell 3 _ rfl
 have kp_c4:=kp.here.cell 4 _ rfl
 have kp_c5:=kp.here.cell 5 _ rfl
 go_wp2_with fail
 clear kp_c0 kp_c1 kp_c2 kp_c3 kp_c4 kp_c5
 refine (ok_any r s _ hzr hzs (HS.out.below bb0) (OQr.out _ bb0) (OQs.out _ bb0)).mono ?_
 rintro e w1 ⟨rfl,b1⟩
 have bb1:=Below.next bb0 b1
 replace kp:=kp.below b1
 replace ko:=ko.below b1
 by_cases hok:(okQ r && okQ s) = true
 ·rw [hok]
  have hok2:=(Bool.and_eq_true _ _ ▸ hok:okQ r = true∧okQ s = true)
  have HPr:=Lib.hid (parts_of hok2.1)
  have HPs:=Lib.hid (parts_of hok2.2)
  obtain ⟨N,hN⟩:∃ N,addS (leftS r s) (leftS s r) = N:=⟨_,rfl⟩
  obtain ⟨D,hD⟩:∃ D,denS r s = D:=⟨_,rfl⟩
  obtain ⟨Q,hQ⟩:∃ Q,makeQ N D = Q:=⟨_,rfl⟩
  have EN:=Lib.hid hN
  have ED:=Lib.hid hD
  have EQ:=Lib.hid hQ
  have HV:=Lib.hid (show addQ r s = Q by rw [← hQ,← hN,← hD];exact (addQ_make HPr.out HPs.out hok2.1 hok2.2).symm)
  have hzN:szS N ≤ 1048576:=by rw [← hN];exact part_sz_sum HPr.out HPs.out
  have hzD:szS D ≤ 1048576:=by rw [← hD];exact part_sz_denominators HPr.out HPs.out
  clear hok hok2 hN hD hQ
  go_wp2_with fail
  refine ((sum_any r s _ HPr.out HPs.out (OQr.out _ bb1) (OQs.out _ bb1)).mono fun _ _ h=>newVS_eq EN.out h).mono ?_
  rintro e w2 ⟨un,Sn,rfl,on,ln,b2⟩
  obtain ⟨An,cn,rfl⟩:=ownS_form on.here
  have bb2:=Below.next bb1 b2
  replace kp:=kp.below b2
  replace ko:=ko.below b2
  go_wp2_with fail
  refine ((denominators_any r s _ HPr.out HPs.out (OQr.out _ bb2) (OQs.out _ bb2)).mono fun _ _ h=>newVS_eq ED.out h).mono ?_
  rintro e w3 ⟨ud,Sd,rfl,od,ld,b3⟩
  obtain ⟨Ad,cd,rfl⟩:=ownS_form od.here
  have bb3:=Below.next bb2 b3
  replace kp:=kp.below b3
  replace ko:=ko.below b3
  replace on:=on.below b3
  have hz1:=b1.size
  have hz2:=b2.size
  have hz3:=b3.size
  go_wp2_with fail
  refine ((implRatMake_any _ _ N D _ hzN hzD on.here od.here (HS.out.below bb3)).mono fun _ _ h=>postQb_eq EQ.out h).mono ?_
  rintro e w4 ⟨uf,Sf,rfl,of,lf,b4⟩
  obtain ⟨Af,cf,Bf,df,rfl⟩:=ownQ_form of.here
  have bb4:=Below.next bb3 b4
  replace kp:=kp.below b4
  replace ko:=ko.below b4
  replace on:=on.below b4
  replace od:=od.below b4
  clear on od
  have HW:=Lib.hid (newQb_at (r:=w.heap.size+1) (b:=Q.2) of lf (by have:=HKO.out;omega) (by omega) bb4)
  have cz0:=ko.here.cell 0 _ rfl
  have fz0:=Lib.frozen_of_heap ko.here 0
  have cz1:=ko.here.cell 1 _ rfl
  have fz1:=Lib.frozen_of_heap ko.here 1
  have cz2:=ko.here.cell 2 _ rfl
  have fz2:=Lib.frozen_of_heap ko.here 2
  clear of ko
  go_wp2
  refine bodyPost_ret (v:=.tuple #[.agg #[.bool _,.slice Af _ cf,.slice Bf _ df],.bool _]) (by simp [results,Tryz.results137,go_sem,cz0,cz1,cz2];exact ⟨⟨rfl,rfl,rfl⟩,rfl⟩) rfl ?_
  rw [HV.out]
  exact HW.out
 ·have hok':(okQ r && okQ s) = false:=by simpa using hok
  have HV:=Lib.hid (show addQ r s = (zeroQ,false) by unfold addQ;rw [if_neg (fun h=>hok (by rw [h.1,h.2];rfl))])
  rw [hok']
  clear hok hok'
  have ko_c0:=ko.here.cell 0 _ rfl
  have ko_c1:=ko.here.cell 1 _ rfl
  have ko_c2:=ko.here.cell 2 _ rfl
  have cz0:=ko.here.cell 0 _ rfl
  have fz0:=Lib.frozen_of_heap ko.here 0
  have cz1:=ko.here.cell 1 _ rfl
  have fz1:=Lib.frozen_of_heap ko.here 1
  have cz2:=ko.here.cell 2 _ rfl
  have fz2:=Lib.frozen_of_heap ko.here 2
  go_wp2
  refine bodyPost_ret (v:=.tuple #[.agg #[.bool false,.slice none 0 0,.slice none 0 0],.bool false]) (by simp [results,Tryz.results137,go_sem,cz0,cz1,cz2]) rfl ?_
  rw [HV.out]
  first | exact newQb_zero _ bb1 | exact newQb_zero _ (below_set3 bb1 (by omega))
set_option maxHeartbeats 2000000 in
theorem implRatAdd_any (vr vs:Value) (r s:QI) (w:World) (hzr:szQ r ≤ 1048576) (hzs:szQ s ≤ 1048576) (hr:OwnQ vr r w) (hs:OwnQ vs s w) (hsen:Sen w) :
 Calls Tryz.prog 107 #[vr,vs] w (PostQb (addQ r s).1 (addQ r s).2 w):=by
 have HS:=Lib.hid hsen
 clear hsen
 have Hr:=Lib.hid hr
 obtain ⟨Ar,cr,Br,dr,rfl⟩:=ownQ_form hr
 have OQr:=Lib.hid (show ∀ W,Below w.heap.size w W→OwnQ (.agg #[.bool r.1.1,.slice Ar r.1.2.length cr,.slice Br r.2.length dr]) r W from fun W hb=>OwnQ.below Hr.out hb)
 have OUr:=Lib.hid (show ∀ W,Below w.heap.size w W→OwnI (.slice Ar r.1.2.length cr) r.1.2 W from fun W hb=>(ownQ_open (OQr.out W hb)).2.1)
 have ODr:=Lib.hid (show ∀ W,Below w.heap.size w W→OwnI (.slice Br r.2.length dr) r.2 W from fun W hb=>(ownQ_open (OQr.out W hb)).2.2.1)
 have OSr:=Lib.hid (show ∀ W,Below w.heap.size w W→OwnS (.agg #[.bool r.1.1,.slice Ar r.1.2.length cr]) r.1 W from fun W hb=>OwnS.mk (OUr.out W hb))
 clear hr
 have Hs:=Lib.hid hs
 obtain ⟨As,cs,Bs,ds,rfl⟩:=ownQ_form hs
 have OQs:=Lib.hid (show ∀ W,Below w.heap.size w W→OwnQ (.agg #[.bool s.1.1,.slice As s.1.2.length cs,.slice Bs s.2.length ds]) s W from fun W hb=>OwnQ.below Hs.out hb)
 have OUs:=Lib.hid (show ∀ W,Below w.heap.size w W→OwnI (.slice As s.1.2.length cs) s.1.2 W from fun W hb=>(ownQ_open (OQs.out W hb)).2.1)
 have ODs:=Lib.hid (show ∀ W,Below w.heap.size w W→OwnI (.slice Bs s.2.length ds) s.2 W from fun W hb=>(ownQ_open (OQs.out W hb)).2.2.1)
 have OSs:=Lib.hid (show ∀ W,Below w.heap.size w W→OwnS (.agg #[.bool s.1.1,.slice As s.1.2.length cs]) s.1 W from fun W hb=>OwnS.mk (OUs.out W hb))
 clear hs
 have hmf:∀ (fn:Fn) (first cap:Array Value) (w:World),(Instr.makeFunc fn first cap).run Tryz.prog w = .ok (.func fn first cap) w:=fun _ _ _ _=>rfl
 have bb0:Below w.heap.size w ((((w.alloc (.cells #[.bool r.1.1,.slice Ar r.1.2.length cr,.slice Br r.2.length dr] 36)).alloc (.cells #[.bool s.1.1,.slice As s.1.2.length cs,.slice Bs s.2.length ds] 36)).alloc (.cells #[.bool false,.slice none 0 0,.slice none 0 0] 36)).alloc (.cells #[.bool r.1.1,.slice Ar r.1.2.length cr,.slice Br r.2.length dr,.bool s.1.1,.slice As s.1.2.length cs,.slice Bs s.2.length ds] 189)):=below_al (below_al (below_al (below_al (Below.refl _ _) _) _) _) _
 have kr:=(box_new w #[.bool r.1.1,.slice Ar r.1.2.length cr,.slice Br r.2.length dr] 36).below (below_al (below_al (below_al (Below.refl _ _) (.cells #[.bool s.1.1,.slice As s.1.2.length cs,.slice Bs s.2.length ds] 36)) (.cells #[.bool false,.slice none 0 0,.slice none 0 0] 36)) (.cells #[.bool r.1.1,.slice Ar r.1.2.length cr,.slice Br r.2.length dr,.bool s.1.1,.slice As s.1.2.length cs,.slice Bs s.2.length ds] 189))
 have ks:=(box_new (w.alloc (.cells #[.bool r.1.1,.slice Ar r.1.2.length cr,.slice Br r.2.length dr] 36)) #[.bool s.1.1,.slice As s.1.2.length cs,.slice Bs s.2.length ds] 36).below (below_al (below_al (Below.refl _ _) (.cells #[.bool false,.slice none 0 0,.slice none 0 0] 36)) (.cells #[.bool r.1.1,.slice Ar r.1.2.length cr,.slice Br r.2.length dr,.bool s.1.1,.slice As s.1.2.length cs,.slice Bs s.2.length ds] 189))
 rw [show (w.alloc (.cells #[.bool r.1.1,.slice Ar r.1.2.length cr,.slice Br r.2.length dr] 36)).heap.size = w.heap.size+1 by simp] at ks
 have ko:=(box_new ((w.alloc (.cells #[.bool r.1.1,.slice Ar r.1.2.length cr,.slice Br r.2.length dr] 36)).alloc (.cells #[.bool s.1.1,.slice As s.1.2.length cs,.slice Bs s.2.length ds] 36)) #[.bool false,.slice none 0 0,.slice none 0 0] 36).below (below_al (Below.refl _ _) (.cells #[.bool r.1.1,.slice Ar r.1.2.length cr,.slice Br r.2.length dr,.bool s.1.1,.slice As s.1.2.length cs,.slice Bs s.2.length ds] 189))
 rw [show ((w.alloc (.cells #[.bool r.1.1,.slice Ar r.1.2.length cr,.slice Br r.2.length dr] 36)).alloc (.cells #[.bool s.1.1,.slice As s.1.2.length cs,.slice Bs s.2.length ds] 36)).heap.size = w.heap.size+1+1 by simp] at ko
 have kp:=(box_new (((w.alloc (.cells #[.bool r.1.1,.slice Ar r.1.2.length cr,.slice Br r.2.length dr] 36)).alloc (.cells #[.bool s.1.1,.slice As s.1.2.length cs,.slice Bs s.2.length ds] 36)).alloc (.cells #[.bool false,.slice none 0 0,.slice none 0 0] 36)) #[.bool r.1.1,.slice Ar r.1.2.length cr,.slice Br r.2.length dr,.bool s.1.1,.slice As s.1.2.length cs,.slice Bs s.2.length ds] 189)
 rw [show (((w.alloc (.cells #[.bool r.1.1,.slice Ar r.1.2.length cr,.slice Br r.2.length dr] 36)).alloc (.cells #[.bool s.1.1,.slice As s.1.2.length cs,.slice Bs s.2.length ds] 36)).alloc (.cells #[.bool false,.slice none 0 0,.slice none 0 0] 36)).heap.size = w.heap.size+1+1+1 by simp] at kp
 have HKO:=Lib.hid (ko.lt (w.heap.size+1+1) (by simp))
 obtain ⟨Q,hQ⟩:∃ Q,addQ r s = Q:=⟨_,rfl⟩
 have EQ:=Lib.hid hQ
 rw [hQ]
 clear hQ
 go_enter Tryz.func107,Tryz.ntmps107
 have hz1:=HKO.out
 go_wp2_with fail
 refine ((combineRatAdd_any r s _ hzr hzs (HS.out.below bb0) (OQr.out _ bb0) (OQs.out _ bb0)).mono fun _ _ h=>postQb_eq EQ.out h).mono ?_
 rintro e w1 ⟨uf,Sf,rfl,of,lf,b1⟩
 obtain ⟨Af,cf,Bf,df,rfl⟩:=ownQ_form of.here
 have bb1:=Below.next bb0 b1
 replace kr:=kr.below b1
 replace ks:=ks.below b1
 replace ko:=ko.below b1
 replace kp:=kp.below b1
 have HW:=Lib.hid (newQb_at (r:=w.heap.size+1+1) (b:=Q.2) of lf HKO.out (by omega) bb1)
 have cz0:=ko.here.cell 0 _ rfl
 have fz0:=Lib.frozen_of_heap ko.here 0
 have cz1:=ko.here.cell 1 _ rfl
 have fz1:=Lib.frozen_of_heap ko.here 1
 have cz2:=ko.here.cell 2 _ rfl
 have fz2:=Lib.frozen_of_heap ko.here 2
 clear of ko kp kr ks
 go_wp2
 refine bodyPost_ret (v:=.tuple #[.agg #[.bool _,.slice Af _ cf,.slice Bf _ df],.bool _]) (by simp [results,Tryz.results107,go_sem,cz0,cz1,cz2];exact ⟨⟨rfl,rfl,rfl⟩,rfl⟩) rfl ?_
 exact HW.out
set_option maxHeartbeats 2000000 in
theorem combineRatSub_any {Ar Br:Option Addr} {cr dr:Nat} {As Bs:Option Addr} {cs ds:Nat} (r s:QI) (w:World) (hzr:szQ r ≤ 1048576) (hzs:szQ s ≤ 1048576) (hsen:Sen w) (hr:OwnQ (.agg #[.bool r.1.1,.slice Ar r.1.2.length cr,.slice Br r.2.length dr]) r w) (hs:OwnQ (.agg #[.bool s.1.1,.slice As s.1.2.length cs,.slice Bs s.2.length ds]) s w) :
 Calls Tryz.prog 137 #[.agg #[.bool r.1.1,.slice Ar r.1.2.length cr,.slice Br r.2.length dr,.bool s.1.1,.slice As s.1.2.length cs,.slice Bs s.2.length ds],.func (.func 161) #[.agg #[.bool r.1.1,.slice Ar r.1.2.length cr,.slice Br r.2.length dr,.bool s.1.1,.slice As s.1.2.length cs,.slice Bs s.2.length ds]] #[],.func (.func 139) #[.agg #[.bool r.1.1,.slice Ar r.1.2.length cr,.slice Br r.2.length dr,.bool s.1.1,.slice As s.1.2.length cs,.slice Bs s.2.length ds]] #[]] w (PostQb (subQ r s).1 (subQ r s).2 w):=by
 have HS:=Lib.hid hsen
 clear hsen
 have Hr:=Lib.hid hr
 have OQr:=Lib.hid (show ∀ W,Below w.heap.size w W→OwnQ (.agg #[.bool r.1.1,.slice Ar r.1.2.length cr,.slice Br r.2.length dr]) r W from fun W hb=>OwnQ.below Hr.out hb)
 have OUr:=Lib.hid (show ∀ W,Below w.heap.size w W→OwnI (.slice Ar r.1.2.length cr) r.1.2 W from fun W hb=>(ownQ_open (OQr.out W hb)).2.1)
 have ODr:=Lib.hid (show ∀ W,Below w.heap.size w W→OwnI (.slice Br r.2.length dr) r.2 W from fun W hb=>(ownQ_open (OQr.out W hb)).2.2.1)
 have OSr:=Lib.hid (show ∀ W,Below w.heap.size w W→OwnS (.agg #[.bool r.1.1,.slice Ar r.1.2.length cr]) r.1 W from fun W hb=>OwnS.mk (OUr.out W hb))
 clear hr
 have Hs:=Lib.hid hs
 have OQs:=Lib.hid (show ∀ W,Below w.heap.size w W→OwnQ (.agg #[.bool s.1.1,.slice As s.1.2.length cs,.slice Bs s.2.length ds]) s W from fun W hb=>OwnQ.below Hs.out hb)
 have OUs:=Lib.hid (show ∀ W,Below w.heap.size w W→OwnI (.slice As s.1.2.length cs) s.1.2 W from fun W hb=>(ownQ_open (OQs.out W hb)).2.1)
 have ODs:=Lib.hid (show ∀ W,Below w.heap.size w W→OwnI (.slice Bs s.2.length ds) s.2 W from fun W hb=>(ownQ_open (OQs.out W hb)).2.2.1)
 have OSs:=Lib.hid (show ∀ W,Below w.heap.size w W→OwnS (.agg #[.bool s.1.1,.slice As s.1.2.length cs]) s.1 W from fun W hb=>OwnS.mk (OUs.out W hb))
 clear hs
 have bb0:Below w.heap.size w ((w.alloc (.cells #[.bool r.1.1,.slice Ar r.1.2.length cr,.slice Br r.2.length dr,.bool s.1.1,.slice As s.1.2.length cs,.slice Bs s.2.length ds] 189)).alloc (.cells #[.bool false,.slice none 0 0,.slice none 0 0] 36)):=below_al (below_al (Below.refl _ _) _) _
 have kp:=(box_new w #[.bool r.1.1,.slice Ar r.1.2.length cr,.slice Br r.2.length dr,.bool s.1.1,.slice As s.1.2.length cs,.slice Bs s.2.length ds] 189).below (below_al (Below.refl _ _) (.cells #[.bool false,.slice none 0 0,.slice none 0 0] 36))
 have ko:=(box_new (w.alloc (.cells #[.bool r.1.1,.slice Ar r.1.2.length cr,.slice Br r.2.length dr,.bool s.1.1,.slice As s.1.2.length cs,.slice Bs s.2.length ds] 189)) #[.bool false,.slice none 0 0,.slice none 0 0] 36)
 rw [show (w.alloc (.cells #[.bool r.1.1,.slice Ar r.1.2.length cr,.slice Br r.2.length dr,.bool s.1.1,.slice As s.1.2.length cs,.slice Bs s.2.length ds] 189)).heap.size = w.heap.size+1 by simp] at ko
 have HKO:=Lib.hid (ko.lt (w.heap.size+1) (by simp))
 go_enter Tryz.func137,Tryz.ntmps137
 have kp_c0:=kp.here.cell 0 _ rfl
 have kp_c1:=kp.here.cell 1 _ rfl
 have kp_c2:=kp.here.cell 2 _ rfl
 have kp_c3:=kp.here.cell 3 _ rfl
 have kp_c4:=kp.here.cell 4 _ rfl
 have kp_c5:=kp.here.cell 5 _ rfl
 go_wp2_with fail
 clear kp_c0 kp_c1 kp_c2 kp_c3 kp_c4 kp_c5
 refine (ok_any r s _ hzr hzs (HS.out.below bb0) (OQr.out _ bb0) (OQs.out _ bb0)).mono ?_
 rintro e w1 ⟨rfl,b1⟩
 have bb1:=Below.next bb0 b1
 replace kp:=kp.below b1
 replace ko:=ko.below b1
 by_cases hok:(okQ r && okQ s) = true
 ·rw [hok]
  have hok2:=(Bool.and_eq_true _ _ ▸ hok:okQ r = true∧okQ s = true)
  have HPr:=Lib.hid (parts_of hok2.1)
  have HPs:=Lib.hid (parts_of hok2.2)
  obtain ⟨N,hN⟩:∃ N,subS (leftS r s) (leftS s r) = N:=⟨_,rfl⟩
  obtain ⟨D,hD⟩:∃ D,denS r s = D:=⟨_,rfl⟩
  obtain ⟨Q,hQ⟩:∃ Q,makeQ N D = Q:=⟨_,rfl⟩
  have EN:=Lib.hid hN
  have ED:=Lib.hid hD
  have EQ:=Lib.hid hQ
  have HV:=Lib.hid (show subQ r s = Q by rw [← hQ,← hN,← hD];exact (subQ_make HPr.out HPs.out hok2.1 hok2.2).symm)
  have hzN:szS N ≤ 1048576:=by rw [← hN];exact part_sz_difference HPr.out HPs.out
  have hzD:szS D ≤ 1048576:=by rw [← hD];exact part_sz_denominators HPr.out HPs.out
  clear hok hok2 hN hD hQ
  go_wp2_with fail
  refine ((difference_any r s _ HPr.out HPs.out (OQr.out _ bb1) (OQs.out _ bb1)).mono fun _ _ h=>newVS_eq EN.out h).mono ?_
  rintro e w2 ⟨un,Sn,rfl,on,ln,b2⟩
  obtain ⟨An,cn,rfl⟩:=ownS_form on.here
  have bb2:=Below.next bb1 b2
  replace kp:=kp.below b2
  replace ko:=ko.below b2
  go_wp2_with fail
  refine ((denominators_any r s _ HPr.out HPs.out (OQr.out _ bb2) (OQs.out _ bb2)).mono fun _ _ h=>newVS_eq ED.out h).mono ?_
  rintro e w3 ⟨ud,Sd,rfl,od,ld,b3⟩
  obtain ⟨Ad,cd,rfl⟩:=ownS_form od.here
  have bb3:=Below.next bb2 b3
  replace kp:=kp.below b3
  replace ko:=ko.below b3
  replace on:=on.below b3
  have hz1:=b1.size
  have hz2:=b2.size
  have hz3:=b3.size
  go_wp2_with fail
  refine ((implRatMake_any _ _ N D _ hzN hzD on.here od.here (HS.out.below bb3)).mono fun _ _ h=>postQb_eq EQ.out h).mono ?_
  rintro e w4 ⟨uf,Sf,rfl,of,lf,b4⟩
  obtain ⟨Af,cf,Bf,df,rfl⟩:=ownQ_form of.here
  have bb4:=Below.next bb3 b4
  replace kp:=kp.below b4
  replace ko:=ko.below b4
  replace on:=on.below b4
  replace od:=od.below b4
  clear on od
  have HW:=Lib.hid (newQb_at (r:=w.heap.size+1) (b:=Q.2) of lf (by have:=HKO.out;omega) (by omega) bb4)
  have cz0:=ko.here.cell 0 _ rfl
  have fz0:=Lib.frozen_of_heap ko.here 0
  have cz1:=ko.here.cell 1 _ rfl
  have fz1:=Lib.frozen_of_heap ko.here 1
  have cz2:=ko.here.cell 2 _ rfl
  have fz2:=Lib.frozen_of_heap ko.here 2
  clear of ko
  go_wp2
  refine bodyPost_ret (v:=.tuple #[.agg #[.bool _,.slice Af _ cf,.slice Bf _ df],.bool _]) (by simp [results,Tryz.results137,go_sem,cz0,cz1,cz2];exact ⟨⟨rfl,rfl,rfl⟩,rfl⟩) rfl ?_
  rw [HV.out]
  exact HW.out
 ·have hok':(okQ r && okQ s) = false:=by simpa using hok
  have HV:=Lib.hid (show subQ r s = (zeroQ,false) from subQ_none (fun h=>hok (by rw [h.1,h.2];rfl)))
  rw [hok']
  clear hok hok'
  have ko_c0:=ko.here.cell 0 _ rfl
  have ko_c1:=ko.here.cell 1 _ rfl
  have ko_c2:=ko.here.cell 2 _ rfl
  have cz0:=ko.here.cell 0 _ rfl
  have fz0:=Lib.frozen_of_heap ko.here 0
  have cz1:=ko.here.cell 1 _ rfl
  have fz1:=Lib.frozen_of_heap ko.here 1
  have cz2:=ko.here.cell 2 _ rfl
  have fz2:=Lib.frozen_of_heap ko.here 2
  go_wp2
  refine bodyPost_ret (v:=.tuple #[.agg #[.bool false,.slice none 0 0,.slice none 0 0],.bool false]) (by simp [results,Tryz.results137,go_sem,cz0,cz1,cz2]) rfl ?_
  rw [HV.out]
  first | exact newQb_zero _ bb1 | exact newQb_zero _ (below_set3 bb1 (by omega))
set_option maxHeartbeats 2000000 in
theorem implRatSub_any (vr vs:Value) (r s:QI) (w:World) (hzr:szQ r ≤ 1048576) (hzs:szQ s ≤ 1048576) (hr:OwnQ vr r w) (hs:OwnQ vs s w) (hsen:Sen w) :
 Calls Tryz.prog 132 #[vr,vs] w (PostQb (subQ r s).1 (subQ r s).2 w):=by
 have HS:=Lib.hid hsen
 clear hsen
 have Hr:=Lib.hid hr
 obtain ⟨Ar,cr,Br,dr,rfl⟩:=ownQ_form hr
 have OQr:=Lib.hid (show ∀ W,Below w.heap.size w W→OwnQ (.agg #[.bool r.1.1,.slice Ar r.1.2.length cr,.slice Br r.2.length dr]) r W from fun W hb=>OwnQ.below Hr.out hb)
 have OUr:=Lib.hid (show ∀ W,Below w.heap.size w W→OwnI (.slice Ar r.1.2.length cr) r.1.2 W from fun W hb=>(ownQ_open (OQr.out W hb)).2.1)
 have ODr:=Lib.hid (show ∀ W,Below w.heap.size w W→OwnI (.slice Br r.2.length dr) r.2 W from fun W hb=>(ownQ_open (OQr.out W hb)).2.2.1)
 have OSr:=Lib.hid (show ∀ W,Below w.heap.size w W→OwnS (.agg #[.bool r.1.1,.slice Ar r.1.2.length cr]) r.1 W from fun W hb=>OwnS.mk (OUr.out W hb))
 clear hr
 have Hs:=Lib.hid hs
 obtain ⟨As,cs,Bs,ds,rfl⟩:=ownQ_form hs
 have OQs:=Lib.hid (show ∀ W,Below w.heap.size w W→OwnQ (.agg #[.bool s.1.1,.slice As s.1.2.length cs,.slice Bs s.2.length ds]) s W from fun W hb=>OwnQ.below Hs.out hb)
 have OUs:=Lib.hid (show ∀ W,Below w.heap.size w W→OwnI (.slice As s.1.2.length cs) s.1.2 W from fun W hb=>(ownQ_open (OQs.out W hb)).2.1)
 have ODs:=Lib.hid (show ∀ W,Below w.heap.size w W→OwnI (.slice Bs s.2.length ds) s.2 W from fun W hb=>(ownQ_open (OQs.out W hb)).2.2.1)
 have OSs:=Lib.hid (show ∀ W,Below w.heap.size w W→OwnS (.agg #[.bool s.1.1,.slice As s.1.2.length cs]) s.1 W from fun W hb=>OwnS.mk (OUs.out W hb))
 clear hs
 have hmf:∀ (fn:Fn) (first cap:Array Value) (w:World),(Instr.makeFunc fn first cap).run Tryz.prog w = .ok (.func fn first cap) w:=fun _ _ _ _=>rfl
 have bb0:Below w.heap.size w ((((w.alloc (.cells #[.bool r.1.1,.slice Ar r.1.2.length cr,.slice Br r.2.length dr] 36)).alloc (.cells #[.bool s.1.1,.slice As s.1.2.length cs,.slice Bs s.2.length ds] 36)).alloc (.cells #[.bool false,.slice none 0 0,.slice none 0 0] 36)).alloc (.cells #[.bool r.1.1,.slice Ar r.1.2.length cr,.slice Br r.2.length dr,.bool s.1.1,.slice As s.1.2.length cs,.slice Bs s.2.length ds] 189)):=below_al (below_al (below_al (below_al (Below.refl _ _) _) _) _) _
 have kr:=(box_new w #[.bool r.1.1,.slice Ar r.1.2.length cr,.slice Br r.2.length dr] 36).below (below_al (below_al (below_al (Below.refl _ _) (.cells #[.bool s.1.1,.slice As s.1.2.length cs,.slice Bs s.2.length ds] 36)) (.cells #[.bool false,.slice none 0 0,.slice none 0 0] 36)) (.cells #[.bool r.1.1,.slice Ar r.1.2.length cr,.slice Br r.2.length dr,.bool s.1.1,.slice As s.1.2.length cs,.slice Bs s.2.length ds] 189))
 have ks:=(box_new (w.alloc (.cells #[.bool r.1.1,.slice Ar r.1.2.length cr,.slice Br r.2.length dr] 36)) #[.bool s.1.1,.slice As s.1.2.length cs,.slice Bs s.2.length ds] 36).below (below_al (below_al (Below.refl _ _) (.cells #[.bool false,.slice none 0 0,.slice none 0 0] 36)) (.cells #[.bool r.1.1,.slice Ar r.1.2.length cr,.slice Br r.2.length dr,.bool s.1.1,.slice As s.1.2.length cs,.slice Bs s.2.length ds] 189))
 rw [show (w.alloc (.cells #[.bool r.1.1,.slice Ar r.1.2.length cr,.slice Br r.2.length dr] 36)).heap.size = w.heap.size+1 by simp] at ks
 have ko:=(box_new ((w.alloc (.cells #[.bool r.1.1,.slice Ar r.1.2.length cr,.slice Br r.2.length dr] 36)).alloc (.cells #[.bool s.1.1,.slice As s.1.2.length cs,.slice Bs s.2.length ds] 36)) #[.bool false,.slice none 0 0,.slice none 0 0] 36).below (below_al (Below.refl _ _) (.cells #[.bool r.1.1,.slice Ar r.1.2.length cr,.slice Br r.2.length dr,.bool s.1.1,.slice As s.1.2.length cs,.slice Bs s.2.length ds] 189))
 rw [show ((w.alloc (.cells #[.bool r.1.1,.slice Ar r.1.2.length cr,.slice Br r.2.length dr] 36)).alloc (.cells #[.bool s.1.1,.slice As s.1.2.length cs,.slice Bs s.2.length ds] 36)).heap.size = w.heap.size+1+1 by simp] at ko
 have kp:=(box_new (((w.alloc (.cells #[.bool r.1.1,.slice Ar r.1.2.length cr,.slice Br r.2.length dr] 36)).alloc (.cells #[.bool s.1.1,.slice As s.1.2.length cs,.slice Bs s.2.length ds] 36)).alloc (.cells #[.bool false,.slice none 0 0,.slice none 0 0] 36)) #[.bool r.1.1,.slice Ar r.1.2.length cr,.slice Br r.2.length dr,.bool s.1.1,.slice As s.1.2.length cs,.slice Bs s.2.length ds] 189)
 rw [show (((w.alloc (.cells #[.bool r.1.1,.slice Ar r.1.2.length cr,.slice Br r.2.length dr] 36)).alloc (.cells #[.bool s.1.1,.slice As s.1.2.length cs,.slice Bs s.2.length ds] 36)).alloc (.cells #[.bool false,.slice none 0 0,.slice none 0 0] 36)).heap.size = w.heap.size+1+1+1 by simp] at kp
 have HKO:=Lib.hid (ko.lt (w.heap.size+1+1) (by simp))
 obtain ⟨Q,hQ⟩:∃ Q,subQ r s = Q:=⟨_,rfl⟩
 have EQ:=Lib.hid hQ
 rw [hQ]
 clear hQ
 go_enter Tryz.func132,Tryz.ntmps132
 have hz1:=HKO.out
 go_wp2_with fail
 refine ((combineRatSub_any r s _ hzr hzs (HS.out.below bb0) (OQr.out _ bb0) (OQs.out _ bb0)).mono fun _ _ h=>postQb_eq EQ.out h).mono ?_
 rintro e w1 ⟨uf,Sf,rfl,of,lf,b1⟩
 obtain ⟨Af,cf,Bf,df,rfl⟩:=ownQ_form of.here
 have bb1:=Below.next bb0 b1
 replace kr:=kr.below b1
 replace ks:=ks.below b1
 replace ko:=ko.below b1
 replace kp:=kp.below b1
 have HW:=Lib.hid (newQb_at (r:=w.heap.size+1+1) (b:=Q.2) of lf HKO.out (by omega) bb1)
 have cz0:=ko.here.cell 0 _ rfl
 have fz0:=Lib.frozen_of_heap ko.here 0
 have cz1:=ko.here.cell 1 _ rfl
 have fz1:=Lib.frozen_of_heap ko.here 1
 have cz2:=ko.here.cell 2 _ rfl
 have fz2:=Lib.frozen_of_heap ko.here 2
 clear of ko kp kr ks
 go_wp2
 refine bodyPost_ret (v:=.tuple #[.agg #[.bool _,.slice Af _ cf,.slice Bf _ df],.bool _]) (by simp [results,Tryz.results132,go_sem,cz0,cz1,cz2];exact ⟨⟨rfl,rfl,rfl⟩,rfl⟩) rfl ?_
 exact HW.out
set_option maxHeartbeats 2000000 in
theorem combineRatMul_any {Ar Br:Option Addr} {cr dr:Nat} {As Bs:Option Addr} {cs ds:Nat} (r s:QI) (w:World) (hzr:szQ r ≤ 1048576) (hzs:szQ s ≤ 1048576) (hsen:Sen w) (hr:OwnQ (.agg #[.bool r.1.1,.slice Ar r.1.2.length cr,.slice Br r.2.length dr]) r w) (hs:OwnQ (.agg #[.bool s.1.1,.slice As s.1.2.length cs,.slice Bs s.2.length ds]) s w) :
 Calls Tryz.prog 137 #[.agg #[.bool r.1.1,.slice Ar r.1.2.length cr,.slice Br r.2.length dr,.bool s.1.1,.slice As s.1.2.length cs,.slice Bs s.2.length ds],.func (.func 165) #[.agg #[.bool r.1.1,.slice Ar r.1.2.length cr,.slice Br r.2.length dr,.bool s.1.1,.slice As s.1.2.length cs,.slice Bs s.2.length ds]] #[],.func (.func 139) #[.agg #[.bool r.1.1,.slice Ar r.1.2.length cr,.slice Br r.2.length dr,.bool s.1.1,.slice As s.1.2.length cs,.slice Bs s.2.length ds]] #[]] w (PostQb (mulQ r s).1 (mulQ r s).2 w):=by
 have HS:=Lib.hid hsen
 clear hsen
 have Hr:=Lib.hid hr
 have OQr:=Lib.hid (show ∀ W,Below w.heap.size w W→OwnQ (.agg #[.bool r.1.1,.slice Ar r.1.2.length cr,.slice Br r.2.length dr]) r W from fun W hb=>OwnQ.below Hr.out hb)
 have OUr:=Lib.hid (show ∀ W,Below w.heap.size w W→OwnI (.slice Ar r.1.2.length cr) r.1.2 W from fun W hb=>(ownQ_open (OQr.out W hb)).2.1)
 have ODr:=Lib.hid (show ∀ W,Below w.heap.size w W→OwnI (.slice Br r.2.length dr) r.2 W from fun W hb=>(ownQ_open (OQr.out W hb)).2.2.1)
 have OSr:=Lib.hid (show ∀ W,Below w.heap.size w W→OwnS (.agg #[.bool r.1.1,.slice Ar r.1.2.length cr]) r.1 W from fun W hb=>OwnS.mk (OUr.out W hb))
 clear hr
 have Hs:=Lib.hid hs
 have OQs:=Lib.hid (show ∀ W,Below w.heap.size w W→OwnQ (.agg #[.bool s.1.1,.slice As s.1.2.length cs,.slice Bs s.2.length ds]) s W from fun W hb=>OwnQ.below Hs.out hb)
 have OUs:=Lib.hid (show ∀ W,Below w.heap.size w W→OwnI (.slice As s.1.2.length cs) s.1.2 W from fun W hb=>(ownQ_open (OQs.out W hb)).2.1)
 have ODs:=Lib.hid (show ∀ W,Below w.heap.size w W→OwnI (.slice Bs s.2.length ds) s.2 W from fun W hb=>(ownQ_open (OQs.out W hb)).2.2.1)
 have OSs:=Lib.hid (show ∀ W,Below w.heap.size w W→OwnS (.agg #[.bool s.1.1,.slice As s.1.2.length cs]) s.1 W from fun W hb=>OwnS.mk (OUs.out W hb))
 clear hs
 have bb0:Below w.heap.size w ((w.alloc (.cells #[.bool r.1.1,.slice Ar r.1.2.length cr,.slice Br r.2.length dr,.bool s.1.1,.slice As s.1.2.length cs,.slice Bs s.2.length ds] 189)).alloc (.cells #[.bool false,.slice none 0 0,.slice none 0 0] 36)):=below_al (below_al (Below.refl _ _) _) _
 have kp:=(box_new w #[.bool r.1.1,.slice Ar r.1.2.length cr,.slice Br r.2.length dr,.bool s.1.1,.slice As s.1.2.length cs,.slice Bs s.2.length ds] 189).below (below_al (Below.refl _ _) (.cells #[.bool false,.slice none 0 0,.slice none 0 0] 36))
 have ko:=(box_new (w.alloc (.cells #[.bool r.1.1,.slice Ar r.1.2.length cr,.slice Br r.2.length dr,.bool s.1.1,.slice As s.1.2.length cs,.slice Bs s.2.length ds] 189)) #[.bool false,.slice none 0 0,.slice none 0 0] 36)
 rw [show (w.alloc (.cells #[.bool r.1.1,.slice Ar r.1.2.length cr,.slice Br r.2.length dr,.bool s.1.1,.slice As s.1.2.length cs,.slice Bs s.2.length ds] 189)).heap.size = w.heap.size+1 by simp] at ko
 have HKO:=Lib.hid (ko.lt (w.heap.size+1) (by simp))
 go_enter Tryz.func137,Tryz.ntmps137
 have kp_c0:=kp.here.cell 0 _ rfl
 have kp_c1:=kp.here.cell 1 _ rfl
 have kp_c2:=kp.here.cell 2 _ rfl
 have kp_c3:=kp.here.cell 3 _ rfl
 have kp_c4:=kp.here.cell 4 _ rfl
 have kp_c5:=kp.here.cell 5 _ rfl
 go_wp2_with fail
 clear kp_c0 kp_c1 kp_c2 kp_c3 kp_c4 kp_c5
 refine (ok_any r s _ hzr hzs (HS.out.below bb0) (OQr.out _ bb0) (OQs.out _ bb0)).mono ?_
 rintro e w1 ⟨rfl,b1⟩
 have bb1:=Below.next bb0 b1
 replace kp:=kp.below b1
 replace ko:=ko.below b1
 by_cases hok:(okQ r && okQ s) = true
 ·rw [hok]
  have hok2:=(Bool.and_eq_true _ _ ▸ hok:okQ r = true∧okQ s = true)
  have HPr:=Lib.hid (parts_of hok2.1)
  have HPs:=Lib.hid (parts_of hok2.2)
  obtain ⟨N,hN⟩:∃ N,topS r s = N:=⟨_,rfl⟩
  obtain ⟨D,hD⟩:∃ D,denS r s = D:=⟨_,rfl⟩
  obtain ⟨Q,hQ⟩:∃ Q,makeQ N D = Q:=⟨_,rfl⟩
  have EN:=Lib.hid hN
  have ED:=Lib.hid hD
  have EQ:=Lib.hid hQ
  have HV:=Lib.hid (show mulQ r s = Q by rw [← hQ,← hN,← hD];exact (mulQ_make HPr.out HPs.out hok2.1 hok2.2).symm)
  have hzN:szS N ≤ 1048576:=by rw [← hN];exact part_sz_numerators HPr.out HPs.out
  have hzD:szS D ≤ 1048576:=by rw [← hD];exact part_sz_denominators HPr.out HPs.out
  clear hok hok2 hN hD hQ
  go_wp2_with fail
  refine ((numerators_any r s _ HPr.out HPs.out (OQr.out _ bb1) (OQs.out _ bb1)).mono fun _ _ h=>newVS_eq EN.out h).mono ?_
  rintro e w2 ⟨un,Sn,rfl,on,ln,b2⟩
  obtain ⟨An,cn,rfl⟩:=ownS_form on.here
  have bb2:=Below.next bb1 b2
  replace kp:=kp.below b2
  replace ko:=ko.below b2
  go_wp2_with fail
  refine ((denominators_any r s _ HPr.out HPs.out (OQr.out _ bb2) (OQs.out _ bb2)).mono fun _ _ h=>newVS_eq ED.out h).mono ?_
  rintro e w3 ⟨ud,Sd,rfl,od,ld,b3⟩
  obtain ⟨Ad,cd,rfl⟩:=ownS_form od.here
  have bb3:=Below.next bb2 b3
  replace kp:=kp.below b3
  replace ko:=ko.below b3
  replace on:=on.below b3
  have hz1:=b1.size
  have hz2:=b2.size
  have hz3:=b3.size
  go_wp2_with fail
  refine ((implRatMake_any _ _ N D _ hzN hzD on.here od.here (HS.out.below bb3)).mono fun _ _ h=>postQb_eq EQ.out h).mono ?_
  rintro e w4 ⟨uf,Sf,rfl,of,lf,b4⟩
  obtain ⟨Af,cf,Bf,df,rfl⟩:=ownQ_form of.here
  have bb4:=Below.next bb3 b4
  replace kp:=kp.below b4
  replace ko:=ko.below b4
  replace on:=on.below b4
  replace od:=od.below b4
  clear on od
  have HW:=Lib.hid (newQb_at (r:=w.heap.size+1) (b:=Q.2) of lf (by have:=HKO.out;omega) (by omega) bb4)
  have cz0:=ko.here.cell 0 _ rfl
  have fz0:=Lib.frozen_of_heap ko.here 0
  have cz1:=ko.here.cell 1 _ rfl
  have fz1:=Lib.frozen_of_heap ko.here 1
  have cz2:=ko.here.cell 2 _ rfl
  have fz2:=Lib.frozen_of_heap ko.here 2
  clear of ko
  go_wp2
  refine bodyPost_ret (v:=.tuple #[.agg #[.bool _,.slice Af _ cf,.slice Bf _ df],.bool _]) (by simp [results,Tryz.results137,go_sem,cz0,cz1,cz2];exact ⟨⟨rfl,rfl,rfl⟩,rfl⟩) rfl ?_
  rw [HV.out]
  exact HW.out
 ·have hok':(okQ r && okQ s) = false:=by simpa using hok
  have HV:=Lib.hid (show mulQ r s = (zeroQ,false) by unfold mulQ;rw [if_neg (fun h=>hok (by rw [h.1,h.2];rfl))])
  rw [hok']
  clear hok hok'
  have ko_c0:=ko.here.cell 0 _ rfl
  have ko_c1:=ko.here.cell 1 _ rfl
  have ko_c2:=ko.here.cell 2 _ rfl
  have cz0:=ko.here.cell 0 _ rfl
  have fz0:=Lib.frozen_of_heap ko.here 0
  have cz1:=ko.here.cell 1 _ rfl
  have fz1:=Lib.frozen_of_heap ko.here 1
  have cz2:=ko.here.cell 2 _ rfl
  have fz2:=Lib.frozen_of_heap ko.here 2
  go_wp2
  refine bodyPost_ret (v:=.tuple #[.agg #[.bool false,.slice none 0 0,.slice none 0 0],.bool false]) (by simp [results,Tryz.results137,go_sem,cz0,cz1,cz2]) rfl ?_
  rw [HV.out]
  first | exact newQb_zero _ bb1 | exact newQb_zero _ (below_set3 bb1 (by omega))
set_option maxHeartbeats 2000000 in
theorem implRatMul_any (vr vs:Value) (r s:QI) (w:World) (hzr:szQ r ≤ 1048576) (hzs:szQ s ≤ 1048576) (hr:OwnQ vr r w) (hs:OwnQ vs s w) (hsen:Sen w) :
 Calls Tryz.prog 135 #[vr,vs] w (PostQb (mulQ r s).1 (mulQ r s).2 w):=by
 have HS:=Lib.hid hsen
 clear hsen
 have Hr:=Lib.hid hr
 obtain ⟨Ar,cr,Br,dr,rfl⟩:=ownQ_form hr
 have OQr:=Lib.hid (show ∀ W,Below w.heap.size w W→OwnQ (.agg #[.bool r.1.1,.slice Ar r.1.2.length cr,.slice Br r.2.length dr]) r W from fun W hb=>OwnQ.below Hr.out hb)
 have OUr:=Lib.hid (show ∀ W,Below w.heap.size w W→OwnI (.slice Ar r.1.2.length cr) r.1.2 W from fun W hb=>(ownQ_open (OQr.out W hb)).2.1)
 have ODr:=Lib.hid (show ∀ W,Below w.heap.size w W→OwnI (.slice Br r.2.length dr) r.2 W from fun W hb=>(ownQ_open (OQr.out W hb)).2.2.1)
 have OSr:=Lib.hid (show ∀ W,Below w.heap.size w W→OwnS (.agg #[.bool r.1.1,.slice Ar r.1.2.length cr]) r.1 W from fun W hb=>OwnS.mk (OUr.out W hb))
 clear hr
 have Hs:=Lib.hid hs
 obtain ⟨As,cs,Bs,ds,rfl⟩:=ownQ_form hs
 have OQs:=Lib.hid (show ∀ W,Below w.heap.size w W→OwnQ (.agg #[.bool s.1.1,.slice As s.1.2.length cs,.slice Bs s.2.length ds]) s W from fun W hb=>OwnQ.below Hs.out hb)
 have OUs:=Lib.hid (show ∀ W,Below w.heap.size w W→OwnI (.slice As s.1.2.length cs) s.1.2 W from fun W hb=>(ownQ_open (OQs.out W hb)).2.1)
 have ODs:=Lib.hid (show ∀ W,Below w.heap.size w W→OwnI (.slice Bs s.2.length ds) s.2 W from fun W hb=>(ownQ_open (OQs.out W hb)).2.2.1)
 have OSs:=Lib.hid (show ∀ W,Below w.heap.size w W→OwnS (.agg #[.bool s.1.1,.slice As s.1.2.length cs]) s.1 W from fun W hb=>OwnS.mk (OUs.out W hb))
 clear hs
 have hmf:∀ (fn:Fn) (first cap:Array Value) (w:World),(Instr.makeFunc fn first cap).run Tryz.prog w = .ok (.func fn first cap) w:=fun _ _ _ _=>rfl
 have bb0:Below w.heap.size w ((((w.alloc (.cells #[.bool r.1.1,.slice Ar r.1.2.length cr,.slice Br r.2.length dr] 36)).alloc (.cells #[.bool s.1.1,.slice As s.1.2.length cs,.slice Bs s.2.length ds] 36)).alloc (.cells #[.bool false,.slice none 0 0,.slice none 0 0] 36)).alloc (.cells #[.bool r.1.1,.slice Ar r.1.2.length cr,.slice Br r.2.length dr,.bool s.1.1,.slice As s.1.2.length cs,.slice Bs s.2.length ds] 189)):=below_al (below_al (below_al (below_al (Below.refl _ _) _) _) _) _
 have kr:=(box_new w #[.bool r.1.1,.slice Ar r.1.2.length cr,.slice Br r.2.length dr] 36).below (below_al (below_al (below_al (Below.refl _ _) (.cells #[.bool s.1.1,.slice As s.1.2.length cs,.slice Bs s.2.length ds] 36)) (.cells #[.bool false,.slice none 0 0,.slice none 0 0] 36)) (.cells #[.bool r.1.1,.slice Ar r.1.2.length cr,.slice Br r.2.length dr,.bool s.1.1,.slice As s.1.2.length cs,.slice Bs s.2.length ds] 189))
 have ks:=(box_new (w.alloc (.cells #[.bool r.1.1,.slice Ar r.1.2.length cr,.slice Br r.2.length dr] 36)) #[.bool s.1.1,.slice As s.1.2.length cs,.slice Bs s.2.length ds] 36).below (below_al (below_al (Below.refl _ _) (.cells #[.bool false,.slice none 0 0,.slice none 0 0] 36)) (.cells #[.bool r.1.1,.slice Ar r.1.2.length cr,.slice Br r.2.length dr,.bool s.1.1,.slice As s.1.2.length cs,.slice Bs s.2.length ds] 189))
 rw [show (w.alloc (.cells #[.bool r.1.1,.slice Ar r.1.2.length cr,.slice Br r.2.length dr] 36)).heap.size = w.heap.size+1 by simp] at ks
 have ko:=(box_new ((w.alloc (.cells #[.bool r.1.1,.slice Ar r.1.2.length cr,.slice Br r.2.length dr] 36)).alloc (.cells #[.bool s.1.1,.slice As s.1.2.length cs,.slice Bs s.2.length ds] 36)) #[.bool false,.slice none 0 0,.slice none 0 0] 36).below (below_al (Below.refl _ _) (.cells #[.bool r.1.1,.slice Ar r.1.2.length cr,.slice Br r.2.length dr,.bool s.1.1,.slice As s.1.2.length cs,.slice Bs s.2.length ds] 189))
 rw [show ((w.alloc (.cells #[.bool r.1.1,.slice Ar r.1.2.length cr,.slice Br r.2.length dr] 36)).alloc (.cells #[.bool s.1.1,.slice As s.1.2.length cs,.slice Bs s.2.length ds] 36)).heap.size = w.heap.size+1+1 by simp] at ko
 have kp:=(box_new (((w.alloc (.cells #[.bool r.1.1,.slice Ar r.1.2.length cr,.slice Br r.2.length dr] 36)).alloc (.cells #[.bool s.1.1,.slice As s.1.2.length cs,.slice Bs s.2.length ds] 36)).alloc (.cells #[.bool false,.slice none 0 0,.slice none 0 0] 36)) #[.bool r.1.1,.slice Ar r.1.2.length cr,.slice Br r.2.length dr,.bool s.1.1,.slice As s.1.2.length cs,.slice Bs s.2.length ds] 189)
 rw [show (((w.alloc (.cells #[.bool r.1.1,.slice Ar r.1.2.length cr,.slice Br r.2.length dr] 36)).alloc (.cells #[.bool s.1.1,.slice As s.1.2.length cs,.slice Bs s.2.length ds] 36)).alloc (.cells #[.bool false,.slice none 0 0,.slice none 0 0] 36)).heap.size = w.heap.size+1+1+1 by simp] at kp
 have HKO:=Lib.hid (ko.lt (w.heap.size+1+1) (by simp))
 obtain ⟨Q,hQ⟩:∃ Q,mulQ r s = Q:=⟨_,rfl⟩
 have EQ:=Lib.hid hQ
 rw [hQ]
 clear hQ
 go_enter Tryz.func135,Tryz.ntmps135
 have hz1:=HKO.out
 go_wp2_with fail
 refine ((combineRatMul_any r s _ hzr hzs (HS.out.below bb0) (OQr.out _ bb0) (OQs.out _ bb0)).mono fun _ _ h=>postQb_eq EQ.out h).mono ?_
 rintro e w1 ⟨uf,Sf,rfl,of,lf,b1⟩
 obtain ⟨Af,cf,Bf,df,rfl⟩:=ownQ_form of.here
 have bb1:=Below.next bb0 b1
 replace kr:=kr.below b1
 replace ks:=ks.below b1
 replace ko:=ko.below b1
 replace kp:=kp.below b1
 have HW:=Lib.hid (newQb_at (r:=w.heap.size+1+1) (b:=Q.2) of lf HKO.out (by omega) bb1)
 have cz0:=ko.here.cell 0 _ rfl
 have fz0:=Lib.frozen_of_heap ko.here 0
 have cz1:=ko.here.cell 1 _ rfl
 have fz1:=Lib.frozen_of_heap ko.here 1
 have cz2:=ko.here.cell 2 _ rfl
 have fz2:=Lib.frozen_of_heap ko.here 2
 clear of ko kp kr ks
 go_wp2
 refine bodyPost_ret (v:=.tuple #[.agg #[.bool _,.slice Af _ cf,.slice Bf _ df],.bool _]) (by simp [results,Tryz.results135,go_sem,cz0,cz1,cz2];exact ⟨⟨rfl,rfl,rfl⟩,rfl⟩) rfl ?_
 exact HW.out
set_option maxHeartbeats 2000000 in
theorem combineRatDiv_any {Ar Br:Option Addr} {cr dr:Nat} {As Bs:Option Addr} {cs ds:Nat} (r s:QI) (w:World) (hzr:szQ r ≤ 1048576) (hzs:szQ s ≤ 1048576) (hsen:Sen w) (hr:OwnQ (.agg #[.bool r.1.1,.slice Ar r.1.2.length cr,.slice Br r.2.length dr]) r w) (hs:OwnQ (.agg #[.bool s.1.1,.slice As s.1.2.length cs,.slice Bs s.2.length ds]) s w) :
 Calls Tryz.prog 137 #[.agg #[.bool r.1.1,.slice Ar r.1.2.length cr,.slice Br r.2.length dr,.bool s.1.1,.slice As s.1.2.length cs,.slice Bs s.2.length ds],.func (.func 168) #[.agg #[.bool r.1.1,.slice Ar r.1.2.length cr,.slice Br r.2.length dr,.bool s.1.1,.slice As s.1.2.length cs,.slice Bs s.2.length ds]] #[],.func (.func 169) #[.agg #[.bool r.1.1,.slice Ar r.1.2.length cr,.slice Br r.2.length dr,.bool s.1.1,.slice As s.1.2.length cs,.slice Bs s.2.length ds]] #[]] w (PostQb (divQ r s).1 (divQ r s).2 w):=by
 have HS:=Lib.hid hsen
 clear hsen
 have Hr:=Lib.hid hr
 have OQr:=Lib.hid (show ∀ W,Below w.heap.size w W→OwnQ (.agg #[.bool r.1.1,.slice Ar r.1.2.length cr,.slice Br r.2.length dr]) r W from fun W hb=>OwnQ.below Hr.out hb)
 have OUr:=Lib.hid (show ∀ W,Below w.heap.size w W→OwnI (.slice Ar r.1.2.length cr) r.1.2 W from fun W hb=>(ownQ_open (OQr.out W hb)).2.1)
 have ODr:=Lib.hid (show ∀ W,Below w.heap.size w W→OwnI (.slice Br r.2.length dr) r.2 W from fun W hb=>(ownQ_open (OQr.out W hb)).2.2.1)
 have OSr:=Lib.hid (show ∀ W,Below w.heap.size w W→OwnS (.agg #[.bool r.1.1,.slice Ar r.1.2.length cr]) r.1 W from fun W hb=>OwnS.mk (OUr.out W hb))
 clear hr
 have Hs:=Lib.hid hs
 have OQs:=Lib.hid (show ∀ W,Below w.heap.size w W→OwnQ (.agg #[.bool s.1.1,.slice As s.1.2.length cs,.slice Bs s.2.length ds]) s W from fun W hb=>OwnQ.below Hs.out hb)
 have OUs:=Lib.hid (show ∀ W,Below w.heap.size w W→OwnI (.slice As s.1.2.length cs) s.1.2 W from fun W hb=>(ownQ_open (OQs.out W hb)).2.1)
 have ODs:=Lib.hid (show ∀ W,Below w.heap.size w W→OwnI (.slice Bs s.2.length ds) s.2 W from fun W hb=>(ownQ_open (OQs.out W hb)).2.2.1)
 have OSs:=Lib.hid (show ∀ W,Below w.heap.size w W→OwnS (.agg #[.bool s.1.1,.slice As s.1.2.length cs]) s.1 W from fun W hb=>OwnS.mk (OUs.out W hb))
 clear hs
 have bb0:Below w.heap.size w ((w.alloc (.cells #[.bool r.1.1,.slice Ar r.1.2.length cr,.slice Br r.2.length dr,.bool s.1.1,.slice As s.1.2.length cs,.slice Bs s.2.length ds] 189)).alloc (.cells #[.bool false,.slice none 0 0,.slice none 0 0] 36)):=below_al (below_al (Below.refl _ _) _) _
 have kp:=(box_new w #[.bool r.1.1,.slice Ar r.1.2.length cr,.slice Br r.2.length dr,.bool s.1.1,.slice As s.1.2.length cs,.slice Bs s.2.length ds] 189).below (below_al (Below.refl _ _) (.cells #[.bool false,.slice none 0 0,.slice none 0 0] 36))
 have ko:=(box_new (w.alloc (.cells #[.bool r.1.1,.slice Ar r.1.2.length cr,.slice Br r.2.length dr,.bool s.1.1,.slice As s.1.2.length cs,.slice Bs s.2.length ds] 189)) #[.bool false,.slice none 0 0,.slice none 0 0] 36)
 rw [show (w.alloc (.cells #[.bool r.1.1,.slice Ar r.1.2.length cr,.slice Br r.2.length dr,.bool s.1.1,.slice As s.1.2.length cs,.slice Bs s.2.length ds] 189)).heap.size = w.heap.size+1 by simp] at ko
 have HKO:=Lib.hid (ko.lt (w.heap.size+1) (by simp))
 go_enter Tryz.func137,Tryz.ntmps137
 have kp_c0:=kp.here.cell 0 _ rfl
 have kp_c1:=kp.here.cell 1 _ rfl
 have kp_c2:=kp.here.cell 2 _ rfl
 have kp_c3:=kp.here.cell 3 _ rfl
 have kp_c4:=kp.here.cell 4 _ rfl
 have kp_c5:=kp.here.cell 5 _ rfl
 go_wp2_with fail
 clear kp_c0 kp_c1 kp_c2 kp_c3 kp_c4 kp_c5
 refine (ok_any r s _ hzr hzs (HS.out.below bb0) (OQr.out _ bb0) (OQs.out _ bb0)).mono ?_
 rintro e w1 ⟨rfl,b1⟩
 have bb1:=Below.next bb0 b1
 replace kp:=kp.below b1
 replace ko:=ko.below b1
 by_cases hok:(okQ r && okQ s) = true
 ·rw [hok]
  have hok2:=(Bool.and_eq_true _ _ ▸ hok:okQ r = true∧okQ s = true)
  have HPr:=Lib.hid (parts_of hok2.1)
  have HPs:=Lib.hid (parts_of hok2.2)
  obtain ⟨N,hN⟩:∃ N,leftS r s = N:=⟨_,rfl⟩
  obtain ⟨D,hD⟩:∃ D,leftS s r = D:=⟨_,rfl⟩
  obtain ⟨Q,hQ⟩:∃ Q,makeQ N D = Q:=⟨_,rfl⟩
  have EN:=Lib.hid hN
  have ED:=Lib.hid hD
  have EQ:=Lib.hid hQ
  have HV:=Lib.hid (show divQ r s = Q by rw [← hQ,← hN,← hD];exact (divQ_make HPr.out HPs.out hok2.1 hok2.2).symm)
  have hzN:szS N ≤ 1048576:=by rw [← hN];exact part_sz_left HPr.out HPs.out
  have hzD:szS D ≤ 1048576:=by rw [← hD];exact part_sz_right HPr.out HPs.out
  clear hok hok2 hN hD hQ
  go_wp2_with fail
  refine ((left_any r s _ HPr.out HPs.out (OQr.out _ bb1) (OQs.out _ bb1)).mono fun _ _ h=>newVS_eq EN.out h).mono ?_
  rintro e w2 ⟨un,Sn,rfl,on,ln,b2⟩
  obtain ⟨An,cn,rfl⟩:=ownS_form on.here
  have bb2:=Below.next bb1 b2
  replace kp:=kp.below b2
  replace ko:=ko.below b2
  go_wp2_with fail
  refine ((right_any r s _ HPr.out HPs.out (OQr.out _ bb2) (OQs.out _ bb2)).mono fun _ _ h=>newVS_eq ED.out h).mono ?_
  rintro e w3 ⟨ud,Sd,rfl,od,ld,b3⟩
  obtain ⟨Ad,cd,rfl⟩:=ownS_form od.here
  have bb3:=Below.next bb2 b3
  replace kp:=kp.below b3
  replace ko:=ko.below b3
  replace on:=on.below b3
  have hz1:=b1.size
  have hz2:=b2.size
  have hz3:=b3.size
  go_wp2_with fail
  refine ((implRatMake_any _ _ N D _ hzN hzD on.here od.here (HS.out.below bb3)).mono fun _ _ h=>postQb_eq EQ.out h).mono ?_
  rintro e w4 ⟨uf,Sf,rfl,of,lf,b4⟩
  obtain ⟨Af,cf,Bf,df,rfl⟩:=ownQ_form of.here
  have bb4:=Below.next bb3 b4
  replace kp:=kp.below b4
  replace ko:=ko.below b4
  replace on:=on.below b4
  replace od:=od.below b4
  clear on od
  have HW:=Lib.hid (newQb_at (r:=w.heap.size+1) (b:=Q.2) of lf (by have:=HKO.out;omega) (by omega) bb4)
  have cz0:=ko.here.cell 0 _ rfl
  have fz0:=Lib.frozen_of_heap ko.here 0
  have cz1:=ko.here.cell 1 _ rfl
  have fz1:=Lib.frozen_of_heap ko.here 1
  have cz2:=ko.here.cell 2 _ rfl
  have fz2:=Lib.frozen_of_heap ko.here 2
  clear of ko
  go_wp2
  refine bodyPost_ret (v:=.tuple #[.agg #[.bool _,.slice Af _ cf,.slice Bf _ df],.bool _]) (by simp [results,Tryz.results137,go_sem,cz0,cz1,cz2];exact ⟨⟨rfl,rfl,rfl⟩,rfl⟩) rfl ?_
  rw [HV.out]
  exact HW.out
 ·have hok':(okQ r && okQ s) = false:=by simpa using hok
  have HV:=Lib.hid (show divQ r s = (zeroQ,false) by unfold divQ;rw [if_neg (fun h=>hok (by rw [h.1,h.2];rfl))])
  rw [hok']
  clear hok hok'
  have ko_c0:=ko.here.cell 0 _ rfl
  have ko_c1:=ko.here.cell 1 _ rfl
  have ko_c2:=ko.here.cell 2 _ rfl
  have cz0:=ko.here.cell 0 _ rfl
  have fz0:=Lib.frozen_of_heap ko.here 0
  have cz1:=ko.here.cell 1 _ rfl
  have fz1:=Lib.frozen_of_heap ko.here 1
  have cz2:=ko.here.cell 2 _ rfl
  have fz2:=Lib.frozen_of_heap ko.here 2
  go_wp2
  refine bodyPost_ret (v:=.tuple #[.agg #[.bool false,.slice none 0 0,.slice none 0 0],.bool false]) (by simp [results,Tryz.results137,go_sem,cz0,cz1,cz2]) rfl ?_
  rw [HV.out]
  first | exact newQb_zero _ bb1 | exact newQb_zero _ (below_set3 bb1 (by omega))
set_option maxHeartbeats 2000000 in
theorem implRatDiv_any (vr vs:Value) (r s:QI) (w:World) (hzr:szQ r ≤ 1048576) (hzs:szQ s ≤ 1048576) (hr:OwnQ vr r w) (hs:OwnQ vs s w) (hsen:Sen w) :
 Calls Tryz.prog 163 #[vr,vs] w (PostQb (divQ r s).1 (divQ r s).2 w):=by
 have HS:=Lib.hid hsen
 clear hsen
 have Hr:=Lib.hid hr
 obtain ⟨Ar,cr,Br,dr,rfl⟩:=ownQ_form hr
 have OQr:=Lib.hid (show ∀ W,Below w.heap.size w W→OwnQ (.agg #[.bool r.1.1,.slice Ar r.1.2.length cr,.slice Br r.2.length dr]) r W from fun W hb=>OwnQ.below Hr.out hb)
 have OUr:=Lib.hid (show ∀ W,Below w.heap.size w W→OwnI (.slice Ar r.1.2.length cr) r.1.2 W from fun W hb=>(ownQ_open (OQr.out W hb)).2.1)
 have ODr:=Lib.hid (show ∀ W,Below w.heap.size w W→OwnI (.slice Br r.2.length dr) r.2 W from fun W hb=>(ownQ_open (OQr.out W hb)).2.2.1)
 have OSr:=Lib.hid (show ∀ W,Below w.heap.size w W→OwnS (.agg #[.bool r.1.1,.slice Ar r.1.2.length cr]) r.1 W from fun W hb=>OwnS.mk (OUr.out W hb))
 clear hr
 have Hs:=Lib.hid hs
 obtain ⟨As,cs,Bs,ds,rfl⟩:=ownQ_form hs
 have OQs:=Lib.hid (show ∀ W,Below w.heap.size w W→OwnQ (.agg #[.bool s.1.1,.slice As s.1.2.length cs,.slice Bs s.2.length ds]) s W from fun W hb=>OwnQ.below Hs.out hb)
 have OUs:=Lib.hid (show ∀ W,Below w.heap.size w W→OwnI (.slice As s.1.2.length cs) s.1.2 W from fun W hb=>(ownQ_open (OQs.out W hb)).2.1)
 have ODs:=Lib.hid (show ∀ W,Below w.heap.size w W→OwnI (.slice Bs s.2.length ds) s.2 W from fun W hb=>(ownQ_open (OQs.out W hb)).2.2.1)
 have OSs:=Lib.hid (show ∀ W,Below w.heap.size w W→OwnS (.agg #[.bool s.1.1,.slice As s.1.2.length cs]) s.1 W from fun W hb=>OwnS.mk (OUs.out W hb))
 clear hs
 have hmf:∀ (fn:Fn) (first cap:Array Value) (w:World),(Instr.makeFunc fn first cap).run Tryz.prog w = .ok (.func fn first cap) w:=fun _ _ _ _=>rfl
 have bb0:Below w.heap.size w ((((w.alloc (.cells #[.bool r.1.1,.slice Ar r.1.2.length cr,.slice Br r.2.length dr] 36)).alloc (.cells #[.bool s.1.1,.slice As s.1.2.length cs,.slice Bs s.2.length ds] 36)).alloc (.cells #[.bool false,.slice none 0 0,.slice none 0 0] 36)).alloc (.cells #[.bool r.1.1,.slice Ar r.1.2.length cr,.slice Br r.2.length dr,.bool s.1.1,.slice As s.1.2.length cs,.slice Bs s.2.length ds] 189)):=below_al (below_al (below_al (below_al (Below.refl _ _) _) _) _) _
 have kr:=(box_new w #[.bool r.1.1,.slice Ar r.1.2.length cr,.slice Br r.2.length dr] 36).below (below_al (below_al (below_al (Below.refl _ _) (.cells #[.bool s.1.1,.slice As s.1.2.length cs,.slice Bs s.2.length ds] 36)) (.cells #[.bool false,.slice none 0 0,.slice none 0 0] 36)) (.cells #[.bool r.1.1,.slice Ar r.1.2.length cr,.slice Br r.2.length dr,.bool s.1.1,.slice As s.1.2.length cs,.slice Bs s.2.length ds] 189))
 have ks:=(box_new (w.alloc (.cells #[.bool r.1.1,.slice Ar r.1.2.length cr,.slice Br r.2.length dr] 36)) #[.bool s.1.1,.slice As s.1.2.length cs,.slice Bs s.2.length ds] 36).below (below_al (below_al (Below.refl _ _) (.cells #[.bool false,.slice none 0 0,.slice none 0 0] 36)) (.cells #[.bool r.1.1,.slice Ar r.1.2.length cr,.slice Br r.2.length dr,.bool s.1.1,.slice As s.1.2.length cs,.slice Bs s.2.length ds] 189))
 rw [show (w.alloc (.cells #[.bool r.1.1,.slice Ar r.1.2.length cr,.slice Br r.2.length dr] 36)).heap.size = w.heap.size+1 by simp] at ks
 have ko:=(box_new ((w.alloc (.cells #[.bool r.1.1,.slice Ar r.1.2.length cr,.slice Br r.2.length dr] 36)).alloc (.cells #[.bool s.1.1,.slice As s.1.2.length cs,.slice Bs s.2.length ds] 36)) #[.bool false,.slice none 0 0,.slice none 0 0] 36).below (below_al (Below.refl _ _) (.cells #[.bool r.1.1,.slice Ar r.1.2.length cr,.slice Br r.2.length dr,.bool s.1.1,.slice As s.1.2.length cs,.slice Bs s.2.length ds] 189))
 rw [show ((w.alloc (.cells #[.bool r.1.1,.slice Ar r.1.2.length cr,.slice Br r.2.length dr] 36)).alloc (.cells #[.bool s.1.1,.slice As s.1.2.length cs,.slice Bs s.2.length ds] 36)).heap.size = w.heap.size+1+1 by simp] at ko
 have kp:=(box_new (((w.alloc (.cells #[.bool r.1.1,.slice Ar r.1.2.length cr,.slice Br r.2.length dr] 36)).alloc (.cells #[.bool s.1.1,.slice As s.1.2.length cs,.slice Bs s.2.length ds] 36)).alloc (.cells #[.bool false,.slice none 0 0,.slice none 0 0] 36)) #[.bool r.1.1,.slice Ar r.1.2.length cr,.slice Br r.2.length dr,.bool s.1.1,.slice As s.1.2.length cs,.slice Bs s.2.length ds] 189)
 rw [show (((w.alloc (.cells #[.bool r.1.1,.slice Ar r.1.2.length cr,.slice Br r.2.length dr] 36)).alloc (.cells #[.bool s.1.1,.slice As s.1.2.length cs,.slice Bs s.2.length ds] 36)).alloc (.cells #[.bool false,.slice none 0 0,.slice none 0 0] 36)).heap.size = w.heap.size+1+1+1 by simp] at kp
 have HKO:=Lib.hid (ko.lt (w.heap.size+1+1) (by simp))
 obtain ⟨Q,hQ⟩:∃ Q,divQ r s = Q:=⟨_,rfl⟩
 have EQ:=Lib.hid hQ
 rw [hQ]
 clear hQ
 go_enter Tryz.func163,Tryz.ntmps163
 have hz1:=HKO.out
 go_wp2_with fail
 refine ((combineRatDiv_any r s _ hzr hzs (HS.out.below bb0) (OQr.out _ bb0) (OQs.out _ bb0)).mono fun _ _ h=>postQb_eq EQ.out h).mono ?_
 rintro e w1 ⟨uf,Sf,rfl,of,lf,b1⟩
 obtain ⟨Af,cf,Bf,df,rfl⟩:=ownQ_form of.here
 have bb1:=Below.next bb0 b1
 replace kr:=kr.below b1
 replace ks:=ks.below b1
 replace ko:=ko.below b1
 replace kp:=kp.below b1
 have HW:=Lib.hid (newQb_at (r:=w.heap.size+1+1) (b:=Q.2) of lf HKO.out (by omega) bb1)
 have cz0:=ko.here.cell 0 _ rfl
 have fz0:=Lib.frozen_of_heap ko.here 0
 have cz1:=ko.here.cell 1 _ rfl
 have fz1:=Lib.frozen_of_heap ko.here 1
 have cz2:=ko.here.cell 2 _ rfl
 have fz2:=Lib.frozen_of_heap ko.here 2
 clear of ko kp kr ks
 go_wp2
 refine bodyPost_ret (v:=.tuple #[.agg #[.bool _,.slice Af _ cf,.slice Bf _ df],.bool _]) (by simp [results,Tryz.results163,go_sem,cz0,cz1,cz2];exact ⟨⟨rfl,rfl,rfl⟩,rfl⟩) rfl ?_
 exact HW.out
set_option maxHeartbeats 1000000 in
theorem implRatZero_any (w:World):Calls Tryz.prog 105 #[] w (NewV (fun v=>OwnQ v oneQ) w):=by
 have bb0:Below w.heap.size w (w.alloc (.cells #[.bool false,.slice none 0 0,.slice none 0 0] 36)):=below_al (Below.refl _ _) _
 have ko:=box_new w #[.bool false,.slice none 0 0,.slice none 0 0] 36
 go_enter Tryz.func105,Tryz.ntmps105
 go_wp2_with fail
 refine (implNatOf_any 1 _ (by decide)).mono ?_
 rintro e w1 ⟨v1,rfl,o1,b1⟩
 rw [show (1:Int).toNat = 1 from rfl,one_limbs] at o1
 obtain ⟨A1,c1,rfl⟩:=own_len o1
 have bb1:=Below.next bb0 b1
 replace ko:=ko.below b1
 have HR:=Lib.hid (newQ_ret (x:=oneQ) (u:=.slice none 0 0) (B:=w.heap.size) (w:=w) ko.here (World.ownsRow_nil _ _ _ _) o1 (fun g hg=>by cases hg) (Nat.le_refl _) bb0.size (Nat.le_refl _) bb1)
 have cz0:=ko.here.cell 0 _ rfl
 have cz1:=ko.here.cell 1 _ rfl
 have cz2:=ko.here.cell 2 _ rfl
 have fz0:=Lib.frozen_of_heap ko.here 0
 have fz1:=Lib.frozen_of_heap ko.here 1
 have fz2:=Lib.frozen_of_heap ko.here 2
 clear ko o1
 go_wp2
 refine bodyPost_ret (v:=.agg #[.bool false,.slice none 0 0,.slice A1 _ c1]) (by simp [results,Tryz.results105,go_sem,cz0,cz1,cz2];rfl) rfl ?_
 exact HR.out
set_option maxHeartbeats 2000000 in
theorem implRatInt_any (va:Value) (a:SI) (w:World) (hza:szS a ≤ 1048576) (ha:OwnS va a w) (hsen:Sen w) :
 Calls Tryz.prog 131 #[va] w (PostQb (makeQ a (ofZ 1)).1 (makeQ a (ofZ 1)).2 w):=by
 have HS:=Lib.hid hsen
 clear hsen
 have Ha:=Lib.hid ha
 obtain ⟨Aa,ca,rfl⟩:=ownS_form ha
 have OSa:=Lib.hid (show ∀ W,Below w.heap.size w W→OwnS (.agg #[.bool a.1,.slice Aa a.2.length ca]) a W from fun W hb=>OwnS.below Ha.out hb)
 have OIa:=Lib.hid (show ∀ W,Below w.heap.size w W→OwnI (.slice Aa a.2.length ca) a.2 W from fun W hb=>ownS_open (OSa.out W hb))
 clear ha
 have bb0:Below w.heap.size w ((w.alloc (.cells #[.bool a.1,.slice Aa a.2.length ca] 32)).alloc (.cells #[.bool false,.slice none 0 0,.slice none 0 0] 36)):=below_al (below_al (Below.refl _ _) _) _
 have ka:=(box_new w #[.bool a.1,.slice Aa a.2.length ca] 32).below (below_al (Below.refl _ _) (.cells #[.bool false,.slice none 0 0,.slice none 0 0] 36))
 have ko:=(box_new (w.alloc (.cells #[.bool a.1,.slice Aa a.2.length ca] 32)) #[.bool false,.slice none 0 0,.slice none 0 0] 36)
 rw [show (w.alloc (.cells #[.bool a.1,.slice Aa a.2.length ca] 32)).heap.size = w.heap.size+1 by simp] at ko
 have HKO:=Lib.hid (ko.lt (w.heap.size+1) (by simp))
 obtain ⟨Q,hQ⟩:∃ Q,makeQ a (ofZ 1) = Q:=⟨_,rfl⟩
 have EQ:=Lib.hid hQ
 rw [hQ]
 clear hQ
 obtain ⟨W0,hW0⟩:∃ W0,W0 = ((w.alloc (.cells #[.bool a.1,.slice Aa a.2.length ca] 32)).alloc (.cells #[.bool false,.slice none 0 0,.slice none 0 0] 36)):=⟨_,rfl⟩
 rw [← hW0] at bb0 ka ko HKO
 have HW0:=Lib.hid hW0
 clear hW0
 have hz0:=HKO.out
 go_enter Tryz.func131,Tryz.ntmps131
 have ka_c0:=ka.here.cell 0 _ rfl
 have ka_c1:=ka.here.cell 1 _ rfl
 go_wp2_with fail
 rw [← HW0.out]
 have HC0:=Lib.hid (show Chg [w.heap.size+1] W0 W0.drew from (Chg.refl _ _).drew1)
 have HCr:=Lib.hid (show Chg [w.heap.size+1] W0 W0 from Chg.refl _ _)
 have KL:=Lib.hid (show ∀ W,Chg [w.heap.size+1] W0 W→W.cell? ⟨w.heap.size,0,none⟩ = some (.bool a.1)∧W.cell? ⟨w.heap.size,1,none⟩ = some (.slice Aa a.2.length ca)∧Hid (Chg [w.heap.size+1] W0 W) from fun W hc=>⟨(ka.chg hc (fun i hi hm=>by simp at hi hm;omega)).here.cell 0 _ rfl,(ka.chg hc (fun i hi hm=>by simp at hi hm;omega)).here.cell 1 _ rfl,Lib.hid hc⟩)
 have BBF:=Lib.hid (show ∀ W,Chg [w.heap.size+1] W0 W→Below w.heap.size w W from fun W hc=>below_chg bb0 hc bb0.size (fun i hi=>by simp at hi;omega))
 clear ka_c0 ka_c1
 go_region_held3 (fun W=>W.cell? ⟨w.heap.size,0,none⟩ = some (.bool a.1)∧W.cell? ⟨w.heap.size,1,none⟩ = some (.slice Aa a.2.length ca)∧Hid (Chg [w.heap.size+1] W0 W))
  ((refine KL.out _ ?_;(first | exact HC2.out | exact HC1.out | exact HCr.out | exact HC0.out | exact HC2.out.drew1 | exact HC1.out.drew1 | exact HCr.out.drew1 | exact HC0.out.drew1 | exact HC2.out.trans (Chg.of_below (below_al (Below.refl _ _) _)) | exact HC1.out.trans (Chg.of_below (below_al (Below.refl _ _) _)) | exact HCr.out.trans (Chg.of_below (below_al (Below.refl _ _) _)) | exact HC0.out.trans (Chg.of_below (below_al (Below.refl _ _) _)) | exact (Chg.setCell HC2.out (by simp) _) | exact (Chg.setCell (Chg.setCell HC2.out (by simp) _) (by simp) _) | exact (Chg.setCell (Chg.setCell (Chg.setCell HC2.out (by simp) _) (by simp) _) (by simp) _) | fail)))
  (first
    | (go_at_call 160;(have hBB:=(‹_∧_∧Hid (Chg [w.heap.size+1] W0 _)›).2.2);(with_reducible refine ((implIntOf_any 1 _ (by decide) (by decide)).mono fun _ _ h=>NewS.newV h).mono ?_);rintro e w1 ⟨ui,Si,rfl,oi,li,b1⟩;have HC1:=Lib.hid (hBB.out.trans (Chg.of_below b1));(have ko_1:=At.below (by first | exact ko | exact At.below ko (below_al (Below.refl _ _) _) | exact At.below (At.below ko (below_al (Below.refl _ _) _)) (below_al (Below.refl _ _) _) | exact At.move ko (fun _ _=>rfl) (Nat.le_refl _)) b1);obtain ⟨Ai,ci,rfl⟩:=ownS_form oi.here;have HBZ1:=Lib.hid hBB.out.size;clear hBB)
    | (go_at_call 159;(have hBB:=(‹_∧_∧Hid (Chg [w.heap.size+1] W0 _)›).2.2);(with_reducible refine ((implRatMake_any _ _ a (ofZ 1) _ hza one_szS (OSa.out _ (BBF.out _ hBB.out)) (At.here (by first | exact oi | exact At.below oi (below_al (Below.refl _ _) _) | exact At.below (At.below oi (below_al (Below.refl _ _) _)) (below_al (Below.refl _ _) _) | exact At.move oi (fun _ _=>rfl) (Nat.le_refl _))) (HS.out.below (BBF.out _ hBB.out))).mono fun _ _ h=>postQb_eq EQ.out h).mono ?_);rintro e w2 ⟨uf,Sf,rfl,of,lf,b2⟩;have HC2:=Lib.hid (hBB.out.trans (Chg.of_below b2));(have ko_2:=At.below (by first | exact ko_1 | exact At.below ko_1 (below_al (Below.refl _ _) _) | exact At.below (At.below ko_1 (below_al (Below.refl _ _) _)) (below_al (Below.refl _ _) _) | exact At.move ko_1 (fun _ _=>rfl) (Nat.le_refl _)) b2);(have oi_2:=At.below (by first | exact oi | exact At.below oi (below_al (Below.refl _ _) _) | exact At.below (At.below oi (below_al (Below.refl _ _) _)) (below_al (Below.refl _ _) _) | exact At.move oi (fun _ _=>rfl) (Nat.le_refl _)) b2);obtain ⟨Af,cf,Bf,df,rfl⟩:=ownQ_form of.here;have cz0:=ko_2.here.cell 0 _ rfl;have fz0:=Lib.frozen_of_heap ko_2.here 0;have cz1:=ko_2.here.cell 1 _ rfl;have fz1:=Lib.frozen_of_heap ko_2.here 1;have cz2:=ko_2.here.cell 2 _ rfl;have fz2:=Lib.frozen_of_heap ko_2.here 2;have HBZ2:=Lib.hid hBB.out.size;clear hBB))
 have bb2:=BBF.out _ HC2.out
 replace ka:=ka.chg HC2.out (fun i hi hm=>by simp at hi hm;omega)
 replace ko:=ko_2
 have oi:=oi_2
 have HW:=Lib.hid (newQb_at (r:=w.heap.size+1) (b:=Q.2) of lf (by have:=HBZ2.out;omega) (by omega) bb2)
 clear of ko ka oi
 go_wp2
 refine bodyPost_ret (v:=.tuple #[.agg #[.bool _,.slice Af _ cf,.slice Bf _ df],.bool _]) (by simp [results,Tryz.results131,go_sem,cz0,cz1,cz2];exact ⟨⟨rfl,rfl,rfl⟩,rfl⟩) rfl ?_
 exact HW.out
set_option maxHeartbeats 1000000 in
theorem tenTo_any (k:Int) (w:World):Calls Tryz.prog 182 #[.int .i64 k] w (NewV (fun u=>OwnS u (tenS k)) w):=by
 have bb0:Below w.heap.size w (w.alloc (.cells #[.bool false,.slice none 0 0] 32)):=below_al (Below.refl _ _) _
 have ko:=(box_new w #[.bool false,.slice none 0 0] 32)
 have HKO:=Lib.hid (ko.lt w.heap.size (by simp))
 go_enter Tryz.func182,Tryz.ntmps182
 go_wp2_with fail
 refine (implNatTen_any k _).mono ?_
 rintro e w1 ⟨v,rfl,o0,b1⟩
 obtain ⟨Af,cf,rfl⟩:=own_len o0
 have bb1:=Below.next bb0 b1
 replace ko:=ko.below b1
 have of:=(own_at' o0).imp (fun _ h=>(OwnS.mk h:OwnS (.agg #[.bool (tenS k).1,.slice Af (tenN k).length cf]) (tenS k) _))
 have lf:=own_within o0
 clear o0
 have HR:=Lib.hid (newV_chg (φ:=fun u=>OwnS u (tenS k)) (v:=.agg #[.bool false,.slice Af (tenN k).length cf]) (T:=[w.heap.size]) of (fun i hi hm=>by have:=lf i hi;have:=HKO.out;simp at hm;omega) (fun i hi=>by simp at hi;omega) (fun i hi=>by have:=lf i hi;have:=HKO.out;omega) bb1)
 have cz0:=ko.here.cell 0 _ rfl
 have fz0:=Lib.frozen_of_heap ko.here 0
 have cz1:=ko.here.cell 1 _ rfl
 have fz1:=Lib.frozen_of_heap ko.here 1
 clear of ko
 go_wp2
 refine bodyPost_ret (v:=.agg #[.bool false,.slice Af (tenN k).length cf]) (by simp [results,Tryz.results182,go_sem,cz0,cz1]) rfl ?_
 refine HR.out _ ?_
 repeat (first | exact Chg.refl _ _ | refine Chg.setCell ?_ (by simp) _)
theorem nat_lt50 {X:Nat} (h:(limbs X).length ≤ 19):((X+X:Nat):Int) < bp 50∧((X+1:Nat):Int) < bp 50:=by
 have h1:=nval_lt (limbs X) (limbs_digN X)
 rw [limbs_val] at h1
 have h2:bp (limbs X).length ≤ bp 19:=bp_mono h
 have h3:bp 20 ≤ bp 50:=bp_mono (by omega)
 have h4:bp 20 = 1000000000 * bp 19:=rfl
 have:=bp_pos 19
 omega
theorem cmpN_limbs {X Y:Nat} (hx:(limbs X).length ≤ 50) (hy:(limbs Y).length ≤ 50):cmpN (limbs X) (limbs Y) = cmpI X Y:=by
 unfold cmpN
 rw [if_pos ⟨limbs_okL _ hx,limbs_okL _ hy⟩,limbs_val,limbs_val]
theorem twoRows_eq {a b c d:List Int} {w w':World} {e:Ending} (h:TwoRows a b w e w') (h1:a = c) (h2:b = d):TwoRows c d w e w':=by subst h1 h2;exact h
theorem newI_eq {a b:List Int} {w w':World} {e:Ending} (h:NewInts a w e w') (h1:a = b):NewInts b w e w':=by subst h1;exact h
set_option maxHeartbeats 2000000 in
theorem overHalf_any (Aq Ar Ad:Option Addr) (cq cr cd:Nat) (neg:Bool) (Q R D:Nat) (w:World) (_:(limbs Q).length ≤ 50) (hrl:(limbs R).length ≤ 18) (hdl:(limbs D).length ≤ 18) (_:OwnI (.slice Aq (limbs Q).length cq) (limbs Q) w) (or_:OwnI (.slice Ar (limbs R).length cr) (limbs R) w) (od:OwnI (.slice Ad (limbs D).length cd) (limbs D) w) :
 Calls Tryz.prog 146 #[.agg #[.bool neg,.slice Aq (limbs Q).length cq,.slice Ar (limbs R).length cr,.slice Ad (limbs D).length cd]] w (Postn (cmpI ((R:Int)+R+0) D) w):=by
 have Hr:=Lib.hid (show ∀ W,Below w.heap.size w W→OwnI (.slice Ar (limbs R).length cr) (limbs R) W from fun W hb=>OwnI.belowI or_ hb)
 have Hd:=Lib.hid (show ∀ W,Below w.heap.size w W→OwnI (.slice Ad (limbs D).length cd) (limbs D) W from fun W hb=>OwnI.belowI od hb)
 clear or_ od
 have bb0:Below w.heap.size w (w.alloc (.cells #[.bool neg,.slice Aq (limbs Q).length cq,.slice Ar (limbs R).length cr,.slice Ad (limbs D).length cd] 193)):=below_al (Below.refl _ _) _
 have ks:=(box_new w #[.bool neg,.slice Aq (limbs Q).length cq,.slice Ar (limbs R).length cr,.slice Ad (limbs D).length cd] 193)
 obtain ⟨z,hz⟩:∃ z,cmpI ((R:Int)+R+0) D = z:=⟨_,rfl⟩
 have EA:=Lib.hid (addN_small (nat_lt50 (X:=R) (by omega)).1)
 have h2l:(limbs (R+R)).length ≤ 50:=limbs_length_le _ 50 (nat_lt50 (X:=R) (by omega)).1
 have EZ:=Lib.hid (show cmpN (limbs (R+R)) (limbs D) = z by rw [cmpN_limbs h2l (by omega),← hz,Int.natCast_add,Int.add_zero])
 rw [hz]
 clear hz
 have HCM:=Lib.hid (show ∀ (u v:Value) (W:World),OwnI u (limbs (R+R)) W→OwnI v (limbs D) W→Calls Tryz.prog 171 #[u,v] W (Postn z W) from fun u v W h1 h3=>(implNatCmp_any u v (limbs (R+R)) (limbs D) 0 _ 0 _ W (by omega) (by omega) (Nat.le_refl _) (Nat.le_refl _) h1.row h3.row).mono fun _ _ h=>postn_eq EZ.out h)
 obtain ⟨W0,hW0⟩:∃ W0,W0 = (w.alloc (.cells #[.bool neg,.slice Aq (limbs Q).length cq,.slice Ar (limbs R).length cr,.slice Ad (limbs D).length cd] 193)):=⟨_,rfl⟩
 rw [← hW0] at bb0 ks
 have HW0:=Lib.hid hW0
 clear hW0
 go_enter Tryz.func146,Tryz.ntmps146
 have ks_c0:=ks.here.cell 0 _ rfl
 have ks_c1:=ks.here.cell 1 _ rfl
 have ks_c2:=ks.here.cell 2 _ rfl
 have ks_c3:=ks.here.cell 3 _ rfl
 go_wp2_with fail
 rw [← HW0.out]
 have HC0:=Lib.hid (show Chg [] W0 W0.drew from (Chg.refl _ _).drew1)
 have HCr:=Lib.hid (show Chg [] W0 W0 from Chg.refl _ _)
 have KL:=Lib.hid (show ∀ W,Chg [] W0 W→W.cell? ⟨w.heap.size,0,none⟩ = some (.bool neg)∧W.cell? ⟨w.heap.size,1,none⟩ = some (.slice Aq (limbs Q).length cq)∧W.cell? ⟨w.heap.size,2,none⟩ = some (.slice Ar (limbs R).length cr)∧W.cell? ⟨w.heap.size,3,none⟩ = some (.slice Ad (limbs D).length cd)∧Hid (Chg [] W0 W) from fun W hc=>⟨(ks.chg hc (fun i hi hm=>by simp at hm)).here.cell 0 _ rfl,(ks.chg hc (fun i hi hm=>by simp at hm)).here.cell 1 _ rfl,(ks.chg hc (fun i hi hm=>by simp at hm)).here.cell 2 _ rfl,(ks.chg hc (fun i hi hm=>by simp at hm)).here.cell 3 _ rfl,Lib.hid hc⟩)
 have BBF:=Lib.hid (show ∀ W,Chg [] W0 W→Below w.heap.size w W from fun W hc=>below_chg bb0 hc bb0.size (fun i hi=>by simp at hi))
 clear ks_c0 ks_c1 ks_c2 ks_c3
 go_region_held3 (fun W=>W.cell? ⟨w.heap.size,0,none⟩ = some (.bool neg)∧W.cell? ⟨w.heap.size,1,none⟩ = some (.slice Aq (limbs Q).length cq)∧W.cell? ⟨w.heap.size,2,none⟩ = some (.slice Ar (limbs R).length cr)∧W.cell? ⟨w.heap.size,3,none⟩ = some (.slice Ad (limbs D).length cd)∧Hid (Chg [] W0 W))
  ((refine KL.out _ ?_;(first | exact HC2.out | exact HC1.out | exact HCr.out | exact HC0.out | exact HC2.out.drew1 | exact HC1.out.drew1 | exact HCr.out.drew1 | exact HC0.out.drew1 | exact HC2.out.trans (Chg.of_below (below_al (Below.refl _ _) _)) | exact HC1.out.trans (Chg.of_below (below_al (Below.refl _ _) _)) | exact HCr.out.trans (Chg.of_below (below_al (Below.refl _ _) _)) | exact HC0.out.trans (Chg.of_below (below_al (Below.refl _ _) _)) | fail)))
  (first
    | (go_at_call 172;(have hBB:=(‹_∧_∧_∧_∧Hid (Chg [] W0 _)›).2.2.2.2);(with_reducible refine ((implNatAdd_any _ _ (limbs R) (limbs R) 0 _ 0 _ _ (by omega) (by omega) (Nat.le_refl _) (Nat.le_refl _) (OwnI.row (Hr.out _ (BBF.out _ hBB.out))) (OwnI.row (Hr.out _ (BBF.out _ hBB.out)))).mono fun _ _ h=>(newI_eq h EA.out).newV).mono ?_);rintro e w1 ⟨ua,Sa,rfl,oa,la,b1⟩;have HC1:=Lib.hid (hBB.out.trans (Chg.of_below b1));obtain ⟨Ea,ea,rfl⟩:=own_len oa.here;have HBZ1:=Lib.hid hBB.out.size;clear hBB)
    | (go_at_call 171;(have hBB:=(‹_∧_∧_∧_∧Hid (Chg [] W0 _)›).2.2.2.2);(with_reducible refine (HCM.out _ _ _ (At.here (by first | exact oa | exact At.below oa (below_al (Below.refl _ _) _) | exact At.below (At.below oa (below_al (Below.refl _ _) _)) (below_al (Below.refl _ _) _) | exact At.move oa (fun _ _=>rfl) (Nat.le_refl _))) (Hd.out _ (BBF.out _ hBB.out))).mono ?_);rintro e w2 ⟨rfl,b2⟩;have HC2:=Lib.hid (hBB.out.trans (Chg.of_below b2));(have oa_2:=At.below (by first | exact oa | exact At.below oa (below_al (Below.refl _ _) _) | exact At.below (At.below oa (below_al (Below.refl _ _) _)) (below_al (Below.refl _ _) _) | exact At.move oa (fun _ _=>rfl) (Nat.le_refl _)) b2);have HBZ2:=Lib.hid hBB.out.size;clear hBB))
 have bb2:=BBF.out _ HC2.out
 replace ks:=ks.chg HC2.out (fun i hi hm=>by simp at hm)
 have oa:=oa_2
 go_wp2
 go_ret
 exact ⟨rfl,bb2⟩
set_option maxHeartbeats 1000000 in
theorem farther_0 (Aq Ar Ad:Option Addr) (cq cr cd:Nat) (neg:Bool) (Q R D:Nat) (w:World) (_:(limbs Q).length ≤ 50) (_:(limbs R).length ≤ 18) (_:(limbs D).length ≤ 18) (_:OwnI (.slice Aq (limbs Q).length cq) (limbs Q) w) (_:OwnI (.slice Ar (limbs R).length cr) (limbs R) w) (_:OwnI (.slice Ad (limbs D).length cd) (limbs D) w) :
 Calls Tryz.prog 141 #[.agg #[.bool neg,.slice Aq (limbs Q).length cq,.slice Ar (limbs R).length cr,.slice Ad (limbs D).length cd]] w (Postb (awayB neg Q R D 0) w):=by
 have bb0:Below w.heap.size w (w.alloc (.cells #[.bool neg,.slice Aq (limbs Q).length cq,.slice Ar (limbs R).length cr,.slice Ad (limbs D).length cd] 193)):=below_al (Below.refl _ _) _
 have ks:=(box_new w #[.bool neg,.slice Aq (limbs Q).length cq,.slice Ar (limbs R).length cr,.slice Ad (limbs D).length cd] 193)
 go_enter Tryz.func141,Tryz.ntmps141
 go_wp2
 go_ret
 exact ⟨ret_bool (rfl),bb0⟩
set_option maxHeartbeats 1000000 in
theorem farther_1 (Aq Ar Ad:Option Addr) (cq cr cd:Nat) (neg:Bool) (Q R D:Nat) (w:World) (_:(limbs Q).length ≤ 50) (_:(limbs R).length ≤ 18) (_:(limbs D).length ≤ 18) (_:OwnI (.slice Aq (limbs Q).length cq) (limbs Q) w) (_:OwnI (.slice Ar (limbs R).length cr) (limbs R) w) (_:OwnI (.slice Ad (limbs D).length cd) (limbs D) w) :
 Calls Tryz.prog 142 #[.agg #[.bool neg,.slice Aq (limbs Q).length cq,.slice Ar (limbs R).length cr,.slice Ad (limbs D).length cd]] w (Postb (awayB neg Q R D 1) w):=by
 have bb0:Below w.heap.size w (w.alloc (.cells #[.bool neg,.slice Aq (limbs Q).length cq,.slice Ar (limbs R).length cr,.slice Ad (limbs D).length cd] 193)):=below_al (Below.refl _ _) _
 have ks:=(box_new w #[.bool neg,.slice Aq (limbs Q).length cq,.slice Ar (limbs R).length cr,.slice Ad (limbs D).length cd] 193)
 go_enter Tryz.func142,Tryz.ntmps142
 go_wp2
 go_ret
 exact ⟨ret_bool (rfl),bb0⟩
set_option maxHeartbeats 1000000 in
theorem farther_2 (Aq Ar Ad:Option Addr) (cq cr cd:Nat) (neg:Bool) (Q R D:Nat) (w:World) (_:(limbs Q).length ≤ 50) (_:(limbs R).length ≤ 18) (_:(limbs D).length ≤ 18) (_:OwnI (.slice Aq (limbs Q).length cq) (limbs Q) w) (_:OwnI (.slice Ar (limbs R).length cr) (limbs R) w) (_:OwnI (.slice Ad (limbs D).length cd) (limbs D) w) :
 Calls Tryz.prog 143 #[.agg #[.bool neg,.slice Aq (limbs Q).length cq,.slice Ar (limbs R).length cr,.slice Ad (limbs D).length cd]] w (Postb (awayB neg Q R D 2) w):=by
 have bb0:Below w.heap.size w (w.alloc (.cells #[.bool neg,.slice Aq (limbs Q).length cq,.slice Ar (limbs R).length cr,.slice Ad (limbs D).length cd] 193)):=below_al (Below.refl _ _) _
 have ks:=(box_new w #[.bool neg,.slice Aq (limbs Q).length cq,.slice Ar (limbs R).length cr,.slice Ad (limbs D).length cd] 193)
 go_enter Tryz.func143,Tryz.ntmps143
 have ks_c0:=ks.here.cell 0 _ rfl
 have ks_c1:=ks.here.cell 1 _ rfl
 have ks_c2:=ks.here.cell 2 _ rfl
 have ks_c3:=ks.here.cell 3 _ rfl
 go_wp2
 go_ret
 exact ⟨ret_bool (rfl),bb0⟩
set_option maxHeartbeats 1000000 in
theorem farther_3 (Aq Ar Ad:Option Addr) (cq cr cd:Nat) (neg:Bool) (Q R D:Nat) (w:World) (_:(limbs Q).length ≤ 50) (_:(limbs R).length ≤ 18) (_:(limbs D).length ≤ 18) (_:OwnI (.slice Aq (limbs Q).length cq) (limbs Q) w) (_:OwnI (.slice Ar (limbs R).length cr) (limbs R) w) (_:OwnI (.slice Ad (limbs D).length cd) (limbs D) w) :
 Calls Tryz.prog 144 #[.agg #[.bool neg,.slice Aq (limbs Q).length cq,.slice Ar (limbs R).length cr,.slice Ad (limbs D).length cd]] w (Postb (awayB neg Q R D 3) w):=by
 have bb0:Below w.heap.size w (w.alloc (.cells #[.bool neg,.slice Aq (limbs Q).length cq,.slice Ar (limbs R).length cr,.slice Ad (limbs D).length cd] 193)):=below_al (Below.refl _ _) _
 have ks:=(box_new w #[.bool neg,.slice Aq (limbs Q).length cq,.slice Ar (limbs R).length cr,.slice Ad (limbs D).length cd] 193)
 go_enter Tryz.func144,Tryz.ntmps144
 have ks_c0:=ks.here.cell 0 _ rfl
 have ks_c1:=ks.here.cell 1 _ rfl
 have ks_c2:=ks.here.cell 2 _ rfl
 have ks_c3:=ks.here.cell 3 _ rfl
 go_wp2
 go_ret
 exact ⟨ret_bool (rfl),bb0⟩
set_option maxHeartbeats 1000000 in
theorem farther_4 (Aq Ar Ad:Option Addr) (cq cr cd:Nat) (neg:Bool) (Q R D:Nat) (w:World) (hql:(limbs Q).length ≤ 50) (hrl:(limbs R).length ≤ 18) (hdl:(limbs D).length ≤ 18) (oq:OwnI (.slice Aq (limbs Q).length cq) (limbs Q) w) (or_:OwnI (.slice Ar (limbs R).length cr) (limbs R) w) (od:OwnI (.slice Ad (limbs D).length cd) (limbs D) w) :
 Calls Tryz.prog 145 #[.agg #[.bool neg,.slice Aq (limbs Q).length cq,.slice Ar (limbs R).length cr,.slice Ad (limbs D).length cd]] w (Postb (awayB neg Q R D 4) w):=by
 obtain ⟨c,hc⟩:∃ c,cmpI ((R:Int)+R+0) D = c:=⟨_,rfl⟩
 have HC:=Lib.hid hc
 have HA:=Lib.hid (away_cmp neg Q R D hc)
 have h3:c = -1 ∨ c = 0 ∨ c = 1:=by rw [← hc];exact cmp_three _ _
 have Hq:=Lib.hid (show ∀ W,Below w.heap.size w W→OwnI (.slice Aq (limbs Q).length cq) (limbs Q) W from fun W hb=>OwnI.belowI oq hb)
 have Hr:=Lib.hid (show ∀ W,Below w.heap.size w W→OwnI (.slice Ar (limbs R).length cr) (limbs R) W from fun W hb=>OwnI.belowI or_ hb)
 have Hd:=Lib.hid (show ∀ W,Below w.heap.size w W→OwnI (.slice Ad (limbs D).length cd) (limbs D) W from fun W hb=>OwnI.belowI od hb)
 clear hc oq or_ od
 have bb0:Below w.heap.size w (w.alloc (.cells #[.bool neg,.slice Aq (limbs Q).length cq,.slice Ar (limbs R).length cr,.slice Ad (limbs D).length cd] 193)):=below_al (Below.refl _ _) _
 have ks:=(box_new w #[.bool neg,.slice Aq (limbs Q).length cq,.slice Ar (limbs R).length cr,.slice Ad (limbs D).length cd] 193)
 go_enter Tryz.func145,Tryz.ntmps145
 have ks_c0:=ks.here.cell 0 _ rfl
 have ks_c1:=ks.here.cell 1 _ rfl
 have ks_c2:=ks.here.cell 2 _ rfl
 have ks_c3:=ks.here.cell 3 _ rfl
 go_wp2_with fail
 clear ks_c0 ks_c1 ks_c2 ks_c3
 refine ((overHalf_any Aq Ar Ad cq cr cd neg Q R D _ hql hrl hdl (Hq.out _ bb0) (Hr.out _ bb0) (Hd.out _ bb0)).mono fun _ _ h=>postn_eq HC.out h).mono ?_
 rintro e w1 ⟨rfl,b1⟩
 have bb1:=Below.next bb0 b1
 replace ks:=ks.below b1
 clear h3 ks
 go_wp2
 go_ret
 exact ⟨ret_bool (HA.out.1.symm),bb1⟩
set_option maxHeartbeats 1000000 in
theorem farther_5 (Aq Ar Ad:Option Addr) (cq cr cd:Nat) (neg:Bool) (Q R D:Nat) (w:World) (hql:(limbs Q).length ≤ 50) (hrl:(limbs R).length ≤ 18) (hdl:(limbs D).length ≤ 18) (oq:OwnI (.slice Aq (limbs Q).length cq) (limbs Q) w) (or_:OwnI (.slice Ar (limbs R).length cr) (limbs R) w) (od:OwnI (.slice Ad (limbs D).length cd) (limbs D) w) :
 Calls Tryz.prog 147 #[.agg #[.bool neg,.slice Aq (limbs Q).length cq,.slice Ar (limbs R).length cr,.slice Ad (limbs D).length cd]] w (Postb (awayB neg Q R D 5) w):=by
 obtain ⟨c,hc⟩:∃ c,cmpI ((R:Int)+R+0) D = c:=⟨_,rfl⟩
 have HC:=Lib.hid hc
 have HA:=Lib.hid (away_cmp neg Q R D hc)
 have h3:c = -1 ∨ c = 0 ∨ c = 1:=by rw [← hc];exact cmp_three _ _
 have Hq:=Lib.hid (show ∀ W,Below w.heap.size w W→OwnI (.slice Aq (limbs Q).length cq) (limbs Q) W from fun W hb=>OwnI.belowI oq hb)
 have Hr:=Lib.hid (show ∀ W,Below w.heap.size w W→OwnI (.slice Ar (limbs R).length cr) (limbs R) W from fun W hb=>OwnI.belowI or_ hb)
 have Hd:=Lib.hid (show ∀ W,Below w.heap.size w W→OwnI (.slice Ad (limbs D).length cd) (limbs D) W from fun W hb=>OwnI.belowI od hb)
 clear hc oq or_ od
 have bb0:Below w.heap.size w (w.alloc (.cells #[.bool neg,.slice Aq (limbs Q).length cq,.slice Ar (limbs R).length cr,.slice Ad (limbs D).length cd] 193)):=below_al (Below.refl _ _) _
 have ks:=(box_new w #[.bool neg,.slice Aq (limbs Q).length cq,.slice Ar (limbs R).length cr,.slice Ad (limbs D).length cd] 193)
 go_enter Tryz.func147,Tryz.ntmps147
 have ks_c0:=ks.here.cell 0 _ rfl
 have ks_c1:=ks.here.cell 1 _ rfl
 have ks_c2:=ks.here.cell 2 _ rfl
 have ks_c3:=ks.here.cell 3 _ rfl
 go_wp2_with fail
 clear ks_c0 ks_c1 ks_c2 ks_c3
 refine ((overHalf_any Aq Ar Ad cq cr cd neg Q R D _ hql hrl hdl (Hq.out _ bb0) (Hr.out _ bb0) (Hd.out _ bb0)).mono fun _ _ h=>postn_eq HC.out h).mono ?_
 rintro e w1 ⟨rfl,b1⟩
 have bb1:=Below.next bb0 b1
 replace ks:=ks.below b1
 clear h3 ks
 go_wp2
 go_ret
 exact ⟨ret_bool (HA.out.2.1.symm),bb1⟩
set_option maxHeartbeats 1000000 in
theorem farther_6 (Aq Ar Ad:Option Addr) (cq cr cd:Nat) (neg:Bool) (Q R D:Nat) (w:World) (hql:(limbs Q).length ≤ 50) (hrl:(limbs R).length ≤ 18) (hdl:(limbs D).length ≤ 18) (oq:OwnI (.slice Aq (limbs Q).length cq) (limbs Q) w) (or_:OwnI (.slice Ar (limbs R).length cr) (limbs R) w) (od:OwnI (.slice Ad (limbs D).length cd) (limbs D) w) :
 Calls Tryz.prog 148 #[.agg #[.bool neg,.slice Aq (limbs Q).length cq,.slice Ar (limbs R).length cr,.slice Ad (limbs D).length cd]] w (Postb (awayB neg Q R D 6) w):=by
 obtain ⟨c,hc⟩:∃ c,cmpI ((R:Int)+R+0) D = c:=⟨_,rfl⟩
 have HC:=Lib.hid hc
 have HA:=Lib.hid (away_cmp neg Q R D hc)
 have h3:c = -1 ∨ c = 0 ∨ c = 1:=by rw [← hc];exact cmp_three _ _
 have Hq:=Lib.hid (show ∀ W,Below w.heap.size w W→OwnI (.slice Aq (limbs Q).length cq) (limbs Q) W from fun W hb=>OwnI.belowI oq hb)
 have Hr:=Lib.hid (show ∀ W,Below w.heap.size w W→OwnI (.slice Ar (limbs R).length cr) (limbs R) W from fun W hb=>OwnI.belowI or_ hb)
 have Hd:=Lib.hid (show ∀ W,Below w.heap.size w W→OwnI (.slice Ad (limbs D).length cd) (limbs D) W from fun W hb=>OwnI.belowI od hb)
 clear hc oq or_ od
 have bb0:Below w.heap.size w (w.alloc (.cells #[.bool neg,.slice Aq (limbs Q).length cq,.slice Ar (limbs R).length cr,.slice Ad (limbs D).length cd] 193)):=below_al (Below.refl _ _) _
 have ks:=(box_new w #[.bool neg,.slice Aq (limbs Q).length cq,.slice Ar (limbs R).length cr,.slice Ad (limbs D).length cd] 193)
 go_enter Tryz.func148,Tryz.ntmps148
 have ks_c0:=ks.here.cell 0 _ rfl
 have ks_c1:=ks.here.cell 1 _ rfl
 have ks_c2:=ks.here.cell 2 _ rfl
 have ks_c3:=ks.here.cell 3 _ rfl
 go_wp2_with fail
 clear ks_c0 ks_c1 ks_c2 ks_c3
 refine ((overHalf_any Aq Ar Ad cq cr cd neg Q R D _ hql hrl hdl (Hq.out _ bb0) (Hr.out _ bb0) (Hd.out _ bb0)).mono fun _ _ h=>postn_eq HC.out h).mono ?_
 rintro e w1 ⟨rfl,b1⟩
 have bb1:=Below.next bb0 b1
 replace ks:=ks.below b1
 rcases h3 with rfl | rfl | rfl
 ·skip
  have ks_c0:=ks.here.cell 0 _ rfl
  have ks_c1:=ks.here.cell 1 _ rfl
  have ks_c2:=ks.here.cell 2 _ rfl
  have ks_c3:=ks.here.cell 3 _ rfl
  go_wp2_with fail
  clear ks_c0 ks_c1 ks_c2 ks_c3
  refine ((overHalf_any Aq Ar Ad cq cr cd neg Q R D _ hql hrl hdl (Hq.out _ bb1) (Hr.out _ bb1) (Hd.out _ bb1)).mono fun _ _ h=>postn_eq HC.out h).mono ?_
  rintro e w2 ⟨rfl,b2⟩
  have bb2:=Below.next bb1 b2
  replace ks:=ks.below b2
  clear ks
  go_wp2
  go_ret
  exact ⟨ret_bool ((HA.out.2.2.trans (by simp)).symm),bb2⟩
 ·have he:decide (Q % 2 = 1) = !decide (Q % 2 = 0):=by rcases Nat.mod_two_eq_zero_or_one Q with h | h <;> rw [h] <;> rfl
  have HV:=Lib.hid (show awayB neg Q R D 6 = !decide (Q % 2 = 0) by rw [HA.out.2.2,he];rfl)
  clear he HA
  have ks_c0:=ks.here.cell 0 _ rfl
  have ks_c1:=ks.here.cell 1 _ rfl
  have ks_c2:=ks.here.cell 2 _ rfl
  have ks_c3:=ks.here.cell 3 _ rfl
  go_wp2_with fail
  clear ks_c0 ks_c1 ks_c2 ks_c3
  refine ((overHalf_any Aq Ar Ad cq cr cd neg Q R D _ hql hrl hdl (Hq.out _ bb1) (Hr.out _ bb1) (Hd.out _ bb1)).mono fun _ _ h=>postn_eq HC.out h).mono ?_
  rintro e w2 ⟨rfl,b2⟩
  have bb2:=Below.next bb1 b2
  replace ks:=ks.below b2
  have ks_c0:=ks.here.cell 0 _ rfl
  have ks_c1:=ks.here.cell 1 _ rfl
  have ks_c2:=ks.here.cell 2 _ rfl
  have ks_c3:=ks.here.cell 3 _ rfl
  go_wp2_with fail
  clear ks_c0 ks_c1 ks_c2 ks_c3
  refine (implNatEven_any _ (limbs Q) 0 _ _ (by omega) (OwnI.row (Hq.out _ bb2))).mono ?_
  rintro e w_ ⟨rfl,rfl⟩
  rw [even_limbs (by omega)]
  generalize decide (Q % 2 = 0) = b at *
  clear ks
  cases b
  ·skip
   go_wp2
   go_ret
   exact ⟨ret_bool (HV.out.symm),bb2⟩
  ·skip
   go_wp2
   go_ret
   exact ⟨ret_bool (HV.out.symm),bb2⟩
 ·skip
  clear ks
  go_wp2
  go_ret
  exact ⟨ret_bool ((HA.out.2.2.trans (by simp)).symm),bb1⟩
theorem farther_any (Aq Ar Ad:Option Addr) (cq cr cd:Nat) (neg:Bool) (Q R D:Nat) (w:World) (hql:(limbs Q).length ≤ 50) (hrl:(limbs R).length ≤ 18) (hdl:(limbs D).length ≤ 18) (oq:OwnI (.slice Aq (limbs Q).length cq) (limbs Q) w) (or_:OwnI (.slice Ar (limbs R).length cr) (limbs R) w) (od:OwnI (.slice Ad (limbs D).length cd) (limbs D) w) (m:Int) (hm:modeB m = true) :
 Calls Tryz.prog (fnOf m) #[.agg #[.bool neg,.slice Aq (limbs Q).length cq,.slice Ar (limbs R).length cr,.slice Ad (limbs D).length cd]] w (Postb (awayB neg Q R D m) w):=by
 rcases modeB_cases hm with rfl | rfl | rfl | rfl | rfl | rfl | rfl
 ·exact farther_0 Aq Ar Ad cq cr cd neg Q R D w hql hrl hdl oq or_ od
 ·exact farther_1 Aq Ar Ad cq cr cd neg Q R D w hql hrl hdl oq or_ od
 ·exact farther_2 Aq Ar Ad cq cr cd neg Q R D w hql hrl hdl oq or_ od
 ·exact farther_3 Aq Ar Ad cq cr cd neg Q R D w hql hrl hdl oq or_ od
 ·exact farther_4 Aq Ar Ad cq cr cd neg Q R D w hql hrl hdl oq or_ od
 ·exact farther_5 Aq Ar Ad cq cr cd neg Q R D w hql hrl hdl oq or_ od
 ·exact farther_6 Aq Ar Ad cq cr cd neg Q R D w hql hrl hdl oq or_ od
theorem fnOf_enters {m:Int} (hm:modeB m = true):Enters Tryz.prog (fnOf m):=by
 rcases modeB_cases hm with rfl | rfl | rfl | rfl | rfl | rfl | rfl
 ·exact (enters_of Tryz.func141 (by kernel_rfl) rfl:Enters Tryz.prog 141)
 ·exact (enters_of Tryz.func142 (by kernel_rfl) rfl:Enters Tryz.prog 142)
 ·exact (enters_of Tryz.func143 (by kernel_rfl) rfl:Enters Tryz.prog 143)
 ·exact (enters_of Tryz.func144 (by kernel_rfl) rfl:Enters Tryz.prog 144)
 ·exact (enters_of Tryz.func145 (by kernel_rfl) rfl:Enters Tryz.prog 145)
 ·exact (enters_of Tryz.func147 (by kernel_rfl) rfl:Enters Tryz.prog 147)
 ·exact (enters_of Tryz.func148 (by kernel_rfl) rfl:Enters Tryz.prog 148)
set_option maxHeartbeats 4000000 in
theorem quotient_any (nm:ByteArray) (vx vd:Value) (x:SI) (D:Nat) (m:Int) (w:World) (hm:modeB m = true) (ok:okS x = true) (h0D:0 < D) (hdl:(limbs D).length ≤ 18) (hx:OwnS vx x w) (hd:OwnI vd (limbs D) w) (hsen:Sen w) :
 Calls Tryz.prog 158 #[.agg #[.string nm,.func (.func (fnOf m)) #[] #[]],vx,vd] w (NewV (fun u=>OwnS u (mkS x.1 (quoL x.1 (nval x.2).toNat D m))) w):=by
 have HS:=Lib.hid hsen
 clear hsen
 have Hx:=Lib.hid hx
 obtain ⟨Ax,cx,rfl⟩:=ownS_form hx
 have OSx:=Lib.hid (show ∀ W,Below w.heap.size w W→OwnS (.agg #[.bool x.1,.slice Ax x.2.length cx]) x W from fun W hb=>OwnS.below Hx.out hb)
 have OIx:=Lib.hid (show ∀ W,Below w.heap.size w W→OwnI (.slice Ax x.2.length cx) x.2 W from fun W hb=>ownS_open (OSx.out W hb))
 clear hx
 obtain ⟨Ad,cd,rfl⟩:=own_len hd
 have ODd:=Lib.hid (show ∀ W,Below w.heap.size w W→OwnI (.slice Ad (limbs D).length cd) (limbs D) W from fun W hb=>OwnI.belowI hd hb)
 clear hd
 have HM:=Lib.hid hm
 have HO:=Lib.hid ok
 have HF:=Lib.hid (fun (Aq Ar Ad:Option Addr) (cq cr cd:Nat) (neg:Bool) (Q R D:Nat) (w:World) hql hrl hdl oq or_ od=>farther_any Aq Ar Ad cq cr cd neg Q R D w hql hrl hdl oq or_ od m hm)
 have he:=fnOf_enters hm
 unfold Enters at he
 clear hm
 generalize fnOf m = fk at HF he ⊢
 have bb0:Below w.heap.size w (((w.alloc (.cells #[.string nm,.func (.func fk) #[] #[]] 151)).alloc (.cells #[.bool x.1,.slice Ax x.2.length cx] 32)).alloc (.cells #[.bool false,.slice none 0 0] 32)):=below_al (below_al (below_al (Below.refl _ _) _) _) _
 have km:=(box_new w #[.string nm,.func (.func fk) #[] #[]] 151).below (below_al (below_al (Below.refl _ _) (.cells #[.bool x.1,.slice Ax x.2.length cx] 32)) (.cells #[.bool false,.slice none 0 0] 32))
 have kx:=(box_new (w.alloc (.cells #[.string nm,.func (.func fk) #[] #[]] 151)) #[.bool x.1,.slice Ax x.2.length cx] 32).below (below_al (Below.refl _ _) (.cells #[.bool false,.slice none 0 0] 32))
 rw [show (w.alloc (.cells #[.string nm,.func (.func fk) #[] #[]] 151)).heap.size = w.heap.size+1 by simp] at kx
 have ko:=(box_new ((w.alloc (.cells #[.string nm,.func (.func fk) #[] #[]] 151)).alloc (.cells #[.bool x.1,.slice Ax x.2.length cx] 32)) #[.bool false,.slice none 0 0] 32)
 rw [show ((w.alloc (.cells #[.string nm,.func (.func fk) #[] #[]] 151)).alloc (.cells #[.bool x.1,.slice Ax x.2.length cx] 32)).heap.size = w.heap.size+1+1 by simp] at ko
 have HKO:=Lib.hid (ko.lt (w.heap.size+1+1) (by simp))
 have hp:=okS_parts ok
 have hn:=nval_ok hp.1
 have hx50:=(natOk_parts hp.1).2.1
 obtain ⟨A,hA⟩:∃ A,(nval x.2).toNat = A:=⟨_,rfl⟩
 have hxA:x.2 = limbs A:=by rw [← hA];exact natOk_limbs hp.1
 have hnA:nval x.2 = (A:Int):=by omega
 rw [hA]
 obtain ⟨Q,hQ⟩:∃ Q,A / D = Q:=⟨_,rfl⟩
 obtain ⟨R,hR⟩:∃ R,A % D = R:=⟨_,rfl⟩
 have EQ:=Lib.hid hQ
 have ER:=Lib.hid hR
 have hAl:=nval_lt (limbs A) (limbs_digN A)
 rw [limbs_val,← hxA] at hAl
 have hql:(limbs Q).length ≤ 50:=Nat.le_trans (limbs_length_le Q x.2.length (by have h1:=Nat.div_le_self A D;rw [hQ] at h1;omega)) hx50
 have hDl:=nval_lt (limbs D) (limbs_digN D)
 rw [limbs_val] at hDl
 have hrl:(limbs R).length ≤ 18:=Nat.le_trans (limbs_length_le R (limbs D).length (by have h1:=Nat.mod_lt A h0D;rw [hR] at h1;omega)) hdl
 have hD0:0 < (limbs D).length:=by have:=(limbs_zero_iff D).1;omega
 have hdv:divN x.2 (limbs D) = (limbs Q,limbs R):=by unfold divN;rw [if_pos ⟨hp.1,limbs_okL D (by omega),hD0⟩,hnA,limbs_val,div_toNat,← Int.natCast_emod,Int.toNat_natCast,hQ,hR]
 have E1:=Lib.hid (show (divN x.2 (limbs D)).1 = limbs Q by rw [hdv])
 have E2:=Lib.hid (show (divN x.2 (limbs D)).2 = limbs R by rw [hdv])
 clear hA hxA hnA hQ hR hAl hDl hdv hp hn ok hD0 h0D
 go_enter Tryz.func158,Tryz.ntmps158
 have kx_c0:=kx.here.cell 0 _ rfl
 have kx_c1:=kx.here.cell 1 _ rfl
 go_wp2_with fail
 clear kx_c0 kx_c1
 refine ((implNatDiv_any _ _ x.2 (limbs D) 0 _ 0 _ _ (by omega) (by omega) (Nat.le_refl _) (Nat.le_refl _) (OIx.out _ bb0).row (ODd.out _ bb0).row (HS.out.below bb0)).mono fun _ _ h=>twoRows_eq h E1.out E2.out).mono ?_
 rintro e w1 ⟨vq,vr_,rfl,oq0,or0,hqr,b1⟩
 obtain ⟨Aq,cq,rfl⟩:=own_len oq0
 obtain ⟨As,cs,rfl⟩:=own_len or0
 have oq:=own_at' oq0
 have os:=own_at' or0
 have lq:=own_within oq0
 clear oq0 or0 hqr
 have bb1:=Below.next bb0 b1
 replace km:=km.below b1
 replace kx:=kx.below b1
 replace ko:=ko.below b1
 by_cases h0:R = 0
 ·have HV:=Lib.hid (show quoL x.1 A D m = limbs Q from quoL_plain EQ.out ER.out (.inl h0))
  subst h0
  rw [show (limbs 0).length = 0 by rw [limbs_zero];rfl] at *
  clear os
  have hX50:(limbs Q).length ≤ 50:=hql
  obtain ⟨sg,hsg⟩:∃ sg,(x.1 && decide (0 < (limbs Q).length)) = sg:=⟨_,rfl⟩
  have ESG:=Lib.hid hsg
  have EM:=Lib.hid (show mkS x.1 (quoL x.1 A D m) = (sg,limbs Q) by rw [HV.out];exact mkS_quo hX50 hsg)
  clear hsg
  have kx_c0:=kx.here.cell 0 _ rfl
  have kx_c1:=kx.here.cell 1 _ rfl
  have kn:=box_new (w1) #[.slice Aq (limbs Q).length cq,.bool x.1] 206
  have aln:=below_al (Below.refl (w1).heap.size (w1)) (.cells #[.slice Aq (limbs Q).length cq,.bool x.1] 206)
  have bbn:=Below.next bb1 aln
  replace km:=km.below aln
  replace kx:=kx.below aln
  replace ko:=ko.below aln
  replace oq:=oq.below aln
  go_wp2_with fail
  clear kx_c0 kx_c1
  refine (signed_same _ _ Aq cq (limbs Q) sg _ hX50 ESG.out kn.here).mono ?_
  rintro e w2 ⟨rfl,b2⟩
  have bb2:=Below.next bbn b2
  replace km:=km.below b2
  replace kx:=kx.below b2
  replace ko:=ko.below b2
  replace oq:=oq.below b2
  replace kn:=kn.below b2
  have of:=oq.imp (fun _ h=>(OwnS.mk h:OwnS (.agg #[.bool (sg,(limbs Q)).1,.slice Aq (limbs Q).length cq]) (sg,(limbs Q)) _))
  have lf:=within_up lq (Nat.le_refl _) (show _ ≤ w2.heap.size by have:=aln.size;have:=b2.size;omega)
  have HW:=Lib.hid (newS_at (r:=w.heap.size+1+1) of lf (by have:=HKO.out;have:=b1.size; omega) (by omega) bb2)
  have cz0:=ko.here.cell 0 _ rfl
  have fz0:=Lib.frozen_of_heap ko.here 0
  have cz1:=ko.here.cell 1 _ rfl
  have fz1:=Lib.frozen_of_heap ko.here 1
  clear of ko kn km
  go_wp2
  refine bodyPost_ret (v:=.agg #[.bool sg,.slice Aq _ cq]) (by simp [results,Tryz.results158,go_sem,cz0,cz1];try rfl) rfl ?_
  rw [EM.out]
  exact HW.out
 ·have hlen:((limbs R).length:Int) > 0:=by have:=mt (limbs_zero_iff R).1 h0;omega
  have H0:=Lib.hid h0
  clear h0
  have kx_c0:=kx.here.cell 0 _ rfl
  have kx_c1:=kx.here.cell 1 _ rfl
  have km_c0:=km.here.cell 0 _ rfl
  have km_c1:=km.here.cell 1 _ rfl
  go_wp2_with fail
  clear kx_c0 kx_c1 km_c0 km_c1
  refine (show Calls _ fk #[.agg #[.bool x.1,.slice Aq (limbs Q).length cq,.slice As (limbs R).length cs,.slice Ad (limbs D).length cd]] _ (Postb (awayB x.1 Q R D m) _) from HF.out Aq As Ad cq cs cd x.1 Q R D _ hql hrl hdl oq.here os.here (ODd.out _ bb1)).mono ?_
  rintro e w2 ⟨rfl,b2⟩
  have bb2:=Below.next bb1 b2
  replace km:=km.below b2
  replace kx:=kx.below b2
  replace ko:=ko.below b2
  replace oq:=oq.below b2
  replace os:=os.below b2
  by_cases ha:awayB x.1 Q R D m = true
  ·have HV:=Lib.hid (show quoL x.1 A D m = addN (limbs Q) (limbs 1) from quoL_more EQ.out ER.out H0.out ha)
   rw [ha]
   clear ha
   have kx_c0:=kx.here.cell 0 _ rfl
   have kx_c1:=kx.here.cell 1 _ rfl
   go_wp2_with fail
   clear kx_c0 kx_c1
   refine (implNatOf_any 1 _ (by decide)).mono ?_
   rintro e w3 ⟨vo,rfl,oo,b3⟩
   rw [show (1:Int).toNat = 1 from rfl] at oo
   have bb3:=Below.next bb2 b3
   replace km:=km.below b3
   replace kx:=kx.below b3
   replace ko:=ko.below b3
   replace oq:=oq.below b3
   replace os:=os.below b3
   go_wp2_with fail
   refine (implNatAdd_any _ _ (limbs Q) (limbs 1) 0 _ _ _ _ (by omega) (by rw [one_limbs];decide) (Nat.le_refl _) (Nat.le_refl _) oq.here.row (Row.of_own oo)).mono ?_
   rintro e w4 ⟨vz,rfl,oz0,b4⟩
   obtain ⟨Az,cz,rfl⟩:=own_len oz0
   have oz:=own_at' oz0
   have lz:=own_within oz0
   clear oz0
   have bb4:=Below.next bb3 b4
   replace km:=km.below b4
   replace kx:=kx.below b4
   replace ko:=ko.below b4
   replace oq:=oq.below b4
   replace os:=os.below b4
   clear oq os
   have hX50:(addN (limbs Q) (limbs 1)).length ≤ 50:=addN_len50 _ _
   obtain ⟨sg,hsg⟩:∃ sg,(x.1 && decide (0 < (addN (limbs Q) (limbs 1)).length)) = sg:=⟨_,rfl⟩
   have ESG:=Lib.hid hsg
   have EM:=Lib.hid (show mkS x.1 (quoL x.1 A D m) = (sg,addN (limbs Q) (limbs 1)) by rw [HV.out];exact mkS_quo hX50 hsg)
   clear hsg
   have kx_c0:=kx.here.cell 0 _ rfl
   have kx_c1:=kx.here.cell 1 _ rfl
   have kn:=box_new (w4) #[.slice Az (addN (limbs Q) (limbs 1)).length cz,.bool x.1] 206
   have aln:=below_al (Below.refl (w4).heap.size (w4)) (.cells #[.slice Az (addN (limbs Q) (limbs 1)).length cz,.bool x.1] 206)
   have bbn:=Below.next bb4 aln
   replace km:=km.below aln
   replace kx:=kx.below aln
   replace ko:=ko.below aln
   replace oz:=oz.below aln
   go_wp2_with fail
   clear kx_c0 kx_c1
   refine (signed_same _ _ Az cz (addN (limbs Q) (limbs 1)) sg _ hX50 ESG.out kn.here).mono ?_
   rintro e w5 ⟨rfl,b5⟩
   have bb5:=Below.next bbn b5
   replace km:=km.below b5
   replace kx:=kx.below b5
   replace ko:=ko.below b5
   replace oz:=oz.below b5
   replace kn:=kn.below b5
   have of:=oz.imp (fun _ h=>(OwnS.mk h:OwnS (.agg #[.bool (sg,(addN (limbs Q) (limbs 1))).1,.slice Az (addN (limbs Q) (limbs 1)).length cz]) (sg,(addN (limbs Q) (limbs 1))) _))
   have lf:=within_up lz (Nat.le_refl _) (show _ ≤ w5.heap.size by have:=aln.size;have:=b2.size;have:=b3.size;have:=b4.size;have:=b5.size;omega)
   have HW:=Lib.hid (newS_at (r:=w.heap.size+1+1) of lf (by have:=HKO.out;have:=b1.size;have:=b2.size;have:=b3.size;have:=b4.size;omega) (by omega) bb5)
   have cz0:=ko.here.cell 0 _ rfl
   have fz0:=Lib.frozen_of_heap ko.here 0
   have cz1:=ko.here.cell 1 _ rfl
   have fz1:=Lib.frozen_of_heap ko.here 1
   clear of ko kn km
   go_wp2
   refine bodyPost_ret (v:=.agg #[.bool sg,.slice Az _ cz]) (by simp [results,Tryz.results158,go_sem,cz0,cz1];try rfl) rfl ?_
   rw [EM.out]
   exact HW.out
  ·have ha':awayB x.1 Q R D m = false:=by simpa using ha
   have HV:=Lib.hid (show quoL x.1 A D m = limbs Q from quoL_plain EQ.out ER.out (.inr ha'))
   rw [ha']
   clear ha ha' os
   have hX50:(limbs Q).length ≤ 50:=hql
   obtain ⟨sg,hsg⟩:∃ sg,(x.1 && decide (0 < (limbs Q).length)) = sg:=⟨_,rfl⟩
   have ESG:=Lib.hid hsg
   have EM:=Lib.hid (show mkS x.1 (quoL x.1 A D m) = (sg,limbs Q) by rw [HV.out];exact mkS_quo hX50 hsg)
   clear hsg
   have kx_c0:=kx.here.cell 0 _ rfl
   have kx_c1:=kx.here.cell 1 _ rfl
   have kn:=box_new (w2) #[.slice Aq (limbs Q).length cq,.bool x.1] 206
   have aln:=below_al (Below.refl (w2).heap.size (w2)) (.cells #[.slice Aq (limbs Q).length cq,.bool x.1] 206)
   have bbn:=Below.next bb2 aln
   replace km:=km.below aln
   replace kx:=kx.below aln
   replace ko:=ko.below aln
   replace oq:=oq.below aln
   go_wp2_with fail
   clear kx_c0 kx_c1
   refine (signed_same _ _ Aq cq (limbs Q) sg _ hX50 ESG.out kn.here).mono ?_
   rintro e w3 ⟨rfl,b3⟩
   have bb3:=Below.next bbn b3
   replace km:=km.below b3
   replace kx:=kx.below b3
   replace ko:=ko.below b3
   replace oq:=oq.below b3
   replace kn:=kn.below b3
   have of:=oq.imp (fun _ h=>(OwnS.mk h:OwnS (.agg #[.bool (sg,(limbs Q)).1,.slice Aq (limbs Q).length cq]) (sg,(limbs Q)) _))
   have lf:=within_up lq (Nat.le_refl _) (show _ ≤ w3.heap.size by have:=aln.size;have:=b2.size;have:=b3.size;omega)
   have HW:=Lib.hid (newS_at (r:=w.heap.size+1+1) of lf (by have:=HKO.out;have:=b1.size;have:=b2.size;omega) (by omega) bb3)
   have cz0:=ko.here.cell 0 _ rfl
   have fz0:=Lib.frozen_of_heap ko.here 0
   have cz1:=ko.here.cell 1 _ rfl
   have fz1:=Lib.frozen_of_heap ko.here 1
   clear of ko kn km
   go_wp2
   refine bodyPost_ret (v:=.agg #[.bool sg,.slice Aq _ cq]) (by simp [results,Tryz.results158,go_sem,cz0,cz1];try rfl) rfl ?_
   rw [EM.out]
   exact HW.out
set_option maxHeartbeats 4000000 in
theorem implRatRound_any (vr:Value) (r:QI) (m:Int) (w:World) (hz:szQ r ≤ 1048576) (hr:OwnQ vr r w) (hsen:Sen w) :
 Calls Tryz.prog 130 #[vr,.int .i64 m] w (PostSb (roundR r m).1 (roundR r m).2 w):=by
 have HS:=Lib.hid hsen
 clear hsen
 have Hr:=Lib.hid hr
 obtain ⟨Ar,cr,Br,dr,rfl⟩:=ownQ_form hr
 have OQr:=Lib.hid (show ∀ W,Below w.heap.size w W→OwnQ (.agg #[.bool r.1.1,.slice Ar r.1.2.length cr,.slice Br r.2.length dr]) r W from fun W hb=>OwnQ.below Hr.out hb)
 have OUr:=Lib.hid (show ∀ W,Below w.heap.size w W→OwnI (.slice Ar r.1.2.length cr) r.1.2 W from fun W hb=>(ownQ_open (OQr.out W hb)).2.1)
 have ODr:=Lib.hid (show ∀ W,Below w.heap.size w W→OwnI (.slice Br r.2.length dr) r.2 W from fun W hb=>(ownQ_open (OQr.out W hb)).2.2.1)
 have OSr:=Lib.hid (show ∀ W,Below w.heap.size w W→OwnS (.agg #[.bool r.1.1,.slice Ar r.1.2.length cr]) r.1 W from fun W hb=>OwnS.mk (OUr.out W hb))
 clear hr
 have bb0:Below w.heap.size w ((w.alloc (.cells #[.bool r.1.1,.slice Ar r.1.2.length cr,.slice Br r.2.length dr] 36)).alloc (.cells #[.bool false,.slice none 0 0] 32)):=below_al (below_al (Below.refl _ _) _) _
 have kr:=(box_new w #[.bool r.1.1,.slice Ar r.1.2.length cr,.slice Br r.2.length dr] 36).below (below_al (Below.refl _ _) (.cells #[.bool false,.slice none 0 0] 32))
 have ko:=(box_new (w.alloc (.cells #[.bool r.1.1,.slice Ar r.1.2.length cr,.slice Br r.2.length dr] 36)) #[.bool false,.slice none 0 0] 32)
 rw [show (w.alloc (.cells #[.bool r.1.1,.slice Ar r.1.2.length cr,.slice Br r.2.length dr] 36)).heap.size = w.heap.size+1 by simp] at ko
 have HKO:=Lib.hid (ko.lt (w.heap.size+1) (by simp))
 by_cases hm:modeB m = true
 ·have HM:=Lib.hid hm
  have HRO:=Lib.hid (roundingOf_mode m hm)
  have HQU:=Lib.hid (fun (nm:ByteArray) (vx vd:Value) (x:SI) (D:Nat) (w:World)=>quotient_any nm vx vd x D m w hm)
  clear hm
  generalize nameB m = nm at HRO
  generalize fnOf m = fk at HRO HQU
  go_enter Tryz.func130,Tryz.ntmps130
  go_wp2_with fail
  refine (HRO.out _).mono ?_
  rintro e w1 ⟨rfl,b1⟩
  have bb1:=Below.next bb0 b1
  replace kr:=kr.below b1
  replace ko:=ko.below b1
  have km:=box_new (w1) #[.string nm,.func (.func fk) #[] #[]] 151
  have alm:=below_al (Below.refl (w1).heap.size (w1)) (.cells #[.string nm,.func (.func fk) #[] #[]] 151)
  have bbm:=Below.next bb1 alm
  replace kr:=kr.below alm
  replace ko:=ko.below alm
  have kr_c0:=kr.here.cell 0 _ rfl
  have kr_c1:=kr.here.cell 1 _ rfl
  have kr_c2:=kr.here.cell 2 _ rfl
  go_wp2_with fail
  clear kr_c0 kr_c1 kr_c2
  refine (implRatOk_any _ r _ hz (OQr.out _ bbm) (HS.out.below bbm)).mono ?_
  rintro e w2 ⟨rfl,b2⟩
  have bb2:=Below.next bbm b2
  replace kr:=kr.below b2
  replace ko:=ko.below b2
  replace km:=km.below b2
  by_cases ok:okQ r = true
  ·rw [ok]
   have HO:=Lib.hid ok
   have HP:=Lib.hid (parts_of ok)
   have hlt:=roundN_lt HP.out m
   have hq0:=quot_len ok
   have HV:=Lib.hid (show roundR r m = (mkS r.1.1 (quoL r.1.1 (nval r.1.2).toNat (denQ r) m),true) by
    unfold roundR
    rw [if_pos ⟨ok,HM.out⟩]
    unfold roundS
    rw [quoL_is (by
     have h1:=Nat.div_le_self (topN r) (denQ r)
     have h2:=HP.out.nlt
     have h3:bp 18 < bp 19:=bp_step 18
     have h4:bp 19 ≤ bp 50:=bp_mono (by omega)
     show ((topN r / denQ r:Nat):Int)+1 < bp 50
     omega)]
    rfl)
   obtain ⟨X,hX⟩:∃ X,mkS r.1.1 (quoL r.1.1 (nval r.1.2).toNat (denQ r) m) = X:=⟨_,rfl⟩
   have EX:=Lib.hid hX
   rw [hX] at HV
   clear ok hX hlt hq0
   have kr_c0:=kr.here.cell 0 _ rfl
   have kr_c1:=kr.here.cell 1 _ rfl
   have kr_c2:=kr.here.cell 2 _ rfl
   have km_c0:=km.here.cell 0 _ rfl
   have km_c1:=km.here.cell 1 _ rfl
   go_wp2_with fail
   clear kr_c0 kr_c1 kr_c2 km_c0 km_c1
   refine ((HQU.out nm _ _ r.1 (denQ r) _ HP.out.okn (denQ_pos HO.out) (by have e:=HP.out.d;rw [← e];exact HP.out.d50) (OSr.out _ bb2) (ownI_eq (ODr.out _ bb2) HP.out.d) (HS.out.below bb2)).mono fun _ _ h=>roundVS_eq EX.out h).mono ?_
   rintro e w3 ⟨uf,Sf,rfl,of,lf,b3⟩
   obtain ⟨Af,cf,rfl⟩:=ownS_form of.here
   have bb3:=Below.next bb2 b3
   replace kr:=kr.below b3
   replace ko:=ko.below b3
   replace km:=km.below b3
   clear kr km
   have HW:=Lib.hid (newSb_at (b:=true) (r:=w.heap.size+1) of lf (by have:=HKO.out;have:=b1.size;have:=alm.size;have:=b2.size;omega) (by omega) bb3)
   have cz0:=ko.here.cell 0 _ rfl
   have fz0:=Lib.frozen_of_heap ko.here 0
   have cz1:=ko.here.cell 1 _ rfl
   have fz1:=Lib.frozen_of_heap ko.here 1
   clear of ko
   go_wp2
   refine bodyPost_ret (v:=.tuple #[.agg #[.bool _,.slice Af _ cf],.bool _]) (by simp [results,Tryz.results130,go_sem,cz0,cz1];exact ⟨⟨rfl,rfl⟩,rfl⟩) rfl ?_
   rw [HV.out]
   exact HW.out
  ·have ok':okQ r = false:=by simpa using ok
   have HV:=Lib.hid (show roundR r m = (zeroS,false) by unfold roundR;rw [if_neg (fun h=>ok h.1)])
   rw [ok']
   clear ok ok'
   have cz0:=ko.here.cell 0 _ rfl
   have fz0:=Lib.frozen_of_heap ko.here 0
   have cz1:=ko.here.cell 1 _ rfl
   have fz1:=Lib.frozen_of_heap ko.here 1
   go_wp2
   refine bodyPost_ret (v:=.tuple #[.agg #[.bool false,.slice none 0 0],.bool false]) (by simp [results,Tryz.results130,go_sem,cz0,cz1]) rfl ?_
   rw [HV.out]
   first | exact newSb_zero _ bb2 | exact newSb_zero _ (below_set2 bb2 (by omega))
 ·have HRO:=Lib.hid (roundingOf_none m hm)
  have HV:=Lib.hid (show roundR r m = (zeroS,false) by unfold roundR;rw [if_neg (fun h=>hm h.2)])
  clear hm
  go_enter Tryz.func130,Tryz.ntmps130
  go_wp2_with fail
  refine (HRO.out _).mono ?_
  rintro e w1 ⟨rfl,b1⟩
  have bb1:=Below.next bb0 b1
  replace kr:=kr.below b1
  replace ko:=ko.below b1
  have km:=box_new (w1) #[.string ⟨#[]⟩,.nilFunc] 151
  have alm:=below_al (Below.refl (w1).heap.size (w1)) (.cells #[.string ⟨#[]⟩,.nilFunc] 151)
  have bbm:=Below.next bb1 alm
  replace kr:=kr.below alm
  replace ko:=ko.below alm
  have cz0:=ko.here.cell 0 _ rfl
  have fz0:=Lib.frozen_of_heap ko.here 0
  have cz1:=ko.here.cell 1 _ rfl
  have fz1:=Lib.frozen_of_heap ko.here 1
  go_wp2
  refine bodyPost_ret (v:=.tuple #[.agg #[.bool false,.slice none 0 0],.bool false]) (by simp [results,Tryz.results130,go_sem,cz0,cz1]) rfl ?_
  rw [HV.out]
  first | exact newSb_zero _ bbm | exact newSb_zero _ (below_set2 bbm (by omega))
set_option maxHeartbeats 4000000 in
theorem implDecRat_any (va:Value) (a:DI) (w:World) (hla:a.1.2.length ≤ 1048576) (ha:OwnD va a w) (hsen:Sen w) :
 Calls Tryz.prog 176 #[va] w (NewV (fun u=>OwnQ u (ratD a)) w):=by
 have HS:=Lib.hid hsen
 clear hsen
 have Ha:=Lib.hid ha
 obtain ⟨Aa,ca,rfl⟩:=ownD_form ha
 have ODa:=Lib.hid (show ∀ W,Below w.heap.size w W→OwnD (.agg #[.bool a.1.1,.slice Aa a.1.2.length ca,.int .i64 a.2]) a W from fun W hb=>OwnD.below Ha.out hb)
 have OIa:=Lib.hid (show ∀ W,Below w.heap.size w W→OwnI (.slice Aa a.1.2.length ca) a.1.2 W from fun W hb=>ownD_open (ODa.out W hb))
 have OSa:=Lib.hid (show ∀ W,Below w.heap.size w W→OwnS (.agg #[.bool a.1.1,.slice Aa a.1.2.length ca]) a.1 W from fun W hb=>OwnS.mk (OIa.out W hb))
 clear ha
 have bb0:Below w.heap.size w ((w.alloc (.cells #[.bool a.1.1,.slice Aa a.1.2.length ca,.int .i64 a.2] 87)).alloc (.cells #[.bool false,.slice none 0 0,.slice none 0 0] 36)):=below_al (below_al (Below.refl _ _) _) _
 have ka:=(box_new w #[.bool a.1.1,.slice Aa a.1.2.length ca,.int .i64 a.2] 87).below (below_al (Below.refl _ _) (.cells #[.bool false,.slice none 0 0,.slice none 0 0] 36))
 have ko:=(box_new (w.alloc (.cells #[.bool a.1.1,.slice Aa a.1.2.length ca,.int .i64 a.2] 87)) #[.bool false,.slice none 0 0,.slice none 0 0] 36)
 rw [show (w.alloc (.cells #[.bool a.1.1,.slice Aa a.1.2.length ca,.int .i64 a.2] 87)).heap.size = w.heap.size+1 by simp] at ko
 have HKO:=Lib.hid (ko.lt (w.heap.size+1) (by simp))
 obtain ⟨Q,hQ⟩:∃ Q,ratD a = Q:=⟨_,rfl⟩
 have EQ0:=Lib.hid hQ
 rw [hQ]
 clear hQ
 go_enter Tryz.func176,Tryz.ntmps176
 have ka_c0:=ka.here.cell 0 _ rfl
 have ka_c1:=ka.here.cell 1 _ rfl
 have ka_c2:=ka.here.cell 2 _ rfl
 go_wp2_with fail
 clear ka_c0 ka_c1 ka_c2
 refine (implDecOk_any _ a _ hla (ODa.out _ bb0)).mono ?_
 rintro e w1 ⟨rfl,b1⟩
 have bb1:=Below.next bb0 b1
 replace ka:=ka.below b1
 replace ko:=ko.below b1
 by_cases ok:okD a = true
 ·rw [ok]
  have HT:=Lib.hid (ten_bd ok)
  have hl6:=(partsD ok).len
  have hzA:szS a.1 ≤ 1048576:=by unfold szS szI;omega
  have hzT:=szS_ten a.2
  have EQ:=Lib.hid (show makeQ a.1 (tenS a.2) = (Q,true) by rw [← EQ0.out];exact HT.out.1)
  clear ok hl6
  have ka_c0:=ka.here.cell 0 _ rfl
  have ka_c1:=ka.here.cell 1 _ rfl
  have ka_c2:=ka.here.cell 2 _ rfl
  go_upto_region 3 with fail
  go_cut [3,4] (fun s1 s2 wx=>NewLocV 36 (fun v=>OwnQ v Q) w1 s1 wx∧s2 = .bool true)
  case first =>
   have HC0:=Lib.hid (show Chg [] w1 w1.drew from (Chg.refl _ _).drew1)
   have HCr:=Lib.hid (show Chg [] w1 w1 from Chg.refl _ _)
   have KL:=Lib.hid (show ∀ W,Chg [] w1 W→W.cell? ⟨w.heap.size,0,none⟩ = some (.bool a.1.1)∧W.cell? ⟨w.heap.size,1,none⟩ = some (.slice Aa a.1.2.length ca)∧W.cell? ⟨w.heap.size,2,none⟩ = some (.int .i64 a.2)∧Hid (Chg [] w1 W) from fun W hc=>⟨(ka.chg hc (fun i hi hm=>by simp at hm)).here.cell 0 _ rfl,(ka.chg hc (fun i hi hm=>by simp at hm)).here.cell 1 _ rfl,(ka.chg hc (fun i hi hm=>by simp at hm)).here.cell 2 _ rfl,Lib.hid hc⟩)
   have BBF:=Lib.hid (show ∀ W,Chg [] w1 W→Below w.heap.size w W from fun W hc=>below_chg bb1 hc bb1.size (fun i hi=>by simp at hi))
   clear ka_c0 ka_c1 ka_c2
   go_region_held3 (fun W=>W.cell? ⟨w.heap.size,0,none⟩ = some (.bool a.1.1)∧W.cell? ⟨w.heap.size,1,none⟩ = some (.slice Aa a.1.2.length ca)∧W.cell? ⟨w.heap.size,2,none⟩ = some (.int .i64 a.2)∧Hid (Chg [] w1 W))
    ((refine KL.out _ ?_;(first | exact HC3.out | exact HC2.out | exact HCr.out | exact HC0.out | exact HC3.out.drew1 | exact HC2.out.drew1 | exact HCr.out.drew1 | exact HC0.out.drew1 | exact HC3.out.trans (Chg.of_below (below_al (Below.refl _ _) _)) | exact HC2.out.trans (Chg.of_below (below_al (Below.refl _ _) _)) | exact HCr.out.trans (Chg.of_below (below_al (Below.refl _ _) _)) | exact HC0.out.trans (Chg.of_below (below_al (Below.refl _ _) _)) | exact (Chg.setNew HC3.out (by first | exact HC3.out.size | exact HC2.out.size | exact HCr.out.size | exact HC0.out.size) _) | exact (Chg.setNew (Chg.setNew HC3.out (by first | exact HC3.out.size | exact HC2.out.size | exact HCr.out.size | exact HC0.out.size) _) (by first | exact HC3.out.size | exact HC2.out.size | exact HCr.out.size | exact HC0.out.size) _) | exact (Chg.setNew (Chg.setNew (Chg.setNew HC3.out (by first | exact HC3.out.size | exact HC2.out.size | exact HCr.out.size | exact HC0.out.size) _) (by first | exact HC3.out.size | exact HC2.out.size | exact HCr.out.size | exact HC0.out.size) _) (by first | exact HC3.out.size | exact HC2.out.size | exact HCr.out.size | exact HC0.out.size) _) | fail)))
    (first
      | (go_at_call 182;(have hBB:=(‹_∧_∧_∧Hid (Chg [] w1 _)›).2.2.2);(with_reducible refine (tenTo_any a.2 _).mono ?_);rintro e w2 ⟨ut,St,rfl,ot,lt,b2⟩;have HC2:=Lib.hid (hBB.out.trans (Chg.of_below b2));obtain ⟨At_,ct,rfl⟩:=ownS_form ot.here;(first | (have early2:At [w1.heap.size] (BoxAt w1.heap.size #[.bool false,.slice none 0 0,.slice none 0 0] 36) w2:=At.below (box_new w1.drew _ _) b2) | (have early2:=At.below (box_new _ #[.bool false,.slice none 0 0,.slice none 0 0] 36) b2) | (have early2:=At.below early1 b2) | skip);have HBZ2:=Lib.hid hBB.out.size;clear hBB)
      | (go_at_call 159;(have hBB:=(‹_∧_∧_∧Hid (Chg [] w1 _)›).2.2.2);(with_reducible refine ((implRatMake_any _ _ a.1 (tenS a.2) _ hzA hzT (OSa.out _ (BBF.out _ hBB.out)) (At.here (by first | exact ot | exact At.below ot (below_al (Below.refl _ _) _) | exact At.below (At.below ot (below_al (Below.refl _ _) _)) (below_al (Below.refl _ _) _) | exact At.move ot (fun _ _=>rfl) (Nat.le_refl _))) (HS.out.below (BBF.out _ hBB.out))).mono fun _ _ h=>postQb_isD EQ.out h).mono ?_);rintro e w3 ⟨uf,Sf,rfl,of,lf,b3⟩;have HC3:=Lib.hid (hBB.out.trans (Chg.of_below b3));(have ot_3:=At.below (by first | exact ot | exact At.below ot (below_al (Below.refl _ _) _) | exact At.below (At.below ot (below_al (Below.refl _ _) _)) (below_al (Below.refl _ _) _) | exact At.move ot (fun _ _=>rfl) (Nat.le_refl _)) b3);obtain ⟨Af,cf,Bf,df,rfl⟩:=ownQ_form of.here;(first | have hbxg:=At.below_lt (box_new _ #[.bool false,.slice none 0 0,.slice none 0 0] 36) b3 | have hbxg:=At.below_lt early2 b3 | skip);(try (have hbxf:=hbxg.1;have HGB:=Lib.hid hbxg.2;clear hbxg));(try (have cz0:=hbxf.here.cell 0 _ rfl;have fz0:=Lib.frozen_of_heap hbxf.here 0;have cz1:=hbxf.here.cell 1 _ rfl;have fz1:=Lib.frozen_of_heap hbxf.here 1;have cz2:=hbxf.here.cell 2 _ rfl;have fz2:=Lib.frozen_of_heap hbxf.here 2));have HBZ3:=Lib.hid hBB.out.size;clear hBB))
   all_goals (go_wp2_with fail;go_meet;first | exact ⟨newLocV_last of lf HBZ3.out (below_of_chg HC3.out),rfl⟩ | exact ⟨newLocV_early3 hbxf.here of lf (by first | exact HC2.out.size | exact HCr.out.size | exact HC0.out.size) HGB.out (below_of_chg HC3.out),rfl⟩)
  rename World=>w2
  clear ka_c0 ka_c1 ka_c2
  obtain ⟨⟨gy,csy,Sy,rfl,ky,oy,ny,ly,b2⟩,rfl⟩:=hcut
  obtain ⟨Ay,cy,By,dy,ey⟩:=ownQ_form oy.here
  injection ey with ey
  subst ey
  have bb2:=Below.next bb1 b2
  replace ka:=ka.below b2
  replace ko:=ko.below b2
  have HW:=Lib.hid (newV_chg (φ:=fun v=>OwnQ v Q) (T:=[w.heap.size+1]) oy (fun i hi hm=>by have:=ly i (List.mem_cons_of_mem _ hi);have:=HKO.out;have:=b1.size;simp at hm;omega) (fun i hi=>by simp at hi;omega) (fun i hi=>by have:=ly i (List.mem_cons_of_mem _ hi);have:=HKO.out;have:=b1.size;omega) bb2)
  have ky_c0:=ky.here.cell 0 _ rfl
  have ky_c1:=ky.here.cell 1 _ rfl
  have ky_c2:=ky.here.cell 2 _ rfl
  have cz0:=ko.here.cell 0 _ rfl
  have fz0:=Lib.frozen_of_heap ko.here 0
  have cz1:=ko.here.cell 1 _ rfl
  have fz1:=Lib.frozen_of_heap ko.here 1
  have cz2:=ko.here.cell 2 _ rfl
  have fz2:=Lib.frozen_of_heap ko.here 2
  clear oy ky ko ka
  go_wp2
  refine bodyPost_ret (v:=.agg #[.bool _,.slice Ay _ cy,.slice By _ dy]) (by simp [results,Tryz.results176,go_sem,cz0,cz1,cz2];exact ⟨rfl,rfl,rfl⟩) rfl ?_
  refine HW.out _ ?_
  repeat (first | exact Chg.refl _ _ | refine Chg.setCell ?_ (by simp) _)
 ·have ok':okD a = false:=by simpa using ok
  have HV:=Lib.hid (show Q = zeroQ from EQ0.out.symm.trans (rat_bad ok))
  rw [ok']
  clear ok ok' ka
  have cz0:=ko.here.cell 0 _ rfl
  have fz0:=Lib.frozen_of_heap ko.here 0
  have cz1:=ko.here.cell 1 _ rfl
  have fz1:=Lib.frozen_of_heap ko.here 1
  have cz2:=ko.here.cell 2 _ rfl
  have fz2:=Lib.frozen_of_heap ko.here 2
  go_wp2
  refine bodyPost_ret (v:=.agg #[.bool false,.slice none 0 0,.slice none 0 0]) (by simp [results,Tryz.results176,go_sem,cz0,cz1,cz2]) rfl ?_
  rw [HV.out]
  first | exact newQ_zeroD bb1 | exact newQ_zeroD (below_set3 bb1 (by omega))
def PostQn (R0:QI) (R1:Int) (w:World) (e:Ending) (w':World):Prop :=
 ∃ (v:Value) (S:List Nat),e = .returned (.tuple #[v,.int .i64 R1])∧At S (OwnQ v R0) w'∧Within S w.heap.size w'.heap.size∧Below w.heap.size w w'
theorem postQn_is {q:QI × Int} {X:QI} {b:Int} (e:q = (X,b)) {w w':World} {n:Ending} (h:PostQn q.1 q.2 w n w'):PostQn X b w n w':=by rw [e] at h;exact h
theorem newQn_chg {R0:QI} {R1:Int} {S T:List Nat} {v:Value} {w W:World} (o:At S (OwnQ v R0) W) (hd:∀ i ∈ S,i ∉ T) (hT:∀ i ∈ T,w.heap.size ≤ i) (l:∀ i ∈ S,w.heap.size ≤ i) (hW:Below w.heap.size w W) :
 ∀ W',Chg T W W'→PostQn R0 R1 w (.returned (.tuple #[v,.int .i64 R1])) W' :=
 fun _ hc=>⟨v,S,rfl,o.chg hc hd,fun i hi=>⟨l i hi,Nat.lt_of_lt_of_le (o.lt i hi) hc.size⟩,below_chg hW hc hW.size hT⟩
theorem newQb_chg {R0:QI} {R1:Bool} {S T:List Nat} {v:Value} {w W:World} (o:At S (OwnQ v R0) W) (hd:∀ i ∈ S,i ∉ T) (hT:∀ i ∈ T,w.heap.size ≤ i) (l:∀ i ∈ S,w.heap.size ≤ i) (hW:Below w.heap.size w W) :
 ∀ W',Chg T W W'→PostQb R0 R1 w (.returned (.tuple #[v,.bool R1])) W' :=
 fun _ hc=>⟨v,S,rfl,o.chg hc hd,fun i hi=>⟨l i hi,Nat.lt_of_lt_of_le (o.lt i hi) hc.size⟩,below_chg hW hc hW.size hT⟩
theorem newVQ_chg {R0:QI} {S T:List Nat} {v:Value} {w W:World} (o:At S (OwnQ v R0) W) (hd:∀ i ∈ S,i ∉ T) (hT:∀ i ∈ T,w.heap.size ≤ i) (l:∀ i ∈ S,w.heap.size ≤ i) (hW:Below w.heap.size w W) :
 ∀ W',Chg T W W'→NewV (fun u=>OwnQ u R0) w (.returned v) W' :=
 fun _ hc=>⟨v,S,rfl,o.chg hc hd,fun i hi=>⟨l i hi,Nat.lt_of_lt_of_le (o.lt i hi) hc.size⟩,below_chg hW hc hW.size hT⟩
theorem newQn_zero {T:List Nat} {w W:World} (hT:∀ i ∈ T,w.heap.size ≤ i) (hW:Below w.heap.size w W):∀ W',Chg T W W'→PostQn zeroQ 0 w (.returned (.tuple #[.agg #[.bool false,.slice none 0 0,.slice none 0 0],.int .i64 0])) W' :=
 fun _ hc=>⟨_,[],rfl,⟨ownQ_zero _,(fun g hg=>by cases hg),fun w' _=>ownQ_zero _⟩,(fun g hg=>by cases hg),below_chg hW hc hW.size hT⟩
theorem storeT_sz (l:List EI) (a b:ByteArray):szQ (storeT l a b).1 ≤ 1048576:=by
 unfold storeT
 split
 ·exact zeroQ_sz
 ·exact stepT_sz _ _ _
theorem storeT_zero {l:List EI} {a b:ByteArray}:(storeT l a b).2 = 0 ↔ legT l a b = 0:=by
 unfold storeT
 split
 ·rename_i h
  exact ⟨fun _=>h,fun _=>rfl⟩
 ·exact Iff.rfl
theorem storeT_yes {l:List EI} {a b:ByteArray} (h:¬ legT l a b = 0):storeT l a b = (stepT l a b,legT l a b):=by unfold storeT;rw [if_neg h]
theorem pivT_of {t:TI} {a b:ByteArray} {X Y:QI} {x y:Int} (h1:storeT t.2 a t.1 = (X,x)) (h2:storeT t.2 t.1 b = (Y,y)):pivT t a b = if x = 0 ∨ y = 0 then (zeroQ,0) else ((mulQ X Y).1,4):=by
 have e1:(storeT t.2 a t.1).2 = x:=by rw [h1]
 have e2:(storeT t.2 t.1 b).2 = y:=by rw [h2]
 have q1:x = 0 ↔ legT t.2 a t.1 = 0:=by rw [← e1];exact storeT_zero
 have q2:y = 0 ↔ legT t.2 t.1 b = 0:=by rw [← e2];exact storeT_zero
 unfold pivT
 by_cases h:x = 0 ∨ y = 0
 ·rw [if_pos h,if_pos (h.imp q1.1 q2.1)]
 ·rw [if_neg h,if_neg (fun hh=>h (hh.imp q1.2 q2.2))]
  rw [storeT_yes (fun e=>h (.inl (q1.2 e)))] at h1
  rw [storeT_yes (fun e=>h (.inr (q2.2 e)))] at h2
  have e3:stepT t.2 a t.1 = X:=congrArg Prod.fst h1
  have e4:stepT t.2 t.1 b = Y:=congrArg Prod.fst h2
  rw [e3,e4]
theorem findT_of {t:TI} {a b:ByteArray} {X:QI} {x:Int} (h:okT t = true∧knownC a = true∧knownC b = true) (hab:¬ a = b) (h1:storeT t.2 a b = (X,x)):findT t a b = if x = 0 then pivT t a b else (X,x):=by
 have e1:(storeT t.2 a b).2 = x:=by rw [h1]
 have q1:x = 0 ↔ legT t.2 a b = 0:=by rw [← e1];exact storeT_zero
 unfold findT
 rw [if_pos h,if_neg hab]
 by_cases hx:x = 0
 ·rw [if_pos hx,if_pos (q1.1 hx)]
 ·rw [if_neg hx,if_neg (fun hh=>hx (q1.2 hh)),← storeT_yes (fun hh=>hx (q1.2 hh)),h1]
theorem store_hit {l:List EI} {a b:ByteArray} {n:Nat} {x:EI} (h0:0 ≤ posE l a b) (h2:l[n]? = some x) (h3:atE l a b = n):storeT l a b = (ratD x.2.2,2):=by
 have e:legT l a b = 2:=by unfold legT;rw [if_pos h0]
 rw [storeT_yes (by omega),e]
 unfold stepT
 rw [if_pos h0,h3,h2]
theorem store_inv {l:List EI} {a b:ByteArray} {n:Nat} {x:EI} (hn:¬ 0 ≤ posE l a b) (h0:0 ≤ posE l b a) (h2:l[n]? = some x) (h3:atE l b a = n):storeT l a b = ((divQ unitQ.1 (ratD x.2.2)).1,3):=by
 have e:legT l a b = 3:=by unfold legT;rw [if_neg hn,if_pos h0]
 rw [storeT_yes (by omega),e]
 unfold stepT
 rw [if_neg hn,h3,h2]
theorem store_none {l:List EI} {a b:ByteArray} (hn:¬ 0 ≤ posE l a b) (h0:¬ 0 ≤ posE l b a):storeT l a b = (zeroQ,0):=by
 have e:legT l a b = 0:=by unfold legT;rw [if_neg hn,if_neg h0]
 unfold storeT
 rw [if_pos e]
theorem unitQ_sz:szQ unitQ.1 ≤ 1048576:=by rw [unit_low];exact lowQ_sz _ _ _
set_option maxHeartbeats 2000000 in
theorem unitRat_any (w:World) (hsen:Sen w) :
 Calls Tryz.prog 154 #[] w (NewV (fun v=>OwnQ v unitQ.1) w):=by
 have HS:=Lib.hid hsen
 clear hsen
 have bb0:Below w.heap.size w (w.alloc (.cells #[.bool false,.slice none 0 0,.slice none 0 0] 36)):=below_al (Below.refl _ _) _
 have ko:=(box_new w #[.bool false,.slice none 0 0,.slice none 0 0] 36)
 have HKO:=Lib.hid (ko.lt w.heap.size (by simp))
 go_enter Tryz.func154,Tryz.ntmps154
 go_wp2_with fail
 refine ((implIntOf_any 1 _ (by decide) (by decide)).mono fun _ _ h=>NewS.newV h).mono ?_
 rintro e w1 ⟨u,Sx,rfl,ox,lx,b1⟩
 obtain ⟨Ax,cx,rfl⟩:=ownS_form ox.here
 have bb1:=Below.next bb0 b1
 replace ko:=ko.below b1
 go_wp2_with fail
 refine (implRatInt_any _ (ofZ 1) _ one_szR ox.here (HS.out.below bb1)).mono ?_
 rintro e w2 ⟨uq,Sq,rfl,oq,lq,b2⟩
 obtain ⟨Aq,cq,Bq,dq,rfl⟩:=ownQ_form oq.here
 have bb2:=Below.next bb1 b2
 replace ko:=ko.below b2
 replace ox:=ox.below b2
 have hz1:w.heap.size+1 ≤ w1.heap.size:=by have:=b1.size;simp at this;omega
 have hz2:=b2.size
 have oqP:=oq
 have cy0:=ko.here.cell 0 _ rfl
 have fy0:=Lib.frozen_of_heap ko.here 0
 have cy1:=ko.here.cell 1 _ rfl
 have fy1:=Lib.frozen_of_heap ko.here 1
 have cy2:=ko.here.cell 2 _ rfl
 have fy2:=Lib.frozen_of_heap ko.here 2
 have hlo:w.heap.size < w2.heap.size:=by omega
 have hlo1:¬ w.heap.size = w2.heap.size:=by omega
 have hlo2:¬ w2.heap.size = w.heap.size:=by omega
 have kp:=box_new (w2) #[.bool (makeQ (ofZ 1) (ofZ 1)).1.1.1,.slice Aq (makeQ (ofZ 1) (ofZ 1)).1.1.2.length cq,.slice Bq (makeQ (ofZ 1) (ofZ 1)).1.2.length dq] 36
 have alp:=below_al (Below.refl (w2).heap.size (w2)) (.cells #[.bool (makeQ (ofZ 1) (ofZ 1)).1.1.1,.slice Aq (makeQ (ofZ 1) (ofZ 1)).1.1.2.length cq,.slice Bq (makeQ (ofZ 1) (ofZ 1)).1.2.length dq] 36)
 have bbp:=Below.next bb2 alp
 replace ko:=ko.below alp
 replace ox:=ox.below alp
 replace oq:=oq.below alp
 have HW:=Lib.hid (newVQ_chg (R0:=unitQ.1) (v:=.agg #[.bool (makeQ (ofZ 1) (ofZ 1)).1.1.1,.slice Aq (makeQ (ofZ 1) (ofZ 1)).1.1.2.length cq,.slice Bq (makeQ (ofZ 1) (ofZ 1)).1.2.length dq]) (T:=[w.heap.size]) oqP (fun i hi hm=>by have:=(lq i hi).1;simp at hm;omega) (fun i hi=>by simp at hi;omega) (fun i hi=>by have:=(lq i hi).1;omega) bb2)
 clear kp
 clear ko ox oq oqP lq lx
 go_wp2
 refine bodyPost_ret (v:=.agg #[.bool (makeQ (ofZ 1) (ofZ 1)).1.1.1,.slice Aq (makeQ (ofZ 1) (ofZ 1)).1.1.2.length cq,.slice Bq (makeQ (ofZ 1) (ofZ 1)).1.2.length dq]) (by simp [results,Tryz.results154,go_sem,cy0,cy1,cy2,hlo]) rfl ?_
 refine HW.out _ ?_
 repeat (first | with_reducible exact Chg.refl _ _ | with_reducible refine Chg.setCell ?_ (by simp) _ | with_reducible refine Chg.trans ?_ (Chg.of_below (below_al (Below.refl _ _) _)))
set_option maxHeartbeats 8000000 in
theorem storedRate_any (v:Value) (l:List EI) (p q:ByteArray) (w:World) (hl:l.length ≤ 1099511627776) (hx:∀ x ∈ l,x.2.2.1.2.length ≤ 1048576) (h:OwnER w v l) (hsen:Sen w) :
 Calls Tryz.prog 155 #[v,.string p,.string q] w (PostQn (storeT l p q).1 (storeT l p q).2 w):=by
 have HS:=Lib.hid hsen
 clear hsen
 have HR:=Lib.hid (show ∀ W,Below w.heap.size w W→OwnER W v l from fun W hb=>h.below hb)
 obtain ⟨A,c,rfl,hc⟩:=h
 have HC:=Lib.hid hc
 clear hc
 have bb0:Below w.heap.size w (w.alloc (.cells #[.bool false,.slice none 0 0,.slice none 0 0] 36)):=below_al (Below.refl _ _) _
 have ko:=(box_new w #[.bool false,.slice none 0 0,.slice none 0 0] 36)
 have HKO:=Lib.hid (ko.lt w.heap.size (by simp))
 obtain ⟨R,hR⟩:∃ R,storeT l p q = R:=⟨_,rfl⟩
 have EQ:=Lib.hid hR
 rw [hR]
 clear hR
 go_enter Tryz.func155,Tryz.ntmps155
 go_wp2_with fail
 refine (rateAt_any _ l p q _ (by omega) (HR.out _ bb0).rd).mono ?_
 rintro e w1 ⟨rfl,b1⟩
 have bb1:=Below.next bb0 b1
 replace ko:=ko.below b1
 have hw1:w.heap.size+1 ≤ w1.heap.size:=by have:=b1.size;simp at this;omega
 by_cases h0:0 ≤ posE l p q
 ·obtain ⟨n,x,hpn,hxn,han⟩:=posE_at h0
  have HV:=Lib.hid (EQ.out.symm.trans (store_hit h0 hxn han))
  rw [hpn]
  clear h0 hpn han EQ
  obtain ⟨a,ux,rfl,ha,hc0,hc1,hc2,hc3,hc4,hox⟩:=HC.out n x hxn
  obtain ⟨A1,c1,rfl⟩:=own_len hox
  have HOX:=Lib.hid hox
  have hxl:=hx x (List.mem_of_getElem? hxn)
  have HCC:=Lib.hid (show ∀ W,Below w.heap.size w W→W.cell? ⟨(a.add (n * 5)).block,(a.add (n * 5)).off+2,none⟩ = some (.bool x.2.2.1.1)∧W.cell? ⟨(a.add (n * 5)).block,(a.add (n * 5)).off+3,none⟩ = some (.slice A1 x.2.2.1.2.length c1)∧W.cell? ⟨(a.add (n * 5)).block,(a.add (n * 5)).off+4,none⟩ = some (.int .i64 x.2.2.2) from fun W hW=>⟨(cell_keep5 hW ha n 2).trans hc2,(cell_keep5 hW ha n 3).trans hc3,(cell_keep5 hW ha n 4).trans hc4⟩)
  have HOD:=Lib.hid (show ∀ W,Below w.heap.size w W→OwnD (.agg #[.bool x.2.2.1.1,.slice A1 x.2.2.1.2.length c1,.int .i64 x.2.2.2]) x.2.2 W from fun W hW=>OwnD.mk (own_below HOX.out hW))
  have hn0:(0:Int) ≤ (n:Int):=by omega
  have hnl:=(List.getElem?_eq_some_iff.1 hxn).1
  have hn1:(n:Int) < (l.length:Int):=by omega
  clear hc0 hc1 hc2 hc3 hc4 hox ha hxn hx
  have hd0:decide ((0:Int) ≤ (n:Int)) = true:=decide_eq_true hn0
  obtain ⟨k2,k3,k4⟩:=HCC.out _ bb1
  go_wp2_with fail
  refine (implDecRat_any _ x.2.2 _ hxl (HOD.out _ bb1) (HS.out.below bb1)).mono ?_
  rintro e w2 ⟨uq,Sq,rfl,oq,lq,b2⟩
  obtain ⟨Aq,cq,Bq,dq,rfl⟩:=ownQ_form oq.here
  have bb2:=Below.next bb1 b2
  replace ko:=ko.below b2
  have HW:=Lib.hid (newQn_chg (R0:=ratD x.2.2) (R1:=2) (v:=.agg #[.bool (ratD x.2.2).1.1,.slice Aq (ratD x.2.2).1.2.length cq,.slice Bq (ratD x.2.2).2.length dq]) (T:=[w.heap.size]) oq (fun i hi hm=>by have:=(lq i hi).1;simp at hm;omega) (fun i hi=>by simp at hi;omega) (fun i hi=>by have:=(lq i hi).1;omega) bb2)
  have cz0:=ko.here.cell 0 _ rfl
  have fz0:=Lib.frozen_of_heap ko.here 0
  have cz1:=ko.here.cell 1 _ rfl
  have fz1:=Lib.frozen_of_heap ko.here 1
  have cz2:=ko.here.cell 2 _ rfl
  have fz2:=Lib.frozen_of_heap ko.here 2
  clear ko oq lq k2 k3 k4
  go_wp2
  refine bodyPost_ret (v:=.tuple #[.agg #[.bool (ratD x.2.2).1.1,.slice Aq (ratD x.2.2).1.2.length cq,.slice Bq (ratD x.2.2).2.length dq],.int .i64 2]) (by simp [results,Tryz.results155,go_sem,cz0,cz1,cz2]) rfl ?_
  rw [show R.1 = ratD x.2.2 by rw [HV.out],show R.2 = 2 by rw [HV.out]]
  refine HW.out _ ?_
  repeat (first | with_reducible exact Chg.refl _ _ | with_reducible refine Chg.setCell ?_ (by simp) _ | with_reducible refine Chg.trans ?_ (Chg.of_below (below_al (Below.refl _ _) _)))
 ·have hd0:decide (0 ≤ posE l p q) = false:=decide_eq_false h0
  have HN:=Lib.hid (show ¬ 0 ≤ posE l p q from h0)
  generalize hzz:posE l p q = z at hd0 ⊢
  have HZ:=Lib.hid hzz
  clear hzz h0
  go_wp2_with fail
  refine (rateAt_any _ l q p _ (by omega) (HR.out _ bb1).rd).mono ?_
  rintro e w2 ⟨rfl,b2⟩
  have bb2:=Below.next bb1 b2
  replace ko:=ko.below b2
  have hw2:=b2.size
  clear hd0
  by_cases h1:0 ≤ posE l q p
  ·obtain ⟨n,x,hpn,hxn,han⟩:=posE_at h1
   have HV:=Lib.hid (EQ.out.symm.trans (store_inv (by have:=HN.out;omega) h1 hxn han))
   rw [hpn]
   clear h1 hpn han EQ
   obtain ⟨a,ux,rfl,ha,hc0,hc1,hc2,hc3,hc4,hox⟩:=HC.out n x hxn
   obtain ⟨A1,c1,rfl⟩:=own_len hox
   have HOX:=Lib.hid hox
   have hxl:=hx x (List.mem_of_getElem? hxn)
   have HCC:=Lib.hid (show ∀ W,Below w.heap.size w W→W.cell? ⟨(a.add (n * 5)).block,(a.add (n * 5)).off+2,none⟩ = some (.bool x.2.2.1.1)∧W.cell? ⟨(a.add (n * 5)).block,(a.add (n * 5)).off+3,none⟩ = some (.slice A1 x.2.2.1.2.length c1)∧W.cell? ⟨(a.add (n * 5)).block,(a.add (n * 5)).off+4,none⟩ = some (.int .i64 x.2.2.2) from fun W hW=>⟨(cell_keep5 hW ha n 2).trans hc2,(cell_keep5 hW ha n 3).trans hc3,(cell_keep5 hW ha n 4).trans hc4⟩)
   have HOD:=Lib.hid (show ∀ W,Below w.heap.size w W→OwnD (.agg #[.bool x.2.2.1.1,.slice A1 x.2.2.1.2.length c1,.int .i64 x.2.2.2]) x.2.2 W from fun W hW=>OwnD.mk (own_below HOX.out hW))
   have hn0:(0:Int) ≤ (n:Int):=by omega
   have hnl:=(List.getElem?_eq_some_iff.1 hxn).1
   have hn1:(n:Int) < (l.length:Int):=by omega
   clear hc0 hc1 hc2 hc3 hc4 hox ha hxn hx
   have hd1:decide ((0:Int) ≤ (n:Int)) = true:=decide_eq_true hn0
   have HB2:=Lib.hid bb2
   obtain ⟨k2,k3,k4⟩:=HCC.out _ bb2
   skip
   go_upto_region 6 with fail
   go_cut [10] (fun s wx=>NewLocV 36 (fun v=>OwnQ v (divQ unitQ.1 (ratD x.2.2)).1) w2 s wx)
   case first =>
    have HC0:=Lib.hid (show Chg [] w2 w2.drew from (Chg.refl _ _).drew1)
    have HCr:=Lib.hid (show Chg [] w2 w2 from Chg.refl _ _)
    have KL:=Lib.hid (show ∀ W,Chg [] w2 W→W.cell? ⟨(a.add (n * 5)).block,(a.add (n * 5)).off+2,none⟩ = some (.bool x.2.2.1.1)∧W.cell? ⟨(a.add (n * 5)).block,(a.add (n * 5)).off+3,none⟩ = some (.slice A1 x.2.2.1.2.length c1)∧W.cell? ⟨(a.add (n * 5)).block,(a.add (n * 5)).off+4,none⟩ = some (.int .i64 x.2.2.2)∧Hid (Chg [] w2 W) from fun W hc=>⟨(HCC.out W (below_chg HB2.out hc HB2.out.size (fun i hi=>by simp at hi))).1,(HCC.out W (below_chg HB2.out hc HB2.out.size (fun i hi=>by simp at hi))).2.1,(HCC.out W (below_chg HB2.out hc HB2.out.size (fun i hi=>by simp at hi))).2.2,Lib.hid hc⟩)
    have BBF:=Lib.hid (show ∀ W,Chg [] w2 W→Below w.heap.size w W from fun W hc=>below_chg bb2 hc bb2.size (fun i hi=>by simp at hi))
    go_region_held3 (fun W=>W.cell? ⟨(a.add (n * 5)).block,(a.add (n * 5)).off+2,none⟩ = some (.bool x.2.2.1.1)∧W.cell? ⟨(a.add (n * 5)).block,(a.add (n * 5)).off+3,none⟩ = some (.slice A1 x.2.2.1.2.length c1)∧W.cell? ⟨(a.add (n * 5)).block,(a.add (n * 5)).off+4,none⟩ = some (.int .i64 x.2.2.2)∧Hid (Chg [] w2 W))
     ((refine KL.out _ ?_;(first | exact HC5.out | exact HC4.out | exact HC3.out | exact HCr.out | exact HC0.out | exact HC5.out.drew1 | exact HC4.out.drew1 | exact HC3.out.drew1 | exact HCr.out.drew1 | exact HC0.out.drew1 | exact HC5.out.trans (Chg.of_below (below_al (Below.refl _ _) _)) | exact HC4.out.trans (Chg.of_below (below_al (Below.refl _ _) _)) | exact HC3.out.trans (Chg.of_below (below_al (Below.refl _ _) _)) | exact HCr.out.trans (Chg.of_below (below_al (Below.refl _ _) _)) | exact HC0.out.trans (Chg.of_below (below_al (Below.refl _ _) _)) | exact (Chg.setNew HC5.out (by first | exact HC5.out.size | exact HC4.out.size | exact HC3.out.size | exact HCr.out.size | exact HC0.out.size) _) | exact (Chg.setNew (Chg.setNew HC5.out (by first | exact HC5.out.size | exact HC4.out.size | exact HC3.out.size | exact HCr.out.size | exact HC0.out.size) _) (by first | exact HC5.out.size | exact HC4.out.size | exact HC3.out.size | exact HCr.out.size | exact HC0.out.size) _) | exact (Chg.setNew (Chg.setNew (Chg.setNew HC5.out (by first | exact HC5.out.size | exact HC4.out.size | exact HC3.out.size | exact HCr.out.size | exact HC0.out.size) _) (by first | exact HC5.out.size | exact HC4.out.size | exact HC3.out.size | exact HCr.out.size | exact HC0.out.size) _) (by first | exact HC5.out.size | exact HC4.out.size | exact HC3.out.size | exact HCr.out.size | exact HC0.out.size) _) | fail)))
     (first
       | (go_at_call 154;(have hBB:=(‹_∧_∧_∧Hid (Chg [] w2 _)›).2.2.2);(with_reducible refine (unitRat_any _ (HS.out.below (BBF.out _ hBB.out))).mono ?_);rintro e w3 ⟨uu,Su,rfl,ou,lu,b3⟩;have HC3:=Lib.hid (hBB.out.trans (Chg.of_below b3));obtain ⟨Au,cu,Bu,du,rfl⟩:=ownQ_form ou.here;(first | (have early3:At [w2.heap.size] (BoxAt w2.heap.size #[.bool false,.slice none 0 0,.slice none 0 0] 36) w3:=At.below (box_new w2.drew _ _) b3) | (have early3:=At.below (box_new _ #[.bool false,.slice none 0 0,.slice none 0 0] 36) b3) | (have early3:=At.below early2 b3) | skip);have HBZ3:=Lib.hid hBB.out.size;clear hBB)
       | (go_at_call 176;(have hBB:=(‹_∧_∧_∧Hid (Chg [] w2 _)›).2.2.2);(with_reducible refine (implDecRat_any _ x.2.2 _ hxl (HOD.out _ (BBF.out _ hBB.out)) (HS.out.below (BBF.out _ hBB.out))).mono ?_);rintro e w4 ⟨ud,Sd,rfl,od,ld,b4⟩;have HC4:=Lib.hid (hBB.out.trans (Chg.of_below b4));(have ou_4:=At.below (by first | exact ou | exact At.below ou (below_al (Below.refl _ _) _) | exact At.below (At.below ou (below_al (Below.refl _ _) _)) (below_al (Below.refl _ _) _) | exact At.move ou (fun _ _=>rfl) (Nat.le_refl _) | exact At.below (At.move (w':=w2.drew) ou (fun _ _=>rfl) (Nat.le_refl _)) (below_al (Below.refl _ _) _)) b4);obtain ⟨Ad,cd,Bd_,dd,rfl⟩:=ownQ_form od.here;(first | (have early4:At [w2.heap.size] (BoxAt w2.heap.size #[.bool false,.slice none 0 0,.slice none 0 0] 36) w4:=At.below (box_new w2.drew _ _) b4) | (have early4:=At.below (box_new _ #[.bool false,.slice none 0 0,.slice none 0 0] 36) b4) | (have early4:=At.below early3 b4) | skip);have HBZ4:=Lib.hid hBB.out.size;clear hBB)
       | (go_at_call 163;(have hBB:=(‹_∧_∧_∧Hid (Chg [] w2 _)›).2.2.2);(with_reducible refine (implRatDiv_any _ _ unitQ.1 (ratD x.2.2) _ unitQ_sz (ratD_sz _) (At.here (by first | exact ou_4 | exact At.below ou_4 (below_al (Below.refl _ _) _) | exact At.below (At.below ou_4 (below_al (Below.refl _ _) _)) (below_al (Below.refl _ _) _) | exact At.move ou_4 (fun _ _=>rfl) (Nat.le_refl _) | exact At.below (At.move (w':=w2.drew) ou_4 (fun _ _=>rfl) (Nat.le_refl _)) (below_al (Below.refl _ _) _))) (At.here (by first | exact od | exact At.below od (below_al (Below.refl _ _) _) | exact At.below (At.below od (below_al (Below.refl _ _) _)) (below_al (Below.refl _ _) _) | exact At.move od (fun _ _=>rfl) (Nat.le_refl _) | exact At.below (At.move (w':=w2.drew) od (fun _ _=>rfl) (Nat.le_refl _)) (below_al (Below.refl _ _) _))) (HS.out.below (BBF.out _ hBB.out))).mono ?_);rintro e w5 ⟨uv,Sv,rfl,ov,lv,b5⟩;have HC5:=Lib.hid (hBB.out.trans (Chg.of_below b5));(have ou_5:=At.below (by first | exact ou_4 | exact At.below ou_4 (below_al (Below.refl _ _) _) | exact At.below (At.below ou_4 (below_al (Below.refl _ _) _)) (below_al (Below.refl _ _) _) | exact At.move ou_4 (fun _ _=>rfl) (Nat.le_refl _) | exact At.below (At.move (w':=w2.drew) ou_4 (fun _ _=>rfl) (Nat.le_refl _)) (below_al (Below.refl _ _) _)) b5);(have od_5:=At.below (by first | exact od | exact At.below od (below_al (Below.refl _ _) _) | exact At.below (At.below od (below_al (Below.refl _ _) _)) (below_al (Below.refl _ _) _) | exact At.move od (fun _ _=>rfl) (Nat.le_refl _) | exact At.below (At.move (w':=w2.drew) od (fun _ _=>rfl) (Nat.le_refl _)) (below_al (Below.refl _ _) _)) b5);obtain ⟨Av,cv,Bv,dv,rfl⟩:=ownQ_form ov.here;(first | have hbxg:=At.below_lt (box_new _ #[.bool false,.slice none 0 0,.slice none 0 0] 36) b5 | have hbxg:=At.below_lt early4 b5 | skip);(try (have hbxf:=hbxg.1;have HGB:=Lib.hid hbxg.2;clear hbxg));(try (have cz0:=hbxf.here.cell 0 _ rfl;have fz0:=Lib.frozen_of_heap hbxf.here 0;have cz1:=hbxf.here.cell 1 _ rfl;have fz1:=Lib.frozen_of_heap hbxf.here 1;have cz2:=hbxf.here.cell 2 _ rfl;have fz2:=Lib.frozen_of_heap hbxf.here 2));have HBZ5:=Lib.hid hBB.out.size;clear hBB))
    all_goals (go_wp2_with fail;go_meet;first | exact newLocV_last ov lv HBZ5.out (below_of_chg HC5.out) | exact newLocV_early3 hbxf.here ov lv (by first | exact HC4.out.size | exact HC3.out.size | exact HCr.out.size | exact HC0.out.size) HGB.out (below_of_chg HC5.out))
   rename World=>w3
   obtain ⟨gv,csv,Sv,rfl,kv,ov,nv,lv,b3⟩:=hcut
   obtain ⟨Av,cv,Bv,dv,ev⟩:=ownQ_form ov.here
   injection ev with ev
   subst ev
   have bb3:=Below.next bb2 b3
   replace ko:=ko.below b3
   have hzl:=b3.size
   have HW:=Lib.hid (newQn_chg (R0:=(divQ unitQ.1 (ratD x.2.2)).1) (R1:=3) (v:=.agg #[.bool (divQ unitQ.1 (ratD x.2.2)).1.1.1,.slice Av (divQ unitQ.1 (ratD x.2.2)).1.1.2.length cv,.slice Bv (divQ unitQ.1 (ratD x.2.2)).1.2.length dv]) (T:=[w.heap.size]) ov (fun i hi hm=>by have:=(lv i (List.mem_cons_of_mem _ hi)).1;simp at hm;omega) (fun i hi=>by simp at hi;omega) (fun i hi=>by have:=(lv i (List.mem_cons_of_mem _ hi)).1;omega) bb3)
   have cz0:=ko.here.cell 0 _ rfl
   have fz0:=Lib.frozen_of_heap ko.here 0
   have cz1:=ko.here.cell 1 _ rfl
   have fz1:=Lib.frozen_of_heap ko.here 1
   have cz2:=ko.here.cell 2 _ rfl
   have fz2:=Lib.frozen_of_heap ko.here 2
   have cp0:=kv.here.cell 0 _ rfl
   have cp1:=kv.here.cell 1 _ rfl
   have cp2:=kv.here.cell 2 _ rfl
   clear kv k2 k3 k4
   clear ko ov lv
   go_wp2
   refine bodyPost_ret (v:=.tuple #[.agg #[.bool (divQ unitQ.1 (ratD x.2.2)).1.1.1,.slice Av (divQ unitQ.1 (ratD x.2.2)).1.1.2.length cv,.slice Bv (divQ unitQ.1 (ratD x.2.2)).1.2.length dv],.int .i64 3]) (by simp [results,Tryz.results155,go_sem,cz0,cz1,cz2]) rfl ?_
   rw [show R.1 = (divQ unitQ.1 (ratD x.2.2)).1 by rw [HV.out],show R.2 = 3 by rw [HV.out]]
   refine HW.out _ ?_
   repeat (first | with_reducible exact Chg.refl _ _ | with_reducible refine Chg.setCell ?_ (by simp) _ | with_reducible refine Chg.trans ?_ (Chg.of_below (below_al (Below.refl _ _) _)))
  ·have HV:=Lib.hid (EQ.out.symm.trans (store_none (by have:=HN.out;omega) h1))
   have hd1:decide (0 ≤ posE l q p) = false:=decide_eq_false h1
   generalize posE l q p = y at hd1 ⊢
   clear h1
   have HW:=Lib.hid (newQn_zero (T:=[w.heap.size]) (fun i hi=>by simp at hi;omega) bb2)
   have cz0:=ko.here.cell 0 _ rfl
   have fz0:=Lib.frozen_of_heap ko.here 0
   have cz1:=ko.here.cell 1 _ rfl
   have fz1:=Lib.frozen_of_heap ko.here 1
   have cz2:=ko.here.cell 2 _ rfl
   have fz2:=Lib.frozen_of_heap ko.here 2
   clear ko
   go_wp2
   refine bodyPost_ret (v:=.tuple #[.agg #[.bool false,.slice none 0 0,.slice none 0 0],.int .i64 0]) (by simp [results,Tryz.results155,go_sem,cz0,cz1,cz2]) rfl ?_
   rw [show R.1 = zeroQ by rw [HV.out],show R.2 = 0 by rw [HV.out]]
   refine HW.out _ ?_
   repeat (first | with_reducible exact Chg.refl _ _ | with_reducible refine Chg.setCell ?_ (by simp) _ | with_reducible refine Chg.trans ?_ (Chg.of_below (below_al (Below.refl _ _) _)))
end Go.Proofs.YtipbdpdmefcofabGreatDoor
namespace Go.Proofs.YtipbdpdmefcofabGreatDoor
open Go.RowKit
open Go.ChangeMaps (setBlock heap_setBlock_same)
open Go.Maps (Keyed)
section
variable {H:Type} {P:Program} {k e t:TypeId} {R:Value→Option (DataW H × List MemPlace)} {w:World} {b n:Nat} {D:DataW H}
theorem entry_world (K:WideMaps.KeyLaw P k) (ht:P.underlying t = some (.map k e)) {z:Value} (hz:∀ u:World,(zeroValue e).run P u = .ok z u) (h:w.ownsMap P k R b n D) (hn:n < maxLen) {key:Value} {kl:Lit} (hkey:keyOf P k key = some kl) {zd:DataW H} {ps:List MemPlace} (hzd:R z = some (zd,ps))
 {v:Value} {W2:World} (hrun:(Instr.mapEntry t (.map (some b)) key).run P w = .ok v W2):∃ D2,W2.ownsMap P k R b (n+1) D2∧D2.atKey kl zd = D.atKey kl zd:=by
 have h0:=h
 have KK:=Keyed.of_law K
 obtain ⟨es,clock,hb,F,hs,rfl⟩:=h
 rcases K.find w hkey es.toList F.keys with ⟨h1,h2⟩ | ⟨j,e0,h1,h2,h3⟩
 ·obtain ⟨w',hup,hown,_⟩:=h0.update KK ht hn hkey hzd
  have e:W2 = w':=by
   simp [Instr.mapEntry,run_underlying ht,MapKept.run_getObj_map hb,K.check w false hkey,h1,hz,MapKept.run_setObj_map _ hb,Result.andThen] at hrun
   simp [Instr.mapUpdate,run_underlying ht,MapKept.run_getObj_map hb,K.check w false hkey,h1,MapKept.run_setObj_map _ hb,Result.andThen] at hup
   rw [← hrun.2,← hup]
  subst e
  refine ⟨_,hown,?_⟩
  rw [Maps.atKey_put_same ⟨_,rfl⟩ (KK.key hkey),WideElems.atKey_none K F hkey h2]
 ·have hj:es[j]? = some e0:=by simpa using h2
  have hsame:es.modify j (fun e=>{ e with key:=key }) = es:=by
   apply Array.ext
   ·simp
   ·intro i i1 i2
    rw [Array.getElem_modify]
    split
    ·rename_i hij
     subst hij
     have hj0:es[j] = e0:=(Array.getElem?_eq_some_iff.1 hj).2
     rw [hj0,← h3]
    ·rfl
  simp [Instr.mapEntry,run_underlying ht,MapKept.run_getObj_map hb,K.check w false hkey,h1,hj,h3,K.stays w hkey,hsame,MapKept.run_setObj_map _ hb,Result.andThen] at hrun
  rw [← hrun.2]
  exact ⟨_,⟨es,clock,heap_setBlock_same hb _,F,by omega,rfl⟩,rfl⟩
theorem count_step (K:WideMaps.KeyLaw P k) (ht:P.underlying t = some (.map k e)) (he:P.underlying e = some (.int .i64)) (hz:∀ u:World,(zeroValue e).run P u = .ok (.int .i64 0) u) (h:w.ownsMap P k (plainElem P e) b n D) (hn:n < maxLen) {key:Value} {kl:Lit} (hkey:keyOf P k key = some kl)
 {c:Int} (hc:D.atKey kl (.lit (.int .i64 0)) = .lit (.int .i64 c)) (hc0:0 ≤ c) (hc1:c ≤ 1048576) :
 ∃ (v0:Value) (st:Nat) (W2 W3:World),(Instr.lookup t (.map (some b)) key false).run P w = .ok (.int .i64 c) w∧(Instr.lookup t (.map (some b)) key false).run P W2 = .ok (.int .i64 c) W2∧(Instr.mapEntry t (.map (some b)) key).run P w = .ok (.tuple #[v0,.int .i64 st]) W2 ∧
   (Instr.entryStore t (.map (some b)) (.int .i64 st) (.int .i64 (c+1))).run P W2 = .ok () W3∧W3.ownsMap P k (plainElem P e) b (n+1) (D.put kl (.lit (.int .i64 (c+1))))∧w.grownBy W3 (some b):=by
 have KK:=Keyed.of_law K
 have wf0:(Lit.int .i64 0).wf = true:=by decide
 have wf1:(Lit.int .i64 (c+1)).wf = true:=by simp [Lit.wf,IntKind.min,IntKind.max,IntKind.signed,IntKind.bits];omega
 obtain ⟨c1,hl,hat,_⟩:=h.lookup_int KK ht he (hz w) hkey
 obtain rfl:c1 = c:=by
  rw [hc] at hat
  injection hat with e1
  injection e1 with _ e1
  exact e1.symm
 have h':=h
 obtain ⟨es,clock,hb,F,hs,_⟩:=h'
 obtain ⟨v0,st,es1,clock1,hent,_,hst⟩:=WideElems.entry_then_store K ht hz hb F hkey
 obtain ⟨D2,h2,hat2⟩:=entry_world K ht hz h hn hkey (plainElem_int he wf0) hent
 obtain ⟨c2,hl2,hat2',_⟩:=h2.lookup_int KK ht he (hz _) hkey
 obtain rfl:c2 = c1:=by
  rw [hat2,hc] at hat2'
  injection hat2' with e1
  injection e1 with _ e1
  exact e1.symm
 obtain ⟨es',clock',hs',hup⟩:=hst _ (.int .i64 (c2+1)) (heap_setBlock_same hb _)
 obtain ⟨w',hup',hown,hgr⟩:=h.update KK ht hn hkey (plainElem_int he wf1)
 rw [hup] at hup'
 have ew:setBlock (setBlock w b (.map es1 clock1)) b (.map es' clock') = w':=by
  injection hup' with _ e1
  rw [← e1]
  simp [setBlock]
 refine ⟨v0,st,_,_,hl,hl2,hent,hs',?_,?_⟩
 ·rw [ew];exact hown
 ·rw [ew];exact hgr
end
theorem pairLaid:laidOutB Tryz.prog = true:=by kernel_rfl
theorem pairRow:(197:TypeId) < Tryz.prog.types.size:=of_decide_eq_true (by kernel_rfl)
theorem pairWide:(match Tryz.prog.underlying 197 with | some (.array _ _) | some (.struct _)=>true | _=>false) = true:=by kernel_rfl
theorem pairLaw:WideMaps.KeyLaw Tryz.prog 197:=deep_law_laid pairLaid (m:=2) (by omega) pairRow (by kernel_rfl) pairWide
def pairV (a b:ByteArray):Value:=.agg #[.string a,.string b]
theorem pair_key (a b:ByteArray) (ha:a.size ≤ maxLen) (hb:b.size ≤ maxLen):∃ kl,keyOf Tryz.prog 197 (pairV a b) = some kl:=by
 have hk:Tryz.prog.keyType 197 = true:=by kernel_rfl
 have hc:Tryz.prog.cellsOf 197 = 2:=by kernel_rfl
 have hs:Tryz.prog.cellsOf 9 = 1:=by kernel_rfl
 have hf:(pairV a b).formed Tryz.prog 197 = true:=by simp [pairV,Value.formed,Tryz.underlying197,hc]
 obtain ⟨n,hn⟩:∃ n,Tryz.prog.types.size = n+1:=Nat.exists_eq_succ_of_ne_zero (Nat.ne_of_gt (Nat.lt_of_le_of_lt (Nat.zero_le _) pairRow))
 have hl:∃ ls,Tryz.prog.keyLits (Tryz.prog.types.size+1) 197 (pairV a b).cells.toList = some ls:=by
  rw [hn]
  simp [Program.keyLits,Tryz.underlying197,Tryz.underlying9,pairV,Value.cells,hc,hs,ha,hb]
 obtain ⟨ls,hl⟩:=hl
 refine ⟨.string (keyBytes ls),?_⟩
 unfold keyOf
 rw [Tryz.underlying197]
 dsimp only
 rw [hk,hf,hl]
 rfl
def CntD (D:DataW Unit) (l:List EI):Prop :=
 (∀ a b kl,keyOf Tryz.prog 197 (pairV a b) = some kl→D.atKey kl (.lit (.int .i64 0)) = .lit (.int .i64 (cntE l a b)))∧∀ kl,Maps.has D kl = true→∃ r ∈ l,keyOf Tryz.prog 197 (pairV r.1 r.2.1) = some kl
theorem cntD_nil:CntD (.map []) []:=⟨fun _ _ _ _=>rfl,fun kl h=>by cases h⟩
theorem pairV_inj {a b p q:ByteArray} (h:pairV a b = pairV p q):p = a∧q = b:=by
 unfold pairV at h
 injection h with h
 simp at h
 exact ⟨h.1.symm,h.2.symm⟩
theorem cntD_put {D:DataW Unit} {l:List EI} {k:Nat} {x:EI} {kl:Lit} (hD:Maps.IsMap D) (h:CntD D (l.take k)) (hx:l[k]? = some x) (hk:keyOf Tryz.prog 197 (pairV x.1 x.2.1) = some kl) :
 CntD (D.put kl (.lit (.int .i64 ((cntE (l.take k) x.1 x.2.1:Int)+1)))) (l.take (k+1)):=by
 have KK:=Keyed.of_law pairLaw
 refine ⟨fun a b kl' hk'=>?_,fun kl' hh=>?_⟩
 ·rw [cntE_take hx]
  by_cases e:kl' = kl
  ·subst e
   obtain ⟨e1,e2⟩:=pairV_inj (KK.inj hk' hk)
   rw [Maps.atKey_put_same hD (KK.key hk),if_pos ⟨e1,e2⟩,e1,e2]
   rfl
  ·rw [Maps.atKey_put_other e,h.1 a b kl' hk',if_neg]
   ·rfl
   ·rintro ⟨rfl,rfl⟩
    rw [hk] at hk'
    exact e (Option.some.inj hk').symm
 ·have hmem:∀ r ∈ l.take k,r ∈ l.take (k+1):=fun r hr=>by
   have hj:=(List.getElem?_eq_some_iff.1 hx).1
   rw [List.take_succ_eq_append_getElem hj]
   exact List.mem_append_left _ hr
  by_cases e:kl' = kl
  ·subst e
   refine ⟨x,?_,hk⟩
   have hj:=(List.getElem?_eq_some_iff.1 hx).1
   rw [List.take_succ_eq_append_getElem hj,(List.getElem?_eq_some_iff.1 hx).2]
   exact List.mem_append_right _ (List.mem_singleton.2 rfl)
  ·rw [Maps.has_put_other e] at hh
   obtain ⟨r,hr,hkr⟩:=h.2 kl' hh
   exact ⟨r,hmem r hr,hkr⟩
end Go.Proofs.YtipbdpdmefcofabGreatDoor
