import Derived.Deep.RegionLaw
import Derived.Deep.AppendLies
import Derived.Deep.RegionHeld3
import Derived.Test.YtipbdpdmefcofabGreatDoorJC6
set_option maxRecDepth 100000
namespace Go.Proofs.YtipbdpdmefcofabGreatDoor
open Go.RowKit
theorem after_append {wb w3:World} {base L gg n k:Nat} {v:Value} {xs:List Value} (m cap:Nat) (o:wb.ownsRow base 3 1 v n xs) (hg:wb.grownBy w3 (Value.slice (some ⟨L,0,none⟩) 0 k).ownBlock)
 (hat:(Value.slice (some ⟨L,0,none⟩) 0 k).ownBlock = some gg ∨ gg = wb.heap.size) (hL:L < base ∨ ∀ g,v.ownBlock = some g→g < L):w3.ownsRow base 3 1 v n xs∧∀ g,v.ownBlock = some g→(Value.slice (some ⟨gg,0,none⟩) (0+m) cap).ownBlock ≠ some g:=by
 refine ⟨own_apart o hg fun g q h1 h2=>?_,fun g h1 h2=>?_⟩
 ·have h3:=Option.some.inj (show some L = some q from h2)
  have h4:=own_lt o h1
  rcases hL with h5 | h5
  ·omega
  ·have:=h5 g h1
   omega
 ·have h3:=Option.some.inj (show some gg = some g from h2)
  have h4:=own_lt o h1
  rcases hat with h6 | h6
  ·have h7:=Option.some.inj (show some L = some gg from h6)
   rcases hL with h5 | h5
   ·omega
   ·have:=h5 g h1
    omega
  ·omega
set_option maxHeartbeats 2000000 in
theorem specRatNeg_any (vr:Value) (r:QI) (w:World) (hzr:szQ r ≤ 1048576) (hr:OwnQ vr r w) :
 Calls Tryz.prog 93 #[vr] w (PostQb (negQ r).1 (negQ r).2 w):=by
 obtain ⟨i0,hi0,hz0,hz1,hz2⟩:=info_parts intInfo
 have Hr:=Lib.hid hr
 obtain ⟨Ar,cr,Br,dr,rfl⟩:=ownQ_form hr
 have OQr:=Lib.hid (show ∀ W,Below w.heap.size w W→OwnQ (.agg #[.bool r.1.1,.slice Ar r.1.2.length cr,.slice Br r.2.length dr]) r W from fun W hb=>OwnQ.below Hr.out hb)
 have OUr:=Lib.hid (show ∀ W,Below w.heap.size w W→OwnI (.slice Ar r.1.2.length cr) r.1.2 W from fun W hb=>(ownQ_open (OQr.out W hb)).2.1)
 have ODr:=Lib.hid (show ∀ W,Below w.heap.size w W→OwnI (.slice Br r.2.length dr) r.2 W from fun W hb=>(ownQ_open (OQr.out W hb)).2.2.1)
 have OSr:=Lib.hid (show ∀ W,Below w.heap.size w W→OwnS (.agg #[.bool r.1.1,.slice Ar r.1.2.length cr]) r.1 W from fun W hb=>OwnS.mk (OUr.out W hb))
 clear hr
 have hlr:=szQ_len hzr
 have hl1r:=hlr.1
 have hl2r:=hlr.2
 clear hlr
 have bb0:Below w.heap.size w ((w.alloc (.cells #[.bool r.1.1,.slice Ar r.1.2.length cr,.slice Br r.2.length dr] 36)).alloc (.cells #[.bool false,.slice none 0 0,.slice none 0 0] 36)):=below_al (below_al (Below.refl _ _) _) _
 have kr:=(box_new w #[.bool r.1.1,.slice Ar r.1.2.length cr,.slice Br r.2.length dr] 36).below (below_al (Below.refl _ _) (.cells #[.bool false,.slice none 0 0,.slice none 0 0] 36))
 have ko:=(box_new (w.alloc (.cells #[.bool r.1.1,.slice Ar r.1.2.length cr,.slice Br r.2.length dr] 36)) #[.bool false,.slice none 0 0,.slice none 0 0] 36)
 rw [show (w.alloc (.cells #[.bool r.1.1,.slice Ar r.1.2.length cr,.slice Br r.2.length dr] 36)).heap.size = w.heap.size+1 by simp] at ko
 go_enter Tryz.func93,Tryz.ntmps93
 have kr_c0:=kr.here.cell 0 _ rfl
 have kr_c1:=kr.here.cell 1 _ rfl
 have kr_c2:=kr.here.cell 2 _ rfl
 go_wp2_with fail
 clear kr_c0 kr_c1 kr_c2
 refine (specRatOk_any _ r _ hzr (OQr.out _ bb0)).mono ?_
 rintro e w1 ⟨rfl,b1⟩
 have bb1:=Below.next bb0 b1
 replace kr:=kr.below b1
 replace ko:=ko.below b1
 by_cases okr:okQ r = true
 ·rw [okr]
  have HOr:=Lib.hid okr
  clear okr
  have HP:=Lib.hid (parts_of HOr.out)
  have hp:0 < r.2.length:=(okQ_parts HOr.out).2.2.1
  have hd18:=HP.out.d50
  have HB1:=Lib.hid bb1
  have HONE:=Lib.hid oneCells
  have HV:=Lib.hid (show negQ r = ((negS r.1,r.2),true) by unfold negQ;rw [if_pos HOr.out])
  have kr_c0:=kr.here.cell 0 _ rfl
  have kr_c1:=kr.here.cell 1 _ rfl
  have kr_c2:=kr.here.cell 2 _ rfl
  have ko_c0:=ko.here.cell 0 _ rfl
  have ko_c1:=ko.here.cell 1 _ rfl
  have ko_c2:=ko.here.cell 2 _ rfl
  have ko_f0:=Lib.frozen_of_heap ko.here 0
  have ko_f1:=Lib.frozen_of_heap ko.here 1
  have ko_f2:=Lib.frozen_of_heap ko.here 2
  have hsz1:=bb1.size
  have hko:=ko.lt (w.heap.size+1) (by simp)
  go_wp2_with fail
  obtain ⟨gB,cB,eB,hgB0,hgB1,_⟩:=own_form (ODr.out _ bb1) hp
  injection eB with eB _ ecB
  subst eB ecB
  have HB0:=Lib.hid (show Below w1.heap.size w1 w1.drew from (Below.refl _ _).drew)
  have BBF:=Lib.hid (show ∀ W,Below w1.heap.size w1 W→Below w.heap.size w W from fun W hb=>Below.next bb1 hb)
  have KR:=Lib.hid (show ∀ W,Below w1.heap.size w1 W→W.cell? ⟨w.heap.size,0,none⟩ = some (.bool r.1.1)∧W.cell? ⟨w.heap.size,1,none⟩ = some (.slice Ar r.1.2.length cr)∧W.cell? ⟨w.heap.size,2,none⟩ = some (.slice (some ⟨gB,0,none⟩) r.2.length dr) from
   fun W hb=>⟨(kr.below hb).here.cell 0 _ rfl,(kr.below hb).here.cell 1 _ rfl,(kr.below hb).here.cell 2 _ rfl⟩)
  have KO:=Lib.hid (show ∀ W,Below w1.heap.size w1 W→At [w.heap.size+1] (BoxAt (w.heap.size+1) #[.bool false,.slice none 0 0,.slice none 0 0] 36) W from fun W hb=>ko.below hb)
  have ODc:=Lib.hid (show ∀ W,Below w1.heap.size w1 W→∀ j u,(intsV r.2)[j]? = some u→W.cell? (Addr.add ⟨gB,0,none⟩ j) = some u from fun W hb j u hj=>by
   obtain ⟨A',c',e1,hA⟩:=(ODr.out W (BBF.out W hb)).row
   injection e1 with e1 _ _
   subst e1
   obtain ⟨a,ea,_,_,hc⟩:=hA j u hj
   cases ea
   exact hc)
  have HB1L:=Lib.hid (show Below w1.heap.size w1 (w1.alloc (.cells #[] 3)).drew from (below_al (Below.refl _ _) _).drew)
  have LITLT:=Lib.hid (show w1.heap.size < (w1.alloc (.cells #[] 3)).drew.heap.size by show w1.heap.size < (w1.alloc (.cells #[] 3)).heap.size;simp)
  have LIT:=Lib.hid (fun W:World=>World.ownsRow_made (base:=w1.heap.size) (e:=3) (size:=1) W #[] 0)
  have hk0:w.heap.size < w1.heap.size:=by omega
  go_region_law (first
   | (refine step_append_lies _ (by rfl) _ _ _ (by rfl) w1.heap.size 3 i0 _ 1 8 Tryz.underlying25 hi0 hz0 hz1 hz2 rfl (by omega) _ 0 [] (by rfl) (by first | exact LIT.out wc HBC.out.size (Nat.zero_le _) rfl | exact own_below (LIT.out w1 (Nat.le_refl _) (Nat.zero_le _) rfl).drew bc) _ r.2.length dr (intsV r.2) (by rfl) (by simp [intsV]) (ODc.out _ (by first | exact HBC.out | exact below_al HBC.out _)) (HONE.out _) hp (by unfold maxLen;omega) (by omega) (by first | exact HBC.out.size | exact (below_al HBC.out _).size) _ (by rfl) ?_;intro gg cap w3 hown3 hg3 hat3 hlt3;have HBE:=Lib.hid (show Below w1.heap.size w1 w3 from by first | exact HBC.out.grown hg3 HBC.out.size (fun k hk=>by cases hk;exact Nat.le_refl _) | exact (below_al HBC.out _).grown hg3 (below_al HBC.out _).size (fun k hk=>by cases hk;exact HBC.out.size));have HOE:=Lib.hid hown3;(first | (have hzz:=after_append r.2.length cap (own_alloc HOC.out (.cells #[] 3)) hg3 hat3 (.inr fun g hg=>(own_lt HOC.out hg).2)) | (have hzz:=after_append r.2.length cap HOC.out hg3 hat3 (.inl LITLT.out)));obtain ⟨hoc3,hap3⟩:=hzz;have HOC3:=Lib.hid hoc3;have HAP:=Lib.hid hap3;clear hoc3 hap3;(have e_r0:=(KR.out _ HBE.out).1);(have e_r1:=(KR.out _ HBE.out).2.1);(have e_r2:=(KR.out _ HBE.out).2.2);(have e_o0:=(KO.out _ HBE.out).here.cell 0 _ rfl);(have e_o1:=(KO.out _ HBE.out).here.cell 1 _ rfl);(have e_o2:=(KO.out _ HBE.out).here.cell 2 _ rfl);(have e_f0:=Lib.frozen_of_heap (KO.out _ HBE.out).here 0);(have e_f1:=Lib.frozen_of_heap (KO.out _ HBE.out).here 1);(have e_f2:=Lib.frozen_of_heap (KO.out _ HBE.out).here 2);clear hown3 hg3 hat3 hlt3)
   | (go_simp;go_at_call 121;(first | (have hBB:=HB0.out;with_reducible refine (specIntNeg_any _ r.1 _ hl1r (OSr.out _ (BBF.out _ hBB))).mono ?_) | (have hBB:=HB1L.out;with_reducible refine (specIntNeg_any _ r.1 _ hl1r (OSr.out _ (BBF.out _ hBB))).mono ?_));rintro e wc ⟨uc,rfl,oc,bc⟩;obtain ⟨Ac,cc,rfl⟩:=own_len oc;have HOC:=Lib.hid oc;have HBC:=Lib.hid (Below.next hBB bc);(have c_l0:w.heap.size < wc.heap.size:=by have:=HBC.out.size;omega);(have c_l1:w.heap.size+1 < wc.heap.size:=by have:=HBC.out.size;omega);(have c_r0:=(KR.out _ HBC.out).1);(have c_r1:=(KR.out _ HBC.out).2.1);(have c_r2:=(KR.out _ HBC.out).2.2);(have c_o0:=(KO.out _ HBC.out).here.cell 0 _ rfl);(have c_o1:=(KO.out _ HBC.out).here.cell 1 _ rfl);(have c_o2:=(KO.out _ HBC.out).here.cell 2 _ rfl);(have c_f0:=Lib.frozen_of_heap (KO.out _ HBC.out).here 0);(have c_f1:=Lib.frozen_of_heap (KO.out _ HBC.out).here 1);(have c_f2:=Lib.frozen_of_heap (KO.out _ HBC.out).here 2);clear oc hBB))
  all_goals
   have HR:=Lib.hid (newQb_ret (x:=(negS r.1,r.2)) (b:=true) (KO.out _ HBE.out).here HOC3.out (by have h:=HOE.out;simp only [Nat.zero_add,List.nil_append] at h;exact h) (by have h:=HAP.out;simp only [Nat.zero_add] at h;exact h) (Nat.le_trans bb1.size (by first | exact HB0.out.size | exact HB1L.out.size)) bb1.size (Nat.le_add_right _ 1) (BBF.out _ HBE.out))
   clear HOE HOC3 HAP HBE HBC HOC HB0 HB1L LIT ODc KO KR BBF OQr OUr ODr OSr
   go_wp2
   refine bodyPost_ret (v:=.tuple #[.agg #[.bool _,.slice Ac _ cc,.slice _ _ cap],.bool true]) (by simp [results,Tryz.results93,go_sem,e_o0,e_o1,e_o2];exact ⟨rfl,rfl,rfl,rfl⟩) rfl ?_
   rw [HV.out]
   exact HR.out
 ·have okr':okQ r = false:=by simpa using okr
  have HV:=Lib.hid (show negQ r = (zeroQ,false) by unfold negQ;rw [if_neg okr])
  rw [okr']
  clear okr okr'
  have cz0:=ko.here.cell 0 _ rfl
  have fz0:=Lib.frozen_of_heap ko.here 0
  have cz1:=ko.here.cell 1 _ rfl
  have fz1:=Lib.frozen_of_heap ko.here 1
  have cz2:=ko.here.cell 2 _ rfl
  have fz2:=Lib.frozen_of_heap ko.here 2
  go_wp2
  refine bodyPost_ret (v:=.tuple #[.agg #[.bool false,.slice none 0 0,.slice none 0 0],.bool false]) (by simp [results,Tryz.results93,go_sem,cz0,cz1,cz2]) rfl ?_
  rw [HV.out]
  first | exact newQb_zero _ bb1 | exact newQb_zero _ (below_set3 bb1 (by omega))
set_option maxHeartbeats 1000000 in
theorem l06Away_0 (vq vr vd:Value) (neg:Bool) (Q R D:Nat) (w:World) (_:(limbs Q).length ≤ 50) (hr:(limbs R).length ≤ 18) (hd:(limbs D).length ≤ 18) (oq:OwnI vq (limbs Q) w) (or_:OwnI vr (limbs R) w) (od:OwnI vd (limbs D) w) :
 Calls Tryz.prog 119 #[.bool neg,vq,vr,vd,.int .i64 0] w (Postb (awayB neg Q R D 0) w):=by
 obtain ⟨Aq,cq,rfl⟩:=own_len oq
 obtain ⟨Ar,cr,rfl⟩:=own_len or_
 obtain ⟨Ad,cd,rfl⟩:=own_len od
 have HOQ:=Lib.hid oq
 have HOR:=Lib.hid or_
 have HOD:=Lib.hid od
 have HTW:=Lib.hid (twice_len hr)
 obtain ⟨c,hc⟩:∃ c,cmpI ((R:Int)+R+0) D = c:=⟨_,rfl⟩
 have HC:=Lib.hid hc
 have HA:=Lib.hid (away_cmp neg Q R D hc)
 have h3:c = -1 ∨ c = 0 ∨ c = 1:=by rw [← hc];exact cmp_three _ _
 clear hc oq or_ od
 go_enter Tryz.func119,Tryz.ntmps119
 go_wp2_with fail
 refine (specAdd_any _ _ (limbs R) (limbs R) 0 _ 0 _ _ (by omega) (by omega) (Nat.le_refl _) (Nat.le_refl _) (limbs_digN R) (limbs_digN R) HOR.out.row HOR.out.row).mono ?_
 rintro e w1 ⟨v1,rfl,o1,b1⟩
 obtain ⟨A1,c1,rfl⟩:=own_len o1
 have HO1:=Lib.hid o1
 clear o1
 go_wp2_with fail
 refine (specCmp_any _ _ (addL (limbs R) (limbs R) 0) (limbs D) _ _ _ _ _ (by have:=HTW.out.1;omega) (by omega) ⟨HTW.out.2.1,HTW.out.2.2.1⟩ ⟨limbs_digN D,limbs_lastN D⟩ (Row.of_own HO1.out) (HOD.out.belowI b1).row).mono ?_
 rintro e w2 ⟨rfl,q,rfl⟩
 rw [HTW.out.2.2.2,limbs_val,HC.out]
 have bb:=below_drewN b1 q
 clear h3
 go_wp2
 go_ret
 exact ⟨ret_bool (rfl),bb⟩
set_option maxHeartbeats 1000000 in
theorem l06Away_1 (vq vr vd:Value) (neg:Bool) (Q R D:Nat) (w:World) (_:(limbs Q).length ≤ 50) (hr:(limbs R).length ≤ 18) (hd:(limbs D).length ≤ 18) (oq:OwnI vq (limbs Q) w) (or_:OwnI vr (limbs R) w) (od:OwnI vd (limbs D) w) :
 Calls Tryz.prog 119 #[.bool neg,vq,vr,vd,.int .i64 1] w (Postb (awayB neg Q R D 1) w):=by
 obtain ⟨Aq,cq,rfl⟩:=own_len oq
 obtain ⟨Ar,cr,rfl⟩:=own_len or_
 obtain ⟨Ad,cd,rfl⟩:=own_len od
 have HOQ:=Lib.hid oq
 have HOR:=Lib.hid or_
 have HOD:=Lib.hid od
 have HTW:=Lib.hid (twice_len hr)
 obtain ⟨c,hc⟩:∃ c,cmpI ((R:Int)+R+0) D = c:=⟨_,rfl⟩
 have HC:=Lib.hid hc
 have HA:=Lib.hid (away_cmp neg Q R D hc)
 have h3:c = -1 ∨ c = 0 ∨ c = 1:=by rw [← hc];exact cmp_three _ _
 clear hc oq or_ od
 go_enter Tryz.func119,Tryz.ntmps119
 go_wp2_with fail
 refine (specAdd_any _ _ (limbs R) (limbs R) 0 _ 0 _ _ (by omega) (by omega) (Nat.le_refl _) (Nat.le_refl _) (limbs_digN R) (limbs_digN R) HOR.out.row HOR.out.row).mono ?_
 rintro e w1 ⟨v1,rfl,o1,b1⟩
 obtain ⟨A1,c1,rfl⟩:=own_len o1
 have HO1:=Lib.hid o1
 clear o1
 go_wp2_with fail
 refine (specCmp_any _ _ (addL (limbs R) (limbs R) 0) (limbs D) _ _ _ _ _ (by have:=HTW.out.1;omega) (by omega) ⟨HTW.out.2.1,HTW.out.2.2.1⟩ ⟨limbs_digN D,limbs_lastN D⟩ (Row.of_own HO1.out) (HOD.out.belowI b1).row).mono ?_
 rintro e w2 ⟨rfl,q,rfl⟩
 rw [HTW.out.2.2.2,limbs_val,HC.out]
 have bb:=below_drewN b1 q
 clear h3
 go_wp2
 go_ret
 exact ⟨ret_bool (rfl),bb⟩
set_option maxHeartbeats 1000000 in
theorem l06Away_2 (vq vr vd:Value) (neg:Bool) (Q R D:Nat) (w:World) (_:(limbs Q).length ≤ 50) (hr:(limbs R).length ≤ 18) (hd:(limbs D).length ≤ 18) (oq:OwnI vq (limbs Q) w) (or_:OwnI vr (limbs R) w) (od:OwnI vd (limbs D) w) :
 Calls Tryz.prog 119 #[.bool neg,vq,vr,vd,.int .i64 2] w (Postb (awayB neg Q R D 2) w):=by
 obtain ⟨Aq,cq,rfl⟩:=own_len oq
 obtain ⟨Ar,cr,rfl⟩:=own_len or_
 obtain ⟨Ad,cd,rfl⟩:=own_len od
 have HOQ:=Lib.hid oq
 have HOR:=Lib.hid or_
 have HOD:=Lib.hid od
 have HTW:=Lib.hid (twice_len hr)
 obtain ⟨c,hc⟩:∃ c,cmpI ((R:Int)+R+0) D = c:=⟨_,rfl⟩
 have HC:=Lib.hid hc
 have HA:=Lib.hid (away_cmp neg Q R D hc)
 have h3:c = -1 ∨ c = 0 ∨ c = 1:=by rw [← hc];exact cmp_three _ _
 clear hc oq or_ od
 go_enter Tryz.func119,Tryz.ntmps119
 go_wp2_with fail
 refine (specAdd_any _ _ (limbs R) (limbs R) 0 _ 0 _ _ (by omega) (by omega) (Nat.le_refl _) (Nat.le_refl _) (limbs_digN R) (limbs_digN R) HOR.out.row HOR.out.row).mono ?_
 rintro e w1 ⟨v1,rfl,o1,b1⟩
 obtain ⟨A1,c1,rfl⟩:=own_len o1
 have HO1:=Lib.hid o1
 clear o1
 go_wp2_with fail
 refine (specCmp_any _ _ (addL (limbs R) (limbs R) 0) (limbs D) _ _ _ _ _ (by have:=HTW.out.1;omega) (by omega) ⟨HTW.out.2.1,HTW.out.2.2.1⟩ ⟨limbs_digN D,limbs_lastN D⟩ (Row.of_own HO1.out) (HOD.out.belowI b1).row).mono ?_
 rintro e w2 ⟨rfl,q,rfl⟩
 rw [HTW.out.2.2.2,limbs_val,HC.out]
 have bb:=below_drewN b1 q
 clear h3
 go_wp2
 go_ret
 exact ⟨ret_bool (rfl),bb⟩
set_option maxHeartbeats 1000000 in
theorem l06Away_3 (vq vr vd:Value) (neg:Bool) (Q R D:Nat) (w:World) (_:(limbs Q).length ≤ 50) (hr:(limbs R).length ≤ 18) (hd:(limbs D).length ≤ 18) (oq:OwnI vq (limbs Q) w) (or_:OwnI vr (limbs R) w) (od:OwnI vd (limbs D) w) :
 Calls Tryz.prog 119 #[.bool neg,vq,vr,vd,.int .i64 3] w (Postb (awayB neg Q R D 3) w):=by
 obtain ⟨Aq,cq,rfl⟩:=own_len oq
 obtain ⟨Ar,cr,rfl⟩:=own_len or_
 obtain ⟨Ad,cd,rfl⟩:=own_len od
 have HOQ:=Lib.hid oq
 have HOR:=Lib.hid or_
 have HOD:=Lib.hid od
 have HTW:=Lib.hid (twice_len hr)
 obtain ⟨c,hc⟩:∃ c,cmpI ((R:Int)+R+0) D = c:=⟨_,rfl⟩
 have HC:=Lib.hid hc
 have HA:=Lib.hid (away_cmp neg Q R D hc)
 have h3:c = -1 ∨ c = 0 ∨ c = 1:=by rw [← hc];exact cmp_three _ _
 clear hc oq or_ od
 go_enter Tryz.func119,Tryz.ntmps119
 go_wp2_with fail
 refine (specAdd_any _ _ (limbs R) (limbs R) 0 _ 0 _ _ (by omega) (by omega) (Nat.le_refl _) (Nat.le_refl _) (limbs_digN R) (limbs_digN R) HOR.out.row HOR.out.row).mono ?_
 rintro e w1 ⟨v1,rfl,o1,b1⟩
 obtain ⟨A1,c1,rfl⟩:=own_len o1
 have HO1:=Lib.hid o1
 clear o1
 go_wp2_with fail
 refine (specCmp_any _ _ (addL (limbs R) (limbs R) 0) (limbs D) _ _ _ _ _ (by have:=HTW.out.1;omega) (by omega) ⟨HTW.out.2.1,HTW.out.2.2.1⟩ ⟨limbs_digN D,limbs_lastN D⟩ (Row.of_own HO1.out) (HOD.out.belowI b1).row).mono ?_
 rintro e w2 ⟨rfl,q,rfl⟩
 rw [HTW.out.2.2.2,limbs_val,HC.out]
 have bb:=below_drewN b1 q
 clear h3
 go_wp2
 go_ret
 exact ⟨ret_bool (rfl),bb⟩
set_option maxHeartbeats 1000000 in
theorem l06Away_4 (vq vr vd:Value) (neg:Bool) (Q R D:Nat) (w:World) (_:(limbs Q).length ≤ 50) (hr:(limbs R).length ≤ 18) (hd:(limbs D).length ≤ 18) (oq:OwnI vq (limbs Q) w) (or_:OwnI vr (limbs R) w) (od:OwnI vd (limbs D) w) :
 Calls Tryz.prog 119 #[.bool neg,vq,vr,vd,.int .i64 4] w (Postb (awayB neg Q R D 4) w):=by
 obtain ⟨Aq,cq,rfl⟩:=own_len oq
 obtain ⟨Ar,cr,rfl⟩:=own_len or_
 obtain ⟨Ad,cd,rfl⟩:=own_len od
 have HOQ:=Lib.hid oq
 have HOR:=Lib.hid or_
 have HOD:=Lib.hid od
 have HTW:=Lib.hid (twice_len hr)
 obtain ⟨c,hc⟩:∃ c,cmpI ((R:Int)+R+0) D = c:=⟨_,rfl⟩
 have HC:=Lib.hid hc
 have HA:=Lib.hid (away_cmp neg Q R D hc)
 have h3:c = -1 ∨ c = 0 ∨ c = 1:=by rw [← hc];exact cmp_three _ _
 clear hc oq or_ od
 go_enter Tryz.func119,Tryz.ntmps119
 go_wp2_with fail
 refine (specAdd_any _ _ (limbs R) (limbs R) 0 _ 0 _ _ (by omega) (by omega) (Nat.le_refl _) (Nat.le_refl _) (limbs_digN R) (limbs_digN R) HOR.out.row HOR.out.row).mono ?_
 rintro e w1 ⟨v1,rfl,o1,b1⟩
 obtain ⟨A1,c1,rfl⟩:=own_len o1
 have HO1:=Lib.hid o1
 clear o1
 go_wp2_with fail
 refine (specCmp_any _ _ (addL (limbs R) (limbs R) 0) (limbs D) _ _ _ _ _ (by have:=HTW.out.1;omega) (by omega) ⟨HTW.out.2.1,HTW.out.2.2.1⟩ ⟨limbs_digN D,limbs_lastN D⟩ (Row.of_own HO1.out) (HOD.out.belowI b1).row).mono ?_
 rintro e w2 ⟨rfl,q,rfl⟩
 rw [HTW.out.2.2.2,limbs_val,HC.out]
 have bb:=below_drewN b1 q
 clear h3
 go_wp2
 go_ret
 exact ⟨ret_bool HA.out.1.symm,bb⟩
set_option maxHeartbeats 1000000 in
theorem l06Away_5 (vq vr vd:Value) (neg:Bool) (Q R D:Nat) (w:World) (_:(limbs Q).length ≤ 50) (hr:(limbs R).length ≤ 18) (hd:(limbs D).length ≤ 18) (oq:OwnI vq (limbs Q) w) (or_:OwnI vr (limbs R) w) (od:OwnI vd (limbs D) w) :
 Calls Tryz.prog 119 #[.bool neg,vq,vr,vd,.int .i64 5] w (Postb (awayB neg Q R D 5) w):=by
 obtain ⟨Aq,cq,rfl⟩:=own_len oq
 obtain ⟨Ar,cr,rfl⟩:=own_len or_
 obtain ⟨Ad,cd,rfl⟩:=own_len od
 have HOQ:=Lib.hid oq
 have HOR:=Lib.hid or_
 have HOD:=Lib.hid od
 have HTW:=Lib.hid (twice_len hr)
 obtain ⟨c,hc⟩:∃ c,cmpI ((R:Int)+R+0) D = c:=⟨_,rfl⟩
 have HC:=Lib.hid hc
 have HA:=Lib.hid (away_cmp neg Q R D hc)
 have h3:c = -1 ∨ c = 0 ∨ c = 1:=by rw [← hc];exact cmp_three _ _
 clear hc oq or_ od
 go_enter Tryz.func119,Tryz.ntmps119
 go_wp2_with fail
 refine (specAdd_any _ _ (limbs R) (limbs R) 0 _ 0 _ _ (by omega) (by omega) (Nat.le_refl _) (Nat.le_refl _) (limbs_digN R) (limbs_digN R) HOR.out.row HOR.out.row).mono ?_
 rintro e w1 ⟨v1,rfl,o1,b1⟩
 obtain ⟨A1,c1,rfl⟩:=own_len o1
 have HO1:=Lib.hid o1
 clear o1
 go_wp2_with fail
 refine (specCmp_any _ _ (addL (limbs R) (limbs R) 0) (limbs D) _ _ _ _ _ (by have:=HTW.out.1;omega) (by omega) ⟨HTW.out.2.1,HTW.out.2.2.1⟩ ⟨limbs_digN D,limbs_lastN D⟩ (Row.of_own HO1.out) (HOD.out.belowI b1).row).mono ?_
 rintro e w2 ⟨rfl,q,rfl⟩
 rw [HTW.out.2.2.2,limbs_val,HC.out]
 have bb:=below_drewN b1 q
 clear h3
 go_wp2
 go_ret
 exact ⟨ret_bool HA.out.2.1.symm,bb⟩
set_option maxHeartbeats 1000000 in
theorem l06Away_6 (vq vr vd:Value) (neg:Bool) (Q R D:Nat) (w:World) (hq:(limbs Q).length ≤ 50) (hr:(limbs R).length ≤ 18) (hd:(limbs D).length ≤ 18) (oq:OwnI vq (limbs Q) w) (or_:OwnI vr (limbs R) w) (od:OwnI vd (limbs D) w) :
 Calls Tryz.prog 119 #[.bool neg,vq,vr,vd,.int .i64 6] w (Postb (awayB neg Q R D 6) w):=by
 obtain ⟨Aq,cq,rfl⟩:=own_len oq
 obtain ⟨Ar,cr,rfl⟩:=own_len or_
 obtain ⟨Ad,cd,rfl⟩:=own_len od
 have HOQ:=Lib.hid oq
 have HOR:=Lib.hid or_
 have HOD:=Lib.hid od
 have HTW:=Lib.hid (twice_len hr)
 obtain ⟨c,hc⟩:∃ c,cmpI ((R:Int)+R+0) D = c:=⟨_,rfl⟩
 have HC:=Lib.hid hc
 have HA:=Lib.hid (away_cmp neg Q R D hc)
 have h3:c = -1 ∨ c = 0 ∨ c = 1:=by rw [← hc];exact cmp_three _ _
 clear hc oq or_ od
 go_enter Tryz.func119,Tryz.ntmps119
 go_wp2_with fail
 refine (specAdd_any _ _ (limbs R) (limbs R) 0 _ 0 _ _ (by omega) (by omega) (Nat.le_refl _) (Nat.le_refl _) (limbs_digN R) (limbs_digN R) HOR.out.row HOR.out.row).mono ?_
 rintro e w1 ⟨v1,rfl,o1,b1⟩
 obtain ⟨A1,c1,rfl⟩:=own_len o1
 have HO1:=Lib.hid o1
 clear o1
 go_wp2_with fail
 refine (specCmp_any _ _ (addL (limbs R) (limbs R) 0) (limbs D) _ _ _ _ _ (by have:=HTW.out.1;omega) (by omega) ⟨HTW.out.2.1,HTW.out.2.2.1⟩ ⟨limbs_digN D,limbs_lastN D⟩ (Row.of_own HO1.out) (HOD.out.belowI b1).row).mono ?_
 rintro e w2 ⟨rfl,q,rfl⟩
 rw [HTW.out.2.2.2,limbs_val,HC.out]
 have bb:=below_drewN b1 q
 rcases h3 with rfl | rfl | rfl
 ·go_wp2
  go_ret
  exact ⟨ret_bool (HA.out.2.2.trans (by simp)).symm,bb⟩
 ·have he:decide (Q % 2 = 1) = !decide (Q % 2 = 0):=by rcases Nat.mod_two_eq_zero_or_one Q with h | h <;> rw [h] <;> rfl
  have HV:=Lib.hid (show awayB neg Q R D 6 = !decide (Q % 2 = 0) by rw [HA.out.2.2,he];rfl)
  clear he HA
  go_wp2_with fail
  refine (specNatEven_any _ (limbs Q) 0 _ _ (by omega) (HOQ.out.belowI (below_drewN b1 q)).row).mono ?_
  rintro e w3 ⟨rfl,rfl⟩
  rw [even_limbs hq]
  generalize decide (Q % 2 = 0) = b at *
  cases b
  ·go_wp2
   go_ret
   exact ⟨ret_bool HV.out.symm,bb⟩
  ·go_wp2
   go_ret
   exact ⟨ret_bool HV.out.symm,bb⟩
 ·go_wp2
  go_ret
  exact ⟨ret_bool (HA.out.2.2.trans (by simp)).symm,bb⟩
theorem l06Away_any (vq vr vd:Value) (neg:Bool) (Q R D:Nat) (w:World) (hq:(limbs Q).length ≤ 50) (hr:(limbs R).length ≤ 18) (hd:(limbs D).length ≤ 18) (oq:OwnI vq (limbs Q) w) (or_:OwnI vr (limbs R) w) (od:OwnI vd (limbs D) w) (m:Int) (hm:modeB m = true) :
 Calls Tryz.prog 119 #[.bool neg,vq,vr,vd,.int .i64 m] w (Postb (awayB neg Q R D m) w):=by
 rcases modeB_cases hm with rfl | rfl | rfl | rfl | rfl | rfl | rfl
 ·exact l06Away_0 vq vr vd neg Q R D w hq hr hd oq or_ od
 ·exact l06Away_1 vq vr vd neg Q R D w hq hr hd oq or_ od
 ·exact l06Away_2 vq vr vd neg Q R D w hq hr hd oq or_ od
 ·exact l06Away_3 vq vr vd neg Q R D w hq hr hd oq or_ od
 ·exact l06Away_4 vq vr vd neg Q R D w hq hr hd oq or_ od
 ·exact l06Away_5 vq vr vd neg Q R D w hq hr hd oq or_ od
 ·exact l06Away_6 vq vr vd neg Q R D w hq hr hd oq or_ od
set_option maxHeartbeats 2000000 in
theorem l06Round_any (vr:Value) (r:QI) (m:Int) (w:World) (ok:okQ r = true) (hm:modeB m = true) (hr:OwnQ vr r w) :
 Calls Tryz.prog 92 #[vr,.int .i64 m] w (NewV (fun u=>OwnS u (roundS r m)) w):=by
 have Hr:=Lib.hid hr
 obtain ⟨Ar,cr,Br,dr,rfl⟩:=ownQ_form hr
 have OQr:=Lib.hid (show ∀ W,Below w.heap.size w W→OwnQ (.agg #[.bool r.1.1,.slice Ar r.1.2.length cr,.slice Br r.2.length dr]) r W from fun W hb=>OwnQ.below Hr.out hb)
 have OUr:=Lib.hid (show ∀ W,Below w.heap.size w W→OwnI (.slice Ar r.1.2.length cr) r.1.2 W from fun W hb=>(ownQ_open (OQr.out W hb)).2.1)
 have ODr:=Lib.hid (show ∀ W,Below w.heap.size w W→OwnI (.slice Br r.2.length dr) r.2 W from fun W hb=>(ownQ_open (OQr.out W hb)).2.2.1)
 have OSr:=Lib.hid (show ∀ W,Below w.heap.size w W→OwnS (.agg #[.bool r.1.1,.slice Ar r.1.2.length cr]) r.1 W from fun W hb=>OwnS.mk (OUr.out W hb))
 clear hr
 have HP:=Lib.hid (parts_of ok)
 have HOK:=Lib.hid ok
 have HM:=Lib.hid hm
 clear ok hm
 have bb0:Below w.heap.size w ((w.alloc (.cells #[.bool r.1.1,.slice Ar r.1.2.length cr,.slice Br r.2.length dr] 36)).alloc (.cells #[.bool false,.slice none 0 0] 32)):=below_al (below_al (Below.refl _ _) _) _
 have kr:=(box_new w #[.bool r.1.1,.slice Ar r.1.2.length cr,.slice Br r.2.length dr] 36).below (below_al (Below.refl _ _) (.cells #[.bool false,.slice none 0 0] 32))
 have ko:=(box_new (w.alloc (.cells #[.bool r.1.1,.slice Ar r.1.2.length cr,.slice Br r.2.length dr] 36)) #[.bool false,.slice none 0 0] 32)
 rw [show (w.alloc (.cells #[.bool r.1.1,.slice Ar r.1.2.length cr,.slice Br r.2.length dr] 36)).heap.size = w.heap.size+1 by simp] at ko
 have HKO:=Lib.hid (ko.lt (w.heap.size+1) (by simp))
 obtain ⟨Q,hQ⟩:∃ Q,topN r / denQ r = Q:=⟨_,rfl⟩
 obtain ⟨R,hR⟩:∃ R,topN r % denQ r = R:=⟨_,rfl⟩
 have EQ:=Lib.hid hQ
 have ER:=Lib.hid hR
 have hql:(limbs Q).length ≤ 18:=by rw [← hQ];exact quot_len HOK.out
 have hrl:(limbs R).length ≤ 18:=by rw [← hR];exact rest_len HOK.out
 have hnl:=HP.out.n50
 have hdl:=HP.out.d50
 have hdv:∀ W,Below w.heap.size w W→Calls Tryz.prog 89 #[.slice Ar r.1.2.length cr,.slice Br r.2.length dr] W (TwoRows (limbs Q) (limbs R) W):=fun W hb=>by
  have h:=specDiv_any _ _ r.1.2 r.2 0 _ 0 _ W (by omega) (by omega) (okQ_parts HOK.out).2.2.1 (Nat.le_refl _) (Nat.le_refl _) (natOk_parts (okS_parts HP.out.okn).1).1 ⟨(natOk_parts HP.out.okd).1,(natOk_parts HP.out.okd).2.2⟩ (OUr.out _ hb).row (ODr.out _ hb).row
  rw [quot_of HOK.out,rest_of HOK.out,hQ,hR] at h
  exact h
 have HDV:=Lib.hid hdv
 clear hdv hQ hR
 go_enter Tryz.func92,Tryz.ntmps92
 have kr_c0:=kr.here.cell 0 _ rfl
 have kr_c1:=kr.here.cell 1 _ rfl
 have kr_c2:=kr.here.cell 2 _ rfl
 go_wp2_with fail
 clear kr_c0 kr_c1 kr_c2
 refine (HDV.out _ bb0).mono ?_
 rintro e w1 ⟨vq,vr_,rfl,oq0,or0,hqr,b1⟩
 obtain ⟨Aq,cq,rfl⟩:=own_len oq0
 obtain ⟨As,cs,rfl⟩:=own_len or0
 have oq:=own_at' oq0
 have os:=own_at' or0
 clear oq0 or0 hqr
 have bb1:=Below.next bb0 b1
 replace kr:=kr.below b1
 replace ko:=ko.below b1
 by_cases h0:R = 0
 ·have HV:=Lib.hid (show mkS r.1.1 (trimL (limbs Q)) = roundS r m by rw [trimL_limbs,← EQ.out];exact round_plain (.inl (ER.out.trans h0)))
  subst h0
  rw [show (limbs 0).length = 0 by rw [limbs_zero];rfl] at *
  clear os
  have kr_c0:=kr.here.cell 0 _ rfl
  have kr_c1:=kr.here.cell 1 _ rfl
  have kr_c2:=kr.here.cell 2 _ rfl
  go_wp2_with fail
  clear kr_c0 kr_c1 kr_c2
  refine ((l04Make_any _ _ (limbs Q) _ _ (by omega) (At.here oq)).mono fun _ _ h=>roundVS_eq HV.out (NewS.newV h)).mono ?_
  rintro e w2 ⟨uf,Sf,rfl,of,lf,b2⟩
  obtain ⟨Af,cf,rfl⟩:=ownS_form of.here
  have bb2:=Below.next bb1 b2
  replace kr:=kr.below b2
  replace ko:=ko.below b2
  replace oq:=oq.below b2
  have HW:=Lib.hid (newS_at (r:=w.heap.size+1) of lf (by have:=HKO.out;have:=b1.size;omega) (by omega) bb2)
  have cz0:=ko.here.cell 0 _ rfl
  have fz0:=Lib.frozen_of_heap ko.here 0
  have cz1:=ko.here.cell 1 _ rfl
  have fz1:=Lib.frozen_of_heap ko.here 1
  clear of ko
  go_wp2
  refine bodyPost_ret (v:=.agg #[.bool _,.slice Af _ cf]) (by simp [results,Tryz.results92,go_sem,cz0,cz1];exact ⟨rfl,rfl⟩) rfl ?_
  exact HW.out
 ·have hlen:((limbs R).length:Int) > 0:=by have:=mt (limbs_zero_iff R).1 h0;omega
  have H0:=Lib.hid h0
  clear h0
  have kr_c0:=kr.here.cell 0 _ rfl
  have kr_c1:=kr.here.cell 1 _ rfl
  have kr_c2:=kr.here.cell 2 _ rfl
  go_wp2_with fail
  clear kr_c0 kr_c1 kr_c2
  refine (l06Away_any _ _ _ r.1.1 Q R (denQ r) _ (by omega) hrl (by have:=HP.out.d50;have e:=HP.out.d;rw [← e];exact (okQ_parts HOK.out).2.2.2.1) oq.here os.here (ownI_eq (ODr.out _ bb1) HP.out.d) m HM.out).mono ?_
  rintro e w2 ⟨rfl,b2⟩
  have bb2:=Below.next bb1 b2
  replace kr:=kr.below b2
  replace ko:=ko.below b2
  replace oq:=oq.below b2
  replace os:=os.below b2
  by_cases ha:awayB r.1.1 Q R (denQ r) m = true
  ·have HV:=Lib.hid (show mkS r.1.1 (trimL (addL (limbs Q) [1] 0)) = roundS r m by rw [one_more,← EQ.out];exact round_more (by rw [ER.out];exact H0.out) (by rw [EQ.out,ER.out];exact ha))
   rw [ha]
   clear ha
   have o1:=World.ownsRow_lit (base:=w2.heap.size) (e:=3) (size:=1) w2 #[.int .i64 1] 1 (Nat.le_refl _) (by unfold maxLen;omega) rfl
   have HO1:=Lib.hid o1
   clear o1
   have kt:=box_new (w2) #[.int .i64 1] 3
   have alt:=below_al (Below.refl (w2).heap.size (w2)) (.cells #[.int .i64 1] 3)
   have bbt:=Below.next bb2 alt
   replace kr:=kr.below alt
   replace ko:=ko.below alt
   replace oq:=oq.below alt
   replace os:=os.below alt
   go_wp2_with fail
   refine (specAdd_any _ _ (limbs Q) [1] 0 _ _ _ _ (by omega) (by decide) (Nat.le_refl _) (Nat.le_refl _) (limbs_digN Q) (by rw [← one_limbs];exact limbs_digN 1) oq.here.row (Row.of_own HO1.out)).mono ?_
   rintro e w3 ⟨vs,rfl,osum0,b3⟩
   obtain ⟨Az,cz,rfl⟩:=own_len osum0
   have osum:=own_at' osum0
   clear osum0
   have bb3:=Below.next bbt b3
   replace kr:=kr.below b3
   replace ko:=ko.below b3
   replace oq:=oq.below b3
   replace os:=os.below b3
   replace kt:=kt.below b3
   have hsl:(addL (limbs Q) [1] 0).length ≤ 1048576:=by have:=(addL_val (limbs Q) [1] 0 (limbs_digN Q) (by rw [← one_limbs];exact limbs_digN 1) (by omega) (by omega)).2.2;simp only [List.length_cons,List.length_nil] at this;omega
   clear oq os kt
   have kr_c0:=kr.here.cell 0 _ rfl
   have kr_c1:=kr.here.cell 1 _ rfl
   have kr_c2:=kr.here.cell 2 _ rfl
   go_wp2_with fail
   clear kr_c0 kr_c1 kr_c2
   refine ((l04Make_any _ _ (addL (limbs Q) [1] 0) _ _ (hsl) (At.here osum)).mono fun _ _ h=>roundVS_eq HV.out (NewS.newV h)).mono ?_
   rintro e w4 ⟨uf,Sf,rfl,of,lf,b4⟩
   obtain ⟨Af,cf,rfl⟩:=ownS_form of.here
   have bb4:=Below.next bb3 b4
   replace kr:=kr.below b4
   replace ko:=ko.below b4
   replace osum:=osum.below b4
   have HW:=Lib.hid (newS_at (r:=w.heap.size+1) of lf (by have:=HKO.out;have:=b1.size;have:=b2.size;have:=b3.size;have:=alt.size;omega) (by omega) bb4)
   have cz0:=ko.here.cell 0 _ rfl
   have fz0:=Lib.frozen_of_heap ko.here 0
   have cz1:=ko.here.cell 1 _ rfl
   have fz1:=Lib.frozen_of_heap ko.here 1
   clear of ko
   go_wp2
   refine bodyPost_ret (v:=.agg #[.bool _,.slice Af _ cf]) (by simp [results,Tryz.results92,go_sem,cz0,cz1];exact ⟨rfl,rfl⟩) rfl ?_
   exact HW.out
  ·have ha':awayB r.1.1 Q R (denQ r) m = false:=by simpa using ha
   have HV:=Lib.hid (show mkS r.1.1 (trimL (limbs Q)) = roundS r m by rw [trimL_limbs,← EQ.out];exact round_plain (.inr (by rw [EQ.out,ER.out];exact ha')))
   rw [ha']
   clear ha ha' os
   have kr_c0:=kr.here.cell 0 _ rfl
   have kr_c1:=kr.here.cell 1 _ rfl
   have kr_c2:=kr.here.cell 2 _ rfl
   go_wp2_with fail
   clear kr_c0 kr_c1 kr_c2
   refine ((l04Make_any _ _ (limbs Q) _ _ (by omega) (At.here oq)).mono fun _ _ h=>roundVS_eq HV.out (NewS.newV h)).mono ?_
   rintro e w3 ⟨uf,Sf,rfl,of,lf,b3⟩
   obtain ⟨Af,cf,rfl⟩:=ownS_form of.here
   have bb3:=Below.next bb2 b3
   replace kr:=kr.below b3
   replace ko:=ko.below b3
   replace oq:=oq.below b3
   have HW:=Lib.hid (newS_at (r:=w.heap.size+1) of lf (by have:=HKO.out;have:=b1.size;have:=b2.size;omega) (by omega) bb3)
   have cz0:=ko.here.cell 0 _ rfl
   have fz0:=Lib.frozen_of_heap ko.here 0
   have cz1:=ko.here.cell 1 _ rfl
   have fz1:=Lib.frozen_of_heap ko.here 1
   clear of ko
   go_wp2
   refine bodyPost_ret (v:=.agg #[.bool _,.slice Af _ cf]) (by simp [results,Tryz.results92,go_sem,cz0,cz1];exact ⟨rfl,rfl⟩) rfl ?_
   exact HW.out
set_option maxHeartbeats 2000000 in
theorem specRatRound_any (vr:Value) (r:QI) (m:Int) (w:World) (hz:szQ r ≤ 1048576) (hr:OwnQ vr r w) :
 Calls Tryz.prog 67 #[vr,.int .i64 m] w (PostSb (roundR r m).1 (roundR r m).2 w):=by
 have Hr:=Lib.hid hr
 obtain ⟨Ar,cr,Br,dr,rfl⟩:=ownQ_form hr
 have OQr:=Lib.hid (show ∀ W,Below w.heap.size w W→OwnQ (.agg #[.bool r.1.1,.slice Ar r.1.2.length cr,.slice Br r.2.length dr]) r W from fun W hb=>OwnQ.below Hr.out hb)
 have OUr:=Lib.hid (show ∀ W,Below w.heap.size w W→OwnI (.slice Ar r.1.2.length cr) r.1.2 W from fun W hb=>(ownQ_open (OQr.out W hb)).2.1)
 have ODr:=Lib.hid (show ∀ W,Below w.heap.size w W→OwnI (.slice Br r.2.length dr) r.2 W from fun W hb=>(ownQ_open (OQr.out W hb)).2.2.1)
 have OSr:=Lib.hid (show ∀ W,Below w.heap.size w W→OwnS (.agg #[.bool r.1.1,.slice Ar r.1.2.length cr]) r.1 W from fun W hb=>OwnS.mk (OUr.out W hb))
 clear hr
 have bb0:Below w.heap.size w ((w.alloc (.cells #[.bool r.1.1,.slice Ar r.1.2.length cr,.slice Br r.2.length dr] 36)).alloc (.cells #[.bool false,.slice none 0 0] 32)):=below_al (below_al (Below.refl _ _) _) _
 have kr:=(box_new w #[.bool r.1.1,.slice Ar r.1.2.length cr,.slice Br r.2.length dr] 36).below (below_al (Below.refl _ _) (.cells #[.bool false,.slice none 0 0] 32))
 have ko:=(box_new (w.alloc (.cells #[.bool r.1.1,.slice Ar r.1.2.length cr,.slice Br r.2.length dr] 36)) #[.bool false,.slice none 0 0] 32)
 rw [show (w.alloc (.cells #[.bool r.1.1,.slice Ar r.1.2.length cr,.slice Br r.2.length dr] 36)).heap.size = w.heap.size+1 by simp] at ko
 have HKO:=Lib.hid (ko.lt (w.heap.size+1) (by simp))
 go_enter Tryz.func67,Tryz.ntmps67
 have kr_c0:=kr.here.cell 0 _ rfl
 have kr_c1:=kr.here.cell 1 _ rfl
 have kr_c2:=kr.here.cell 2 _ rfl
 go_wp2_with fail
 clear kr_c0 kr_c1 kr_c2
 refine (specRatOk_any _ r _ hz (OQr.out _ bb0)).mono ?_
 rintro e w1 ⟨rfl,b1⟩
 have bb1:=Below.next bb0 b1
 replace kr:=kr.below b1
 replace ko:=ko.below b1
 by_cases ok:okQ r = true
 ·rw [ok]
  have HO:=Lib.hid ok
  clear ok
  go_wp2_with fail
  refine (l06Mode_any m _).mono ?_
  rintro e w2 ⟨rfl,b2⟩
  have bb2:=Below.next bb1 b2
  replace kr:=kr.below b2
  replace ko:=ko.below b2
  by_cases hm:modeB m = true
  ·rw [hm]
   have HM:=Lib.hid hm
   have HV:=Lib.hid (show roundR r m = (roundS r m,true) by unfold roundR;rw [if_pos ⟨HO.out,hm⟩])
   clear hm
   have kr_c0:=kr.here.cell 0 _ rfl
   have kr_c1:=kr.here.cell 1 _ rfl
   have kr_c2:=kr.here.cell 2 _ rfl
   go_wp2_with fail
   clear kr_c0 kr_c1 kr_c2
   refine (l06Round_any _ r m _ HO.out HM.out (OQr.out _ bb2)).mono ?_
   rintro e w3 ⟨uf,Sf,rfl,of,lf,b3⟩
   obtain ⟨Af,cf,rfl⟩:=ownS_form of.here
   have bb3:=Below.next bb2 b3
   replace kr:=kr.below b3
   replace ko:=ko.below b3
   have HW:=Lib.hid (newSb_at (b:=true) (r:=w.heap.size+1) of lf (by have:=HKO.out;have:=b1.size;have:=b2.size;omega) (by omega) bb3)
   have cz0:=ko.here.cell 0 _ rfl
   have fz0:=Lib.frozen_of_heap ko.here 0
   have cz1:=ko.here.cell 1 _ rfl
   have fz1:=Lib.frozen_of_heap ko.here 1
   clear of ko
   go_wp2
   refine bodyPost_ret (v:=.tuple #[.agg #[.bool _,.slice Af _ cf],.bool _]) (by simp [results,Tryz.results67,go_sem,cz0,cz1];exact ⟨⟨rfl,rfl⟩,rfl⟩) rfl ?_
   rw [HV.out]
   exact HW.out
  ·have hm':modeB m = false:=by simpa using hm
   have HV:=Lib.hid (show roundR r m = (zeroS,false) by unfold roundR;rw [if_neg (fun h=>hm h.2)])
   rw [hm']
   clear hm hm'
   have cz0:=ko.here.cell 0 _ rfl
   have fz0:=Lib.frozen_of_heap ko.here 0
   have cz1:=ko.here.cell 1 _ rfl
   have fz1:=Lib.frozen_of_heap ko.here 1
   go_wp2
   refine bodyPost_ret (v:=.tuple #[.agg #[.bool false,.slice none 0 0],.bool false]) (by simp [results,Tryz.results67,go_sem,cz0,cz1]) rfl ?_
   rw [HV.out]
   first | exact newSb_zero _ bb2 | exact newSb_zero _ (below_set2 bb2 (by omega))
 ·have ok':okQ r = false:=by simpa using ok
  have HV:=Lib.hid (show roundR r m = (zeroS,false) by unfold roundR;rw [if_neg (fun h=>ok h.1)])
  rw [ok']
  clear ok ok'
  have cz0:=ko.here.cell 0 _ rfl
  have fz0:=Lib.frozen_of_heap ko.here 0
  have cz1:=ko.here.cell 1 _ rfl
  have fz1:=Lib.frozen_of_heap ko.here 1
  go_wp2
  refine bodyPost_ret (v:=.tuple #[.agg #[.bool false,.slice none 0 0],.bool false]) (by simp [results,Tryz.results67,go_sem,cz0,cz1]) rfl ?_
  rw [HV.out]
  first | exact newSb_zero _ bb1 | exact newSb_zero _ (below_set2 bb1 (by omega))
set_option maxHeartbeats 4000000 in
theorem specDecRat_any (va:Value) (a:DI) (w:World) (hla:a.1.2.length ≤ 1048576) (ha:OwnD va a w) :
 Calls Tryz.prog 113 #[va] w (NewV (fun u=>OwnQ u (ratD a)) w):=by
 have Ha:=Lib.hid ha
 obtain ⟨Aa,ca,rfl⟩:=ownD_form ha
 have ODa:=Lib.hid (show ∀ W,Below w.heap.size w W→OwnD (.agg #[.bool a.1.1,.slice Aa a.1.2.length ca,.int .i64 a.2]) a W from fun W hb=>OwnD.below Ha.out hb)
 have OIa:=Lib.hid (show ∀ W,Below w.heap.size w W→OwnI (.slice Aa a.1.2.length ca) a.1.2 W from fun W hb=>ownD_open (ODa.out W hb))
 have OSa:=Lib.hid (show ∀ W,Below w.heap.size w W→OwnS (.agg #[.bool a.1.1,.slice Aa a.1.2.length ca]) a.1 W from fun W hb=>OwnS.mk (OIa.out W hb))
 clear ha
 have bb0:Below w.heap.size w ((w.alloc (.cells #[.bool a.1.1,.slice Aa a.1.2.length ca,.int .i64 a.2] 87)).alloc (.cells #[.bool false,.slice none 0 0,.slice none 0 0] 36)):=below_al (below_al (Below.refl _ _) _) _
 have ka:=(box_new w #[.bool a.1.1,.slice Aa a.1.2.length ca,.int .i64 a.2] 87).below (below_al (Below.refl _ _) (.cells #[.bool false,.slice none 0 0,.slice none 0 0] 36))
 have ko:=(box_new (w.alloc (.cells #[.bool a.1.1,.slice Aa a.1.2.length ca,.int .i64 a.2] 87)) #[.bool false,.slice none 0 0,.slice none 0 0] 36)
 rw [show (w.alloc (.cells #[.bool a.1.1,.slice Aa a.1.2.length ca,.int .i64 a.2] 87)).heap.size = w.heap.size+1 by simp] at ko
 have HKO:=Lib.hid (ko.lt (w.heap.size+1) (by simp))
 obtain ⟨Q,hQ⟩:∃ Q,ratD a = Q:=⟨_,rfl⟩
 have EQ0:=Lib.hid hQ
 rw [hQ]
 clear hQ
 go_enter Tryz.func113,Tryz.ntmps113
 have ka_c0:=ka.here.cell 0 _ rfl
 have ka_c1:=ka.here.cell 1 _ rfl
 have ka_c2:=ka.here.cell 2 _ rfl
 go_wp2_with fail
 clear ka_c0 ka_c1 ka_c2
 refine (specDecOk_any _ a _ hla (ODa.out _ bb0)).mono ?_
 rintro e w1 ⟨rfl,b1⟩
 have bb1:=Below.next bb0 b1
 replace ka:=ka.below b1
 replace ko:=ko.below b1
 by_cases ok:okD a = true
 ·rw [ok]
  have HT:=Lib.hid (ten_bd ok)
  have hl6:=(partsD ok).len
  have hzA:szS a.1 ≤ 1048576:=by unfold szS szI;omega
  have hzT:=szS_ten a.2
  have EQ:=Lib.hid (show makeQ a.1 (tenS a.2) = (Q,true) by rw [← EQ0.out];exact HT.out.1)
  clear ok hl6
  have ka_c0:=ka.here.cell 0 _ rfl
  have ka_c1:=ka.here.cell 1 _ rfl
  have ka_c2:=ka.here.cell 2 _ rfl
  go_upto_region 3 with fail
  go_cut [3,4] (fun s1 s2 wx=>NewLocV 36 (fun v=>OwnQ v Q) w1 s1 wx∧s2 = .bool true)
  case first =>
   have HC0:=Lib.hid (show Chg [] w1 w1.drew from (Chg.refl _ _).drew1)
   have HCr:=Lib.hid (show Chg [] w1 w1 from Chg.refl _ _)
   have KL:=Lib.hid (show ∀ W,Chg [] w1 W→W.cell? ⟨w.heap.size,0,none⟩ = some (.bool a.1.1)∧W.cell? ⟨w.heap.size,1,none⟩ = some (.slice Aa a.1.2.length ca)∧W.cell? ⟨w.heap.size,2,none⟩ = some (.int .i64 a.2)∧Hid (Chg [] w1 W) from fun W hc=>⟨(ka.chg hc (fun i hi hm=>by simp at hm)).here.cell 0 _ rfl,(ka.chg hc (fun i hi hm=>by simp at hm)).here.cell 1 _ rfl,(ka.chg hc (fun i hi hm=>by simp at hm)).here.cell 2 _ rfl,Lib.hid hc⟩)
   have BBF:=Lib.hid (show ∀ W,Chg [] w1 W→Below w.heap.size w W from fun W hc=>below_chg bb1 hc bb1.size (fun i hi=>by simp at hi))
   clear ka_c0 ka_c1 ka_c2
   go_region_held3 (fun W=>W.cell? ⟨w.heap.size,0,none⟩ = some (.bool a.1.1)∧W.cell? ⟨w.heap.size,1,none⟩ = some (.slice Aa a.1.2.length ca)∧W.cell? ⟨w.heap.size,2,none⟩ = some (.int .i64 a.2)∧Hid (Chg [] w1 W))
    ((refine KL.out _ ?_;(first | exact HC3.out | exact HC2.out | exact HCr.out | exact HC0.out | exact HC3.out.drew1 | exact HC2.out.drew1 | exact HCr.out.drew1 | exact HC0.out.drew1 | exact HC3.out.trans (Chg.of_below (below_al (Below.refl _ _) _)) | exact HC2.out.trans (Chg.of_below (below_al (Below.refl _ _) _)) | exact HCr.out.trans (Chg.of_below (below_al (Below.refl _ _) _)) | exact HC0.out.trans (Chg.of_below (below_al (Below.refl _ _) _)) | exact (Chg.setNew HC3.out (by first | exact HC3.out.size | exact HC2.out.size | exact HCr.out.size | exact HC0.out.size) _) | exact (Chg.setNew (Chg.setNew HC3.out (by first | exact HC3.out.size | exact HC2.out.size | exact HCr.out.size | exact HC0.out.size) _) (by first | exact HC3.out.size | exact HC2.out.size | exact HCr.out.size | exact HC0.out.size) _) | exact (Chg.setNew (Chg.setNew (Chg.setNew HC3.out (by first | exact HC3.out.size | exact HC2.out.size | exact HCr.out.size | exact HC0.out.size) _) (by first | exact HC3.out.size | exact HC2.out.size | exact HCr.out.size | exact HC0.out.size) _) (by first | exact HC3.out.size | exact HC2.out.size | exact HCr.out.size | exact HC0.out.size) _) | fail)))
    (first
      | (go_at_call 83;(have hBB:=(‹_∧_∧_∧Hid (Chg [] w1 _)›).2.2.2);(with_reducible refine (l07Ten_any a.2 _).mono ?_);rintro e w2 ⟨ut,St,rfl,ot,lt,b2⟩;have HC2:=Lib.hid (hBB.out.trans (Chg.of_below b2));obtain ⟨At_,ct,rfl⟩:=ownS_form ot.here;(first | (have early2:At [w1.heap.size] (BoxAt w1.heap.size #[.bool false,.slice none 0 0,.slice none 0 0] 36) w2:=At.below (box_new w1.drew _ _) b2) | (have early2:=At.below (box_new _ #[.bool false,.slice none 0 0,.slice none 0 0] 36) b2) | (have early2:=At.below early1 b2) | skip);have HBZ2:=Lib.hid hBB.out.size;clear hBB)
      | (go_at_call 91;(have hBB:=(‹_∧_∧_∧Hid (Chg [] w1 _)›).2.2.2);(with_reducible refine ((specRatMake_any _ _ a.1 (tenS a.2) _ hzA hzT (OSa.out _ (BBF.out _ hBB.out)) (At.here (by first | exact ot | exact At.below ot (below_al (Below.refl _ _) _) | exact At.below (At.below ot (below_al (Below.refl _ _) _)) (below_al (Below.refl _ _) _) | exact At.move ot (fun _ _=>rfl) (Nat.le_refl _)))).mono fun _ _ h=>postQb_isD EQ.out h).mono ?_);rintro e w3 ⟨uf,Sf,rfl,of,lf,b3⟩;have HC3:=Lib.hid (hBB.out.trans (Chg.of_below b3));(have ot_3:=At.below (by first | exact ot | exact At.below ot (below_al (Below.refl _ _) _) | exact At.below (At.below ot (below_al (Below.refl _ _) _)) (below_al (Below.refl _ _) _) | exact At.move ot (fun _ _=>rfl) (Nat.le_refl _)) b3);obtain ⟨Af,cf,Bf,df,rfl⟩:=ownQ_form of.here;(first | have hbxg:=At.below_lt (box_new _ #[.bool false,.slice none 0 0,.slice none 0 0] 36) b3 | have hbxg:=At.below_lt early2 b3 | skip);(try (have hbxf:=hbxg.1;have HGB:=Lib.hid hbxg.2;clear hbxg));(try (have cz0:=hbxf.here.cell 0 _ rfl;have fz0:=Lib.frozen_of_heap hbxf.here 0;have cz1:=hbxf.here.cell 1 _ rfl;have fz1:=Lib.frozen_of_heap hbxf.here 1;have cz2:=hbxf.here.cell 2 _ rfl;have fz2:=Lib.frozen_of_heap hbxf.here 2));have HBZ3:=Lib.hid hBB.out.size;clear hBB))
   all_goals (go_wp2_with fail;go_meet;first | exact ⟨newLocV_last of lf HBZ3.out (below_of_chg HC3.out),rfl⟩ | exact ⟨newLocV_early3 hbxf.here of lf (by first | exact HC2.out.size | exact HCr.out.size | exact HC0.out.size) HGB.out (below_of_chg HC3.out),rfl⟩)
  rename World=>w2
  clear ka_c0 ka_c1 ka_c2
  obtain ⟨⟨gy,csy,Sy,rfl,ky,oy,ny,ly,b2⟩,rfl⟩:=hcut
  obtain ⟨Ay,cy,By,dy,ey⟩:=ownQ_form oy.here
  injection ey with ey
  subst ey
  have bb2:=Below.next bb1 b2
  replace ka:=ka.below b2
  replace ko:=ko.below b2
  have HW:=Lib.hid (newV_chg (φ:=fun v=>OwnQ v Q) (T:=[w.heap.size+1]) oy (fun i hi hm=>by have:=ly i (List.mem_cons_of_mem _ hi);have:=HKO.out;have:=b1.size;simp at hm;omega) (fun i hi=>by simp at hi;omega) (fun i hi=>by have:=ly i (List.mem_cons_of_mem _ hi);have:=HKO.out;have:=b1.size;omega) bb2)
  have ky_c0:=ky.here.cell 0 _ rfl
  have ky_c1:=ky.here.cell 1 _ rfl
  have ky_c2:=ky.here.cell 2 _ rfl
  have cz0:=ko.here.cell 0 _ rfl
  have fz0:=Lib.frozen_of_heap ko.here 0
  have cz1:=ko.here.cell 1 _ rfl
  have fz1:=Lib.frozen_of_heap ko.here 1
  have cz2:=ko.here.cell 2 _ rfl
  have fz2:=Lib.frozen_of_heap ko.here 2
  clear oy ky ko ka
  go_wp2
  refine bodyPost_ret (v:=.agg #[.bool _,.slice Ay _ cy,.slice By _ dy]) (by simp [results,Tryz.results113,go_sem,cz0,cz1,cz2];exact ⟨rfl,rfl,rfl⟩) rfl ?_
  refine HW.out _ ?_
  repeat (first | exact Chg.refl _ _ | refine Chg.setCell ?_ (by simp) _)
 ·have ok':okD a = false:=by simpa using ok
  have HV:=Lib.hid (show Q = zeroQ from EQ0.out.symm.trans (rat_bad ok))
  rw [ok']
  clear ok ok' ka
  have cz0:=ko.here.cell 0 _ rfl
  have fz0:=Lib.frozen_of_heap ko.here 0
  have cz1:=ko.here.cell 1 _ rfl
  have fz1:=Lib.frozen_of_heap ko.here 1
  have cz2:=ko.here.cell 2 _ rfl
  have fz2:=Lib.frozen_of_heap ko.here 2
  go_wp2
  refine bodyPost_ret (v:=.agg #[.bool false,.slice none 0 0,.slice none 0 0]) (by simp [results,Tryz.results113,go_sem,cz0,cz1,cz2]) rfl ?_
  rw [HV.out]
  first | exact newQ_zeroD bb1 | exact newQ_zeroD (below_set3 bb1 (by omega))
theorem postn_isE {a b:Int} (h:a = b) {w w':World} {e:Ending} (k:Postn a w e w'):Postn b w e w':=h ▸ k
theorem step_hit {l:List EI} {a b:ByteArray} {n:Nat} {x:EI} (h0:0 ≤ posE l a b) (h2:l[n]? = some x) (h3:atE l a b = n):stepT l a b = ratD x.2.2:=by
 unfold stepT
 rw [if_pos h0,h3,h2]
theorem step_inv {l:List EI} {a b:ByteArray} {n:Nat} {x:EI} (hn:¬ 0 ≤ posE l a b) (h2:l[n]? = some x) (h3:atE l b a = n):stepT l a b = (divQ unitQ.1 (ratD x.2.2)).1:=by
 unfold stepT
 rw [if_neg hn,h3,h2]
theorem leg_inv {l:List EI} {a b:ByteArray} (hn:¬ 0 ≤ posE l a b) (h:¬ legT l a b = 0):0 ≤ posE l b a:=by
 unfold legT at h
 rw [if_neg hn] at h
 split at h
 ·assumption
 ·exact absurd rfl h
theorem unitQ_szS:szQ unitQ.1 ≤ 1048576:=by unfold unitQ makeQ;split;exact lowQ_sz _ _ _;decide
theorem newVQ_chgS {R0:QI} {S T:List Nat} {v:Value} {w W:World} (o:At S (OwnQ v R0) W) (hd:∀ i ∈ S,i ∉ T) (hT:∀ i ∈ T,w.heap.size ≤ i) (l:∀ i ∈ S,w.heap.size ≤ i) (hW:Below w.heap.size w W) :
 ∀ W',Chg T W W'→NewV (fun u=>OwnQ u R0) w (.returned v) W' :=
 fun _ hc=>⟨v,S,rfl,o.chg hc hd,fun i hi=>⟨l i hi,Nat.lt_of_lt_of_le (o.lt i hi) hc.size⟩,below_chg hW hc hW.size hT⟩
set_option maxHeartbeats 8000000 in
theorem l10Step_any (v:Value) (t:TI) (p q:ByteArray) (w:World) (hl:t.2.length ≤ 1099511627776) (hx:∀ x ∈ t.2,x.2.2.1.2.length ≤ 1048576) (hg:¬ legT t.2 p q = 0) (h:OwnTR w v t) :
 Calls Tryz.prog 82 #[v,.string p,.string q] w (NewV (fun u=>OwnQ u (stepT t.2 p q)) w):=by
 obtain ⟨A,c,rfl,hr⟩:=ownTR_form h
 have HR:=Lib.hid (show ∀ W,Below w.heap.size w W→OwnER W (.slice A t.2.length c) t.2 from fun W h=>hr.below h)
 have HTR:=Lib.hid (show ∀ W,Below w.heap.size w W→OwnTR W (.agg #[.string t.1,.slice A t.2.length c]) t from fun W h=>⟨_,rfl,hr.below h⟩)
 clear h hr
 obtain ⟨A',c',e',hc⟩:=HR.out w (Below.refl _ _)
 injection e' with e1 e2 e3
 subst e1
 clear e2 e3 c'
 have HC:=Lib.hid hc
 clear hc
 have bb0:Below w.heap.size w ((w.alloc (.cells #[.string t.1,.slice A t.2.length c] 41)).alloc (.cells #[.bool false,.slice none 0 0,.slice none 0 0] 36)):=below_al (below_al (Below.refl _ _) _) _
 have kt:=(box_new w #[.string t.1,.slice A t.2.length c] 41).below (below_al (Below.refl _ _) (.cells #[.bool false,.slice none 0 0,.slice none 0 0] 36))
 have ko:=(box_new (w.alloc (.cells #[.string t.1,.slice A t.2.length c] 41)) #[.bool false,.slice none 0 0,.slice none 0 0] 36)
 rw [show (w.alloc (.cells #[.string t.1,.slice A t.2.length c] 41)).heap.size = w.heap.size+1 by simp] at ko
 obtain ⟨R,hR⟩:∃ R,stepT t.2 p q = R:=⟨_,rfl⟩
 have EQ:=Lib.hid hR
 rw [hR]
 clear hR
 go_enter Tryz.func82,Tryz.ntmps82
 have kt_c0:=kt.here.cell 0 _ rfl
 have kt_c1:=kt.here.cell 1 _ rfl
 go_wp2_with fail
 clear kt_c0 kt_c1
 refine (l10At_any _ t.2 p q _ (by omega) (HR.out _ bb0)).mono ?_
 rintro e w1 ⟨rfl,b1⟩
 have hz1:w.heap.size+1+1 ≤ w1.heap.size:=by have:=b1.size;simp at this;omega
 have bb1:=Below.next bb0 b1
 replace kt:=kt.below b1
 replace ko:=ko.below b1
 by_cases h0:0 ≤ posE t.2 p q
 ·obtain ⟨n,x,hpn,hxn,han⟩:=posE_at h0
  have HV:=Lib.hid (EQ.out.symm.trans (step_hit h0 hxn han))
  rw [hpn]
  clear h0 hpn han EQ hg
  obtain ⟨a,ux,rfl,ha,hc0,hc1,hc2,hc3,hc4,hox⟩:=HC.out n x hxn
  obtain ⟨A1,c1,rfl⟩:=own_len hox
  have HOX:=Lib.hid hox
  have hxl:=hx x (List.mem_of_getElem? hxn)
  have HCC:=Lib.hid (show ∀ W,Below w.heap.size w W→W.cell? ⟨(a.add (n * 5)).block,(a.add (n * 5)).off+2,none⟩ = some (.bool x.2.2.1.1)∧W.cell? ⟨(a.add (n * 5)).block,(a.add (n * 5)).off+3,none⟩ = some (.slice A1 x.2.2.1.2.length c1)∧W.cell? ⟨(a.add (n * 5)).block,(a.add (n * 5)).off+4,none⟩ = some (.int .i64 x.2.2.2) from fun W hW=>⟨(cell_keep5 hW ha n 2).trans hc2,(cell_keep5 hW ha n 3).trans hc3,(cell_keep5 hW ha n 4).trans hc4⟩)
  have HOD:=Lib.hid (show ∀ W,Below w.heap.size w W→OwnD (.agg #[.bool x.2.2.1.1,.slice A1 x.2.2.1.2.length c1,.int .i64 x.2.2.2]) x.2.2 W from fun W hW=>OwnD.mk (own_below HOX.out hW))
  have hn0:(0:Int) ≤ (n:Int):=by omega
  have hnl:=(List.getElem?_eq_some_iff.1 hxn).1
  have hn1:(n:Int) < (t.2.length:Int):=by omega
  clear hc0 hc1 hc2 hc3 hc4 hox ha hxn hx
  have hd0:decide ((0:Int) ≤ (n:Int)) = true:=decide_eq_true hn0
  obtain ⟨k2,k3,k4⟩:=HCC.out _ bb1
  have kt_c0:=kt.here.cell 0 _ rfl
  have kt_c1:=kt.here.cell 1 _ rfl
  go_wp2_with fail
  clear kt_c0 kt_c1
  refine (specDecRat_any _ x.2.2 _ hxl (HOD.out _ bb1)).mono ?_
  rintro e w2 ⟨uq,Sq,rfl,oq,lq,b2⟩
  obtain ⟨Aq,cq,Bq,dq,rfl⟩:=ownQ_form oq.here
  have bb2:=Below.next bb1 b2
  replace kt:=kt.below b2
  replace ko:=ko.below b2
  have HW:=Lib.hid (newVQ_chgS (R0:=ratD x.2.2) (v:=.agg #[.bool (ratD x.2.2).1.1,.slice Aq (ratD x.2.2).1.2.length cq,.slice Bq (ratD x.2.2).2.length dq]) (T:=[w.heap.size+1]) oq (fun i hi hm=>by have:=(lq i hi).1;simp at hm;omega) (fun i hi=>by simp at hi;omega) (fun i hi=>by have:=(lq i hi).1;omega) bb2)
  have cz0:=ko.here.cell 0 _ rfl
  have fz0:=Lib.frozen_of_heap ko.here 0
  have cz1:=ko.here.cell 1 _ rfl
  have fz1:=Lib.frozen_of_heap ko.here 1
  have cz2:=ko.here.cell 2 _ rfl
  have fz2:=Lib.frozen_of_heap ko.here 2
  clear ko oq lq k2 k3 k4 kt
  go_wp2
  refine bodyPost_ret (v:=.agg #[.bool (ratD x.2.2).1.1,.slice Aq (ratD x.2.2).1.2.length cq,.slice Bq (ratD x.2.2).2.length dq]) (by simp [results,Tryz.results82,go_sem,cz0,cz1,cz2]) rfl ?_
  rw [HV.out]
  refine HW.out _ ?_
  repeat (first | with_reducible exact Chg.refl _ _ | with_reducible refine Chg.setCell ?_ (by simp) _ | with_reducible refine Chg.trans ?_ (Chg.of_below (below_al (Below.refl _ _) _)))
 ·have hd0:decide (0 ≤ posE t.2 p q) = false:=decide_eq_false h0
  obtain ⟨n,x,hpn,hxn,han⟩:=posE_at (leg_inv h0 hg)
  have HV:=Lib.hid (EQ.out.symm.trans (step_inv h0 hxn han))
  have HPN:=Lib.hid hpn
  clear hpn han EQ hg h0
  generalize posE t.2 p q = z at *
  obtain ⟨a,ux,rfl,ha,hc0,hc1,hc2,hc3,hc4,hox⟩:=HC.out n x hxn
  obtain ⟨A1,c1,rfl⟩:=own_len hox
  have HOX:=Lib.hid hox
  have hxl:=hx x (List.mem_of_getElem? hxn)
  have HCC:=Lib.hid (show ∀ W,Below w.heap.size w W→W.cell? ⟨(a.add (n * 5)).block,(a.add (n * 5)).off+2,none⟩ = some (.bool x.2.2.1.1)∧W.cell? ⟨(a.add (n * 5)).block,(a.add (n * 5)).off+3,none⟩ = some (.slice A1 x.2.2.1.2.length c1)∧W.cell? ⟨(a.add (n * 5)).block,(a.add (n * 5)).off+4,none⟩ = some (.int .i64 x.2.2.2) from fun W hW=>⟨(cell_keep5 hW ha n 2).trans hc2,(cell_keep5 hW ha n 3).trans hc3,(cell_keep5 hW ha n 4).trans hc4⟩)
  have HOD:=Lib.hid (show ∀ W,Below w.heap.size w W→OwnD (.agg #[.bool x.2.2.1.1,.slice A1 x.2.2.1.2.length c1,.int .i64 x.2.2.2]) x.2.2 W from fun W hW=>OwnD.mk (own_below HOX.out hW))
  have hn0:(0:Int) ≤ (n:Int):=by omega
  have hnl:=(List.getElem?_eq_some_iff.1 hxn).1
  have hn1:(n:Int) < (t.2.length:Int):=by omega
  clear hc0 hc1 hc2 hc3 hc4 hox ha hxn hx
  go_wp2_with fail
  refine ((specIntOf_any 1 _ (by decide) (by decide)).mono fun _ _ h=>NewS.newV h).mono ?_
  rintro e w2 ⟨ux,Sx,rfl,ox,lx,b2⟩
  obtain ⟨Ax,cx,rfl⟩:=ownS_form ox.here
  have hz2:=b2.size
  have bb2:=Below.next bb1 b2
  replace kt:=kt.below b2
  replace ko:=ko.below b2
  go_wp2_with fail
  refine (specRatInt_any _ (ofZ 1) _ one_szR ox.here).mono ?_
  rintro e w3 ⟨uq,Sq,rfl,oq,lq,b3⟩
  obtain ⟨Aq,cq,Bq,dq,rfl⟩:=ownQ_form oq.here
  have hz3:=b3.size
  have bb3:=Below.next bb2 b3
  replace kt:=kt.below b3
  replace ko:=ko.below b3
  replace ox:=ox.below b3
  clear ox lx hd0
  have ku:=box_new (w3) #[.bool (makeQ (ofZ 1) (ofZ 1)).1.1.1,.slice Aq (makeQ (ofZ 1) (ofZ 1)).1.1.2.length cq,.slice Bq (makeQ (ofZ 1) (ofZ 1)).1.2.length dq] 36
  have alu:=below_al (Below.refl (w3).heap.size (w3)) (.cells #[.bool (makeQ (ofZ 1) (ofZ 1)).1.1.1,.slice Aq (makeQ (ofZ 1) (ofZ 1)).1.1.2.length cq,.slice Bq (makeQ (ofZ 1) (ofZ 1)).1.2.length dq] 36)
  have bbu:=Below.next bb3 alu
  replace kt:=kt.below alu
  replace ko:=ko.below alu
  replace oq:=oq.below alu
  go_upto_region 5 with fail
  obtain ⟨w4,hw4⟩:∃ W,W = (w3.alloc (.cells #[.bool (makeQ (ofZ 1) (ofZ 1)).1.1.1,.slice Aq (makeQ (ofZ 1) (ofZ 1)).1.1.2.length cq,.slice Bq (makeQ (ofZ 1) (ofZ 1)).1.2.length dq] 36)):=⟨_,rfl⟩
  have hz4:w3.heap.size+1 = w4.heap.size:=by rw [hw4];simp
  rw [← hw4] at kt ko ku oq bbu ⊢
  clear hw4
  have HB2:=Lib.hid bbu
  obtain ⟨k2,k3,k4⟩:=HCC.out _ bbu
  have kt_c0:=kt.here.cell 0 _ rfl
  have kt_c1:=kt.here.cell 1 _ rfl
  have ku_c0:=ku.here.cell 0 _ rfl
  have ku_c1:=ku.here.cell 1 _ rfl
  have ku_c2:=ku.here.cell 2 _ rfl
  go_cut [10] (fun s wx=>NewLocV 36 (fun v=>OwnQ v (divQ unitQ.1 (ratD x.2.2)).1) w4 s wx)
  case first =>
   have HC0:=Lib.hid (show Chg [] w4 w4.drew from (Chg.refl _ _).drew1)
   have HCr:=Lib.hid (show Chg [] w4 w4 from Chg.refl _ _)
   have KL:=Lib.hid (show ∀ W,Chg [] w4 W→W.cell? ⟨w.heap.size,0,none⟩ = some (.string t.1)∧W.cell? ⟨w.heap.size,1,none⟩ = some (.slice (some a) t.2.length c)∧W.cell? ⟨w3.heap.size,0,none⟩ = some (.bool (makeQ (ofZ 1) (ofZ 1)).1.1.1)∧W.cell? ⟨w3.heap.size,1,none⟩ = some (.slice Aq (makeQ (ofZ 1) (ofZ 1)).1.1.2.length cq)∧W.cell? ⟨w3.heap.size,2,none⟩ = some (.slice Bq (makeQ (ofZ 1) (ofZ 1)).1.2.length dq)∧W.cell? ⟨(a.add (n * 5)).block,(a.add (n * 5)).off+2,none⟩ = some (.bool x.2.2.1.1)∧W.cell? ⟨(a.add (n * 5)).block,(a.add (n * 5)).off+3,none⟩ = some (.slice A1 x.2.2.1.2.length c1)∧W.cell? ⟨(a.add (n * 5)).block,(a.add (n * 5)).off+4,none⟩ = some (.int .i64 x.2.2.2)∧Hid (Chg [] w4 W) from fun W hc=>⟨(kt.chg hc (fun i hi hm=>by simp at hm)).here.cell 0 _ rfl,(kt.chg hc (fun i hi hm=>by simp at hm)).here.cell 1 _ rfl,(ku.chg hc (fun i hi hm=>by simp at hm)).here.cell 0 _ rfl,(ku.chg hc (fun i hi hm=>by simp at hm)).here.cell 1 _ rfl,(ku.chg hc (fun i hi hm=>by simp at hm)).here.cell 2 _ rfl,(HCC.out W (below_chg HB2.out hc HB2.out.size (fun i hi=>by simp at hi))).1,(HCC.out W (below_chg HB2.out hc HB2.out.size (fun i hi=>by simp at hi))).2.1,(HCC.out W (below_chg HB2.out hc HB2.out.size (fun i hi=>by simp at hi))).2.2,Lib.hid hc⟩)
   have BBF:=Lib.hid (show ∀ W,Chg [] w4 W→Below w.heap.size w W from fun W hc=>below_chg bbu hc bbu.size (fun i hi=>by simp at hi))
   clear kt_c0 kt_c1 ku_c0 ku_c1 ku_c2
   go_region_held3 (fun W=>W.cell? ⟨w.heap.size,0,none⟩ = some (.string t.1)∧W.cell? ⟨w.heap.size,1,none⟩ = some (.slice (some a) t.2.length c)∧W.cell? ⟨w3.heap.size,0,none⟩ = some (.bool (makeQ (ofZ 1) (ofZ 1)).1.1.1)∧W.cell? ⟨w3.heap.size,1,none⟩ = some (.slice Aq (makeQ (ofZ 1) (ofZ 1)).1.1.2.length cq)∧W.cell? ⟨w3.heap.size,2,none⟩ = some (.slice Bq (makeQ (ofZ 1) (ofZ 1)).1.2.length dq)∧W.cell? ⟨(a.add (n * 5)).block,(a.add (n * 5)).off+2,none⟩ = some (.bool x.2.2.1.1)∧W.cell? ⟨(a.add (n * 5)).block,(a.add (n * 5)).off+3,none⟩ = some (.slice A1 x.2.2.1.2.length c1)∧W.cell? ⟨(a.add (n * 5)).block,(a.add (n * 5)).off+4,none⟩ = some (.int .i64 x.2.2.2)∧Hid (Chg [] w4 W))
    ((refine KL.out _ ?_;(first | exact HC7.out | exact HC6.out | exact HC5.out | exact HCr.out | exact HC0.out | exact HC7.out.drew1 | exact HC6.out.drew1 | exact HC5.out.drew1 | exact HCr.out.drew1 | exact HC0.out.drew1 | exact HC7.out.trans (Chg.of_below (below_al (Below.refl _ _) _)) | exact HC6.out.trans (Chg.of_below (below_al (Below.refl _ _) _)) | exact HC5.out.trans (Chg.of_below (below_al (Below.refl _ _) _)) | exact HCr.out.trans (Chg.of_below (below_al (Below.refl _ _) _)) | exact HC0.out.trans (Chg.of_below (below_al (Below.refl _ _) _)) | exact (Chg.setNew HC7.out (by first | exact HC7.out.size | exact HC6.out.size | exact HC5.out.size | exact HCr.out.size | exact HC0.out.size) _) | exact (Chg.setNew (Chg.setNew HC7.out (by first | exact HC7.out.size | exact HC6.out.size | exact HC5.out.size | exact HCr.out.size | exact HC0.out.size) _) (by first | exact HC7.out.size | exact HC6.out.size | exact HC5.out.size | exact HCr.out.size | exact HC0.out.size) _) | exact (Chg.setNew (Chg.setNew (Chg.setNew HC7.out (by first | exact HC7.out.size | exact HC6.out.size | exact HC5.out.size | exact HCr.out.size | exact HC0.out.size) _) (by first | exact HC7.out.size | exact HC6.out.size | exact HC5.out.size | exact HCr.out.size | exact HC0.out.size) _) (by first | exact HC7.out.size | exact HC6.out.size | exact HC5.out.size | exact HCr.out.size | exact HC0.out.size) _) | fail)))
    (first
      | (go_at_call 58;(have hBB:=(‹_∧_∧_∧_∧_∧_∧_∧_∧Hid (Chg [] w4 _)›).2.2.2.2.2.2.2.2);(with_reducible refine ((l10At_any _ t.2 q p _ (by omega) (HR.out _ (BBF.out _ hBB.out))).mono fun _ _ h=>postn_isE HPN.out h).mono ?_);rintro e w5 ⟨rfl,b5⟩;have HC5:=Lib.hid (hBB.out.trans (Chg.of_below b5));(have oq_5:=At.below (by first | exact oq | exact At.below oq (below_al (Below.refl _ _) _) | exact At.below (At.below oq (below_al (Below.refl _ _) _)) (below_al (Below.refl _ _) _) | exact At.move oq (fun _ _=>rfl) (Nat.le_refl _) | exact At.below (At.move (w':=w4.drew) oq (fun _ _=>rfl) (Nat.le_refl _)) (below_al (Below.refl _ _) _)) b5);(first | (have early5:At [w4.heap.size] (BoxAt w4.heap.size #[.bool false,.slice none 0 0,.slice none 0 0] 36) w5:=At.below (box_new w4.drew _ _) b5) | (have early5:=At.below (box_new _ #[.bool false,.slice none 0 0,.slice none 0 0] 36) b5) | (have early5:=At.below early4 b5) | skip);have HBZ5:=Lib.hid hBB.out.size;clear hBB)
      | (go_at_call 113;(have hBB:=(‹_∧_∧_∧_∧_∧_∧_∧_∧Hid (Chg [] w4 _)›).2.2.2.2.2.2.2.2);(with_reducible refine (specDecRat_any _ x.2.2 _ hxl (HOD.out _ (BBF.out _ hBB.out))).mono ?_);rintro e w6 ⟨ud,Sd,rfl,od,ld,b6⟩;have HC6:=Lib.hid (hBB.out.trans (Chg.of_below b6));(have oq_6:=At.below (by first | exact oq_5 | exact At.below oq_5 (below_al (Below.refl _ _) _) | exact At.below (At.below oq_5 (below_al (Below.refl _ _) _)) (below_al (Below.refl _ _) _) | exact At.move oq_5 (fun _ _=>rfl) (Nat.le_refl _) | exact At.below (At.move (w':=w4.drew) oq_5 (fun _ _=>rfl) (Nat.le_refl _)) (below_al (Below.refl _ _) _)) b6);obtain ⟨Ad,cd,Bd_,dd,rfl⟩:=ownQ_form od.here;(first | (have early6:At [w4.heap.size] (BoxAt w4.heap.size #[.bool false,.slice none 0 0,.slice none 0 0] 36) w6:=At.below (box_new w4.drew _ _) b6) | (have early6:=At.below (box_new _ #[.bool false,.slice none 0 0,.slice none 0 0] 36) b6) | (have early6:=At.below early5 b6) | skip);have HBZ6:=Lib.hid hBB.out.size;clear hBB)
      | (go_at_call 61;(have hBB:=(‹_∧_∧_∧_∧_∧_∧_∧_∧Hid (Chg [] w4 _)›).2.2.2.2.2.2.2.2);(with_reducible refine (specRatDiv_any _ _ unitQ.1 (ratD x.2.2) _ unitQ_szS (ratD_sz _) (At.here (by first | exact oq_6 | exact At.below oq_6 (below_al (Below.refl _ _) _) | exact At.below (At.below oq_6 (below_al (Below.refl _ _) _)) (below_al (Below.refl _ _) _) | exact At.move oq_6 (fun _ _=>rfl) (Nat.le_refl _) | exact At.below (At.move (w':=w4.drew) oq_6 (fun _ _=>rfl) (Nat.le_refl _)) (below_al (Below.refl _ _) _))) (At.here (by first | exact od | exact At.below od (below_al (Below.refl _ _) _) | exact At.below (At.below od (below_al (Below.refl _ _) _)) (below_al (Below.refl _ _) _) | exact At.move od (fun _ _=>rfl) (Nat.le_refl _) | exact At.below (At.move (w':=w4.drew) od (fun _ _=>rfl) (Nat.le_refl _)) (below_al (Below.refl _ _) _)))).mono ?_);rintro e w7 ⟨uv,Sv,rfl,ov,lv,b7⟩;have HC7:=Lib.hid (hBB.out.trans (Chg.of_below b7));(have oq_7:=At.below (by first | exact oq_6 | exact At.below oq_6 (below_al (Below.refl _ _) _) | exact At.below (At.below oq_6 (below_al (Below.refl _ _) _)) (below_al (Below.refl _ _) _) | exact At.move oq_6 (fun _ _=>rfl) (Nat.le_refl _) | exact At.below (At.move (w':=w4.drew) oq_6 (fun _ _=>rfl) (Nat.le_refl _)) (below_al (Below.refl _ _) _)) b7);(have od_7:=At.below (by first | exact od | exact At.below od (below_al (Below.refl _ _) _) | exact At.below (At.below od (below_al (Below.refl _ _) _)) (below_al (Below.refl _ _) _) | exact At.move od (fun _ _=>rfl) (Nat.le_refl _) | exact At.below (At.move (w':=w4.drew) od (fun _ _=>rfl) (Nat.le_refl _)) (below_al (Below.refl _ _) _)) b7);obtain ⟨Av,cv,Bv,dv,rfl⟩:=ownQ_form ov.here;(first | have hbxg:=At.below_lt (box_new _ #[.bool false,.slice none 0 0,.slice none 0 0] 36) b7 | have hbxg:=At.below_lt early6 b7 | skip);(try (have hbxf:=hbxg.1;have HGB:=Lib.hid hbxg.2;clear hbxg));(try (have cz0:=hbxf.here.cell 0 _ rfl;have fz0:=Lib.frozen_of_heap hbxf.here 0;have cz1:=hbxf.here.cell 1 _ rfl;have fz1:=Lib.frozen_of_heap hbxf.here 1;have cz2:=hbxf.here.cell 2 _ rfl;have fz2:=Lib.frozen_of_heap hbxf.here 2));have HBZ7:=Lib.hid hBB.out.size;clear hBB))
   all_goals (go_wp2_with fail;go_meet;first | exact newLocV_last ov lv HBZ7.out (below_of_chg HC7.out) | exact newLocV_early3 hbxf.here ov lv (by first | exact HC6.out.size | exact HC5.out.size | exact HCr.out.size | exact HC0.out.size) HGB.out (below_of_chg HC7.out))
  rename World=>w5
  clear kt_c0 kt_c1 ku_c0 ku_c1 ku_c2
  obtain ⟨gv,csv,Sv,rfl,kv,ov,nv,lv,b5⟩:=hcut
  obtain ⟨Av,cv,Bv,dv,ev⟩:=ownQ_form ov.here
  injection ev with ev
  subst ev
  have bb5:=Below.next bbu b5
  replace kt:=kt.below b5
  replace ko:=ko.below b5
  replace oq:=oq.below b5
  replace ku:=ku.below b5
  have hzl:=b5.size
  have HW:=Lib.hid (newVQ_chgS (R0:=(divQ unitQ.1 (ratD x.2.2)).1) (v:=.agg #[.bool (divQ unitQ.1 (ratD x.2.2)).1.1.1,.slice Av (divQ unitQ.1 (ratD x.2.2)).1.1.2.length cv,.slice Bv (divQ unitQ.1 (ratD x.2.2)).1.2.length dv]) (T:=[w.heap.size+1]) ov (fun i hi hm=>by have:=(lv i (List.mem_cons_of_mem _ hi)).1;simp at hm;omega) (fun i hi=>by simp at hi;omega) (fun i hi=>by have:=(lv i (List.mem_cons_of_mem _ hi)).1;omega) bb5)
  have cz0:=ko.here.cell 0 _ rfl
  have fz0:=Lib.frozen_of_heap ko.here 0
  have cz1:=ko.here.cell 1 _ rfl
  have fz1:=Lib.frozen_of_heap ko.here 1
  have cz2:=ko.here.cell 2 _ rfl
  have fz2:=Lib.frozen_of_heap ko.here 2
  have cp0:=kv.here.cell 0 _ rfl
  have cp1:=kv.here.cell 1 _ rfl
  have cp2:=kv.here.cell 2 _ rfl
  clear kv k2 k3 k4
  clear ko ov lv oq kt ku
  go_wp2
  refine bodyPost_ret (v:=.agg #[.bool (divQ unitQ.1 (ratD x.2.2)).1.1.1,.slice Av (divQ unitQ.1 (ratD x.2.2)).1.1.2.length cv,.slice Bv (divQ unitQ.1 (ratD x.2.2)).1.2.length dv]) (by simp [results,Tryz.results82,go_sem,cz0,cz1,cz2]) rfl ?_
  rw [HV.out]
  refine HW.out _ ?_
  repeat (first | with_reducible exact Chg.refl _ _ | with_reducible refine Chg.setCell ?_ (by simp) _ | with_reducible refine Chg.trans ?_ (Chg.of_below (below_al (Below.refl _ _) _)))
set_option maxHeartbeats 2000000 in
theorem l10Leg_any (v:Value) (t:TI) (p q:ByteArray) (w:World) (hl:t.2.length ≤ 1099511627776) (h:OwnTR w v t) :
 Calls Tryz.prog 42 #[v,.string p,.string q] w (Postn (legT t.2 p q) w):=by
 obtain ⟨A,c,rfl,hr⟩:=ownTR_form h
 have HR:=Lib.hid (show ∀ W,Below w.heap.size w W→OwnER W (.slice A t.2.length c) t.2 from fun W h=>hr.below h)
 have HTR:=Lib.hid (show ∀ W,Below w.heap.size w W→OwnTR W (.agg #[.string t.1,.slice A t.2.length c]) t from fun W h=>⟨_,rfl,hr.below h⟩)
 clear h hr
 have bb0:Below w.heap.size w (w.alloc (.cells #[.string t.1,.slice A t.2.length c] 41)):=below_al (Below.refl _ _) _
 have kt:=(box_new w #[.string t.1,.slice A t.2.length c] 41)
 go_enter Tryz.func42,Tryz.ntmps42
 have kt_c0:=kt.here.cell 0 _ rfl
 have kt_c1:=kt.here.cell 1 _ rfl
 go_wp2_with fail
 clear kt_c0 kt_c1
 refine (l10At_any _ t.2 p q _ (by omega) (HR.out _ bb0)).mono ?_
 rintro e w1 ⟨rfl,b1⟩
 have bb1:=Below.next bb0 b1
 replace kt:=kt.below b1
 have HE:=Lib.hid (show legT t.2 p q = if 0 ≤ posE t.2 p q then 2 else if 0 ≤ posE t.2 q p then 3 else 0 from rfl)
 generalize posE t.2 p q = z at *
 by_cases h0:0 ≤ z
 ·have HV:=Lib.hid (show legT t.2 p q = 2 by rw [HE.out,if_pos h0])
  have hz:decide (0 ≤ z) = true:=decide_eq_true h0
  clear kt
  go_wp2
  go_ret
  exact ⟨ret_int HV.out.symm,bb1⟩
 ·have HE2:=Lib.hid (show legT t.2 p q = if 0 ≤ posE t.2 q p then 3 else 0 by rw [HE.out,if_neg h0])
  have hz:decide (0 ≤ z) = false:=decide_eq_false h0
  clear HE
  have kt_c0:=kt.here.cell 0 _ rfl
  have kt_c1:=kt.here.cell 1 _ rfl
  go_wp2_with fail
  clear kt_c0 kt_c1
  refine (l10At_any _ t.2 q p _ (by omega) (HR.out _ bb1)).mono ?_
  rintro e w2 ⟨rfl,b2⟩
  have bb2:=Below.next bb1 b2
  replace kt:=kt.below b2
  clear hz h0
  generalize posE t.2 q p = y at *
  by_cases h1:0 ≤ y
  ·have HV:=Lib.hid (show legT t.2 p q = 3 by rw [HE2.out,if_pos h1])
   have hz:decide (0 ≤ y) = true:=decide_eq_true h1
   clear kt
   go_wp2
   go_ret
   exact ⟨ret_int HV.out.symm,bb2⟩
  ·have HV:=Lib.hid (show legT t.2 p q = 0 by rw [HE2.out,if_neg h1])
   have hz:decide (0 ≤ y) = false:=decide_eq_false h1
   clear kt
   go_wp2
   go_ret
   exact ⟨ret_int HV.out.symm,bb2⟩
set_option maxHeartbeats 4000000 in
theorem specRateHow_any (v:Value) (t:TI) (p q:ByteArray) (w:World) (hl:t.2.length ≤ 1099511627776) (hx:∀ x ∈ t.2,x.2.2.1.2.length ≤ 1048576) (h:OwnTR w v t) :
 Calls Tryz.prog 22 #[v,.string p,.string q] w (Postn (howT t p q) w):=by
 obtain ⟨A,c,rfl,hr⟩:=ownTR_form h
 have HR:=Lib.hid (show ∀ W,Below w.heap.size w W→OwnER W (.slice A t.2.length c) t.2 from fun W h=>hr.below h)
 have HTR:=Lib.hid (show ∀ W,Below w.heap.size w W→OwnTR W (.agg #[.string t.1,.slice A t.2.length c]) t from fun W h=>⟨_,rfl,hr.below h⟩)
 clear h hr
 have bb0:Below w.heap.size w (w.alloc (.cells #[.string t.1,.slice A t.2.length c] 41)):=below_al (Below.refl _ _) _
 have kt:=(box_new w #[.string t.1,.slice A t.2.length c] 41)
 go_enter Tryz.func22,Tryz.ntmps22
 have kt_c0:=kt.here.cell 0 _ rfl
 have kt_c1:=kt.here.cell 1 _ rfl
 go_wp2_with fail
 clear kt_c0 kt_c1
 refine (specRatesOk_any _ t _ hl hx (HTR.out _ bb0)).mono ?_
 rintro e w1 ⟨rfl,b1⟩
 have bb1:=Below.next bb0 b1
 replace kt:=kt.below b1
 clear hx
 by_cases ok0:okT t = true
 ·rw [ok0]
  have HOok0:=Lib.hid ok0
  clear ok0
  have kt_c0:=kt.here.cell 0 _ rfl
  have kt_c1:=kt.here.cell 1 _ rfl
  go_wp2_with fail
  clear kt_c0 kt_c1
  refine (specCurKnown_any p _).mono ?_
  rintro e w2 ⟨rfl,b2⟩
  have bb2:=Below.next bb1 b2
  replace kt:=kt.below b2
  by_cases ok1:knownC p = true
  ·rw [ok1]
   have HOok1:=Lib.hid ok1
   clear ok1
   have kt_c0:=kt.here.cell 0 _ rfl
   have kt_c1:=kt.here.cell 1 _ rfl
   go_wp2_with fail
   clear kt_c0 kt_c1
   refine (specCurKnown_any q _).mono ?_
   rintro e w3 ⟨rfl,b3⟩
   have bb3:=Below.next bb2 b3
   replace kt:=kt.below b3
   by_cases ok2:knownC q = true
   ·rw [ok2]
    have HOok2:=Lib.hid ok2
    clear ok2
    have HE:=Lib.hid (show howT t p q = if p = q then 1 else if legT t.2 p q ≠ 0 then legT t.2 p q else if ¬ p = t.1∧¬ q = t.1∧legT t.2 p t.1 ≠ 0∧legT t.2 t.1 q ≠ 0 then 4 else 0 by unfold howT;rw [if_pos ⟨HOok0.out,HOok1.out,HOok2.out⟩])
    clear HOok0 HOok1 HOok2
    by_cases ab:p = q
    ·have HV:=Lib.hid (show howT t p q = 1 by rw [HE.out,if_pos ab])
     have e1:(p.toList == q.toList) = true:=by rw [ab];exact beq_self_eq_true _
     clear ab kt
     go_wp2
     go_ret
     exact ⟨ret_int HV.out.symm,bb3⟩
    ·have HE2:=Lib.hid (show howT t p q = _ from HE.out.trans (if_neg ab))
     have e1:=bytes_neC ab
     clear ab HE
     have kt_c0:=kt.here.cell 0 _ rfl
     have kt_c1:=kt.here.cell 1 _ rfl
     go_wp2_with fail
     clear kt_c0 kt_c1
     refine (l10Leg_any _ t p q _ hl (HTR.out _ bb3)).mono ?_
     rintro e w4 ⟨rfl,b4⟩
     have bb4:=Below.next bb3 b4
     replace kt:=kt.below b4
     clear e1
     generalize legT t.2 p q = z at *
     by_cases hz:z = 0
     ·have HE3:=Lib.hid (show howT t p q = _ from HE2.out.trans (if_neg (fun h=>h hz)))
      subst hz
      clear HE2
      by_cases pa:p = t.1
      ·have HV:=Lib.hid (show howT t p q = 0 from HE3.out.trans (if_neg (fun h=>h.1 pa)))
       have e1:(p.toList == t.1.toList) = true:=by rw [pa];exact beq_self_eq_true _
       have e2:(p.toList != t.1.toList) = false:=by rw [bne,e1];rfl
       have kt_c0:=kt.here.cell 0 _ rfl
       have kt_c1:=kt.here.cell 1 _ rfl
       clear pa kt
       go_wp2
       go_ret
       exact ⟨ret_int HV.out.symm,bb4⟩
      ·have e1:=bytes_neC pa
       have e2:(p.toList != t.1.toList) = true:=by rw [bne,e1];rfl
       have PA:=Lib.hid pa
       clear pa
       by_cases qa:q = t.1
       ·have HV:=Lib.hid (show howT t p q = 0 from HE3.out.trans (if_neg (fun h=>h.2.1 qa)))
        have e3:(q.toList == t.1.toList) = true:=by rw [qa];exact beq_self_eq_true _
        have e4:(q.toList != t.1.toList) = false:=by rw [bne,e3];rfl
        have kt_c0:=kt.here.cell 0 _ rfl
        have kt_c1:=kt.here.cell 1 _ rfl
        clear qa kt
        go_wp2
        go_ret
        exact ⟨ret_int HV.out.symm,bb4⟩
       ·have e3:=bytes_neC qa
        have e4:(q.toList != t.1.toList) = true:=by rw [bne,e3];rfl
        have QA:=Lib.hid qa
        clear qa
        have kt_c0:=kt.here.cell 0 _ rfl
        have kt_c1:=kt.here.cell 1 _ rfl
        go_wp2_with fail
        clear kt_c0 kt_c1
        refine (l10Leg_any _ t p t.1 _ hl (HTR.out _ bb4)).mono ?_
        rintro e w5 ⟨rfl,b5⟩
        have bb5:=Below.next bb4 b5
        replace kt:=kt.below b5
        clear e1 e2 e3 e4
        generalize legT t.2 p t.1 = y at *
        by_cases hy:y = 0
        ·have HV:=Lib.hid (show howT t p q = 0 from HE3.out.trans (if_neg (fun h=>h.2.2.1 hy)))
         subst hy
         clear kt
         go_wp2
         go_ret
         exact ⟨ret_int HV.out.symm,bb5⟩
        ·have hy1:(y != 0) = true:=by simpa using hy
         have HY:=Lib.hid hy
         clear hy
         have kt_c0:=kt.here.cell 0 _ rfl
         have kt_c1:=kt.here.cell 1 _ rfl
         go_wp2_with fail
         clear kt_c0 kt_c1
         refine (l10Leg_any _ t t.1 q _ hl (HTR.out _ bb5)).mono ?_
         rintro e w6 ⟨rfl,b6⟩
         have bb6:=Below.next bb5 b6
         replace kt:=kt.below b6
         clear hy1
         generalize legT t.2 t.1 q = x at *
         by_cases hx:x = 0
         ·have HV:=Lib.hid (show howT t p q = 0 from HE3.out.trans (if_neg (fun h=>h.2.2.2 hx)))
          subst hx
          clear kt
          go_wp2
          go_ret
          exact ⟨ret_int HV.out.symm,bb6⟩
         ·have HV:=Lib.hid (show howT t p q = 4 from HE3.out.trans (if_pos ⟨PA.out,QA.out,HY.out,hx⟩))
          have hx1:(x != 0) = true:=by simpa using hx
          clear hx kt
          go_wp2
          go_ret
          exact ⟨ret_int HV.out.symm,bb6⟩
     ·have HV:=Lib.hid (show howT t p q = z from HE2.out.trans (if_pos hz))
      have hz1:(z != 0) = true:=by simpa using hz
      clear hz kt
      go_wp2
      go_ret
      exact ⟨ret_int HV.out.symm,bb4⟩
   ·have ok2':knownC q = false:=by simpa using ok2
    have HV:=Lib.hid (show howT t p q = 0 by unfold howT;rw [if_neg (fun h=>ok2 h.2.2)])
    rw [ok2']
    clear ok2 ok2' kt
    go_wp2
    go_ret
    exact ⟨ret_int HV.out.symm,bb3⟩
  ·have ok1':knownC p = false:=by simpa using ok1
   have HV:=Lib.hid (show howT t p q = 0 by unfold howT;rw [if_neg (fun h=>ok1 h.2.1)])
   rw [ok1']
   clear ok1 ok1' kt
   go_wp2
   go_ret
   exact ⟨ret_int HV.out.symm,bb2⟩
 ·have ok0':okT t = false:=by simpa using ok0
  have HV:=Lib.hid (show howT t p q = 0 by unfold howT;rw [if_neg (fun h=>ok0 h.1)])
  rw [ok0']
  clear ok0 ok0' kt
  go_wp2
  go_ret
  exact ⟨ret_int HV.out.symm,bb1⟩
set_option maxHeartbeats 4000000 in
theorem specRateOf_any (v:Value) (t:TI) (p q:ByteArray) (w:World) (hl:t.2.length ≤ 1099511627776) (hx:∀ x ∈ t.2,x.2.2.1.2.length ≤ 1048576) (h:OwnTR w v t)
 (HST:∀ (va:Value) (a b:ByteArray) (W:World),¬ legT t.2 a b = 0→OwnTR W va t→Calls Tryz.prog 82 #[va,.string a,.string b] W (NewV (fun u=>OwnQ u (stepT t.2 a b)) W)) :
 Calls Tryz.prog 60 #[v,.string p,.string q] w (PostQb (rateT t p q).1 (rateT t p q).2 w):=by
 have HS:=Lib.hid HST
 clear HST
 obtain ⟨A,c,rfl,hr⟩:=ownTR_form h
 have HR:=Lib.hid (show ∀ W,Below w.heap.size w W→OwnER W (.slice A t.2.length c) t.2 from fun W h=>hr.below h)
 have HTR:=Lib.hid (show ∀ W,Below w.heap.size w W→OwnTR W (.agg #[.string t.1,.slice A t.2.length c]) t from fun W h=>⟨_,rfl,hr.below h⟩)
 clear h hr
 have bb0:Below w.heap.size w ((w.alloc (.cells #[.string t.1,.slice A t.2.length c] 41)).alloc (.cells #[.bool false,.slice none 0 0,.slice none 0 0] 36)):=below_al (below_al (Below.refl _ _) _) _
 have kt:=(box_new w #[.string t.1,.slice A t.2.length c] 41).below (below_al (Below.refl _ _) (.cells #[.bool false,.slice none 0 0,.slice none 0 0] 36))
 have ko:=(box_new (w.alloc (.cells #[.string t.1,.slice A t.2.length c] 41)) #[.bool false,.slice none 0 0,.slice none 0 0] 36)
 rw [show (w.alloc (.cells #[.string t.1,.slice A t.2.length c] 41)).heap.size = w.heap.size+1 by simp] at ko
 go_enter Tryz.func60,Tryz.ntmps60
 have kt_c0:=kt.here.cell 0 _ rfl
 have kt_c1:=kt.here.cell 1 _ rfl
 go_wp2_with fail
 clear kt_c0 kt_c1
 refine (specRateHow_any _ t p q _ hl hx (HTR.out _ bb0)).mono ?_
 rintro e w1 ⟨rfl,b1⟩
 have bb1:=Below.next bb0 b1
 replace kt:=kt.below b1
 replace ko:=ko.below b1
 have HE:=Lib.hid (show rateT t p q = (if howT t p q = 1 then unitQ else if howT t p q = 2 ∨ howT t p q = 3 then (stepT t.2 p q,true) else if howT t p q = 4 then mulQ (stepT t.2 p t.1) (stepT t.2 t.1 q) else (zeroQ,false)) from rfl)
 have HLE:=Lib.hid (howT_leg t p q)
 have HPI:=Lib.hid (howT_piv t p q)
 clear hx
 generalize howT t p q = z at *
 by_cases z1:z = 1
 ·subst z1
  have HV:=Lib.hid (show rateT t p q = unitQ from HE.out)
  clear HE kt
  go_wp2_with fail
  refine ((specIntOf_any 1 _ (by decide) (by decide)).mono fun _ _ h=>NewS.newV h).mono ?_
  rintro e w2 ⟨ui,Si,rfl,oi,li,b2⟩
  have bb2:=Below.next bb1 b2
  replace ko:=ko.below b2
  obtain ⟨Ai,ci,rfl⟩:=ownS_form oi.here
  go_wp2_with fail
  refine (specRatInt_any _ (ofZ 1) _ one_szR oi.here).mono ?_
  rintro e w3 ⟨uf,Sf,rfl,of,lf,b3⟩
  have bb3:=Below.next bb2 b3
  replace ko:=ko.below b3
  replace oi:=oi.below b3
  obtain ⟨Af,cf,Bf,df,rfl⟩:=ownQ_form of.here
  have HW:=Lib.hid (newQb_at (r:=w.heap.size+1) (b:=(makeQ (ofZ 1) (ofZ 1)).2) of lf (by have:=b2.size;have:=b2.size;have:=(show w.heap.size+2 ≤ w1.heap.size by have:=ko.lt (w.heap.size+1) (by simp);have:=b1.size;simp at this;omega);omega) (by omega) bb3)
  have cz0:=ko.here.cell 0 _ rfl
  have fz0:=Lib.frozen_of_heap ko.here 0
  have cz1:=ko.here.cell 1 _ rfl
  have fz1:=Lib.frozen_of_heap ko.here 1
  have cz2:=ko.here.cell 2 _ rfl
  have fz2:=Lib.frozen_of_heap ko.here 2
  clear of ko oi
  go_wp2
  refine bodyPost_ret (v:=.tuple #[.agg #[.bool _,.slice Af _ cf,.slice Bf _ df],.bool _]) (by simp [results,Tryz.results60,go_sem,cz0,cz1,cz2];exact ⟨⟨rfl,rfl,rfl⟩,rfl⟩) rfl ?_
  rw [HV.out]
  exact HW.out
 have y1:(z == (1:Int)) = false:=by simpa using z1
 by_cases z2:z = 2
 ·subst z2
  have HV:=Lib.hid (show rateT t p q = (stepT t.2 p q,true) from HE.out)
  have HG:=Lib.hid (HLE.out (.inl rfl))
  clear HE HLE HPI
  have kt_c0:=kt.here.cell 0 _ rfl
  have kt_c1:=kt.here.cell 1 _ rfl
  go_wp2_with fail
  clear kt_c0 kt_c1
  refine (HS.out _ p q _ HG.out (HTR.out _ bb1)).mono ?_
  rintro e w2 ⟨uf,Sf,rfl,of,lf,b2⟩
  have bb2:=Below.next bb1 b2
  replace kt:=kt.below b2
  replace ko:=ko.below b2
  obtain ⟨Af,cf,Bf,df,rfl⟩:=ownQ_form of.here
  have HW:=Lib.hid (newQb_at (r:=w.heap.size+1) (b:=true) of lf (by have:=(show w.heap.size+2 ≤ w1.heap.size by have:=b1.size;simp at this;omega);omega) (by omega) bb2)
  have cz0:=ko.here.cell 0 _ rfl
  have fz0:=Lib.frozen_of_heap ko.here 0
  have cz1:=ko.here.cell 1 _ rfl
  have fz1:=Lib.frozen_of_heap ko.here 1
  have cz2:=ko.here.cell 2 _ rfl
  have fz2:=Lib.frozen_of_heap ko.here 2
  clear of ko kt
  go_wp2
  refine bodyPost_ret (v:=.tuple #[.agg #[.bool _,.slice Af _ cf,.slice Bf _ df],.bool true]) (by simp [results,Tryz.results60,go_sem,cz0,cz1,cz2];try exact ⟨rfl,rfl,rfl⟩) rfl ?_
  rw [HV.out]
  exact HW.out
 have y2:(z == (2:Int)) = false:=by simpa using z2
 by_cases z3:z = 3
 ·subst z3
  have HV:=Lib.hid (show rateT t p q = (stepT t.2 p q,true) from HE.out)
  have HG:=Lib.hid (HLE.out (.inr rfl))
  clear HE HLE HPI
  have kt_c0:=kt.here.cell 0 _ rfl
  have kt_c1:=kt.here.cell 1 _ rfl
  go_wp2_with fail
  clear kt_c0 kt_c1
  refine (HS.out _ p q _ HG.out (HTR.out _ bb1)).mono ?_
  rintro e w2 ⟨uf,Sf,rfl,of,lf,b2⟩
  have bb2:=Below.next bb1 b2
  replace kt:=kt.below b2
  replace ko:=ko.below b2
  obtain ⟨Af,cf,Bf,df,rfl⟩:=ownQ_form of.here
  have HW:=Lib.hid (newQb_at (r:=w.heap.size+1) (b:=true) of lf (by have:=(show w.heap.size+2 ≤ w1.heap.size by have:=b1.size;simp at this;omega);omega) (by omega) bb2)
  have cz0:=ko.here.cell 0 _ rfl
  have fz0:=Lib.frozen_of_heap ko.here 0
  have cz1:=ko.here.cell 1 _ rfl
  have fz1:=Lib.frozen_of_heap ko.here 1
  have cz2:=ko.here.cell 2 _ rfl
  have fz2:=Lib.frozen_of_heap ko.here 2
  clear of ko kt
  go_wp2
  refine bodyPost_ret (v:=.tuple #[.agg #[.bool _,.slice Af _ cf,.slice Bf _ df],.bool true]) (by simp [results,Tryz.results60,go_sem,cz0,cz1,cz2];try exact ⟨rfl,rfl,rfl⟩) rfl ?_
  rw [HV.out]
  exact HW.out
 have y3:(z == (3:Int)) = false:=by simpa using z3
 by_cases z4:z = 4
 ·subst z4
  have HV:=Lib.hid (show rateT t p q = mulQ (stepT t.2 p t.1) (stepT t.2 t.1 q) from HE.out)
  have HG:=Lib.hid (HPI.out rfl)
  clear HE HLE HPI
  have HQ1:=Lib.hid (stepT_sz t.2 p t.1)
  have HQ2:=Lib.hid (stepT_sz t.2 t.1 q)
  have HK:=Lib.hid (show w.heap.size+2 ≤ w1.heap.size by have:=b1.size;simp at this;omega)
  clear z1 z2 z3 y1 y2 y3
  have kt_c0:=kt.here.cell 0 _ rfl
  have kt_c1:=kt.here.cell 1 _ rfl
  go_wp2_with fail
  have HC0:=Lib.hid (show Chg [w.heap.size+1] w1 w1.drew from (Chg.refl _ _).drew1)
  have HCr:=Lib.hid (show Chg [w.heap.size+1] w1 w1 from Chg.refl _ _)
  have KL:=Lib.hid (show ∀ W,Chg [w.heap.size+1] w1 W→W.cell? ⟨w.heap.size,0,none⟩ = some (.string t.1)∧W.cell? ⟨w.heap.size,1,none⟩ = some (.slice A t.2.length c)∧Hid (Chg [w.heap.size+1] w1 W) from fun W hc=>⟨(kt.chg hc (fun i hi hm=>by simp at hi hm;omega)).here.cell 0 _ rfl,(kt.chg hc (fun i hi hm=>by simp at hi hm;omega)).here.cell 1 _ rfl,Lib.hid hc⟩)
  have BBF:=Lib.hid (show ∀ W,Chg [w.heap.size+1] w1 W→Below w.heap.size w W from fun W hc=>below_chg bb1 hc bb1.size (fun i hi=>by simp at hi;omega))
  clear kt_c0 kt_c1
  go_region_held3 (fun W=>W.cell? ⟨w.heap.size,0,none⟩ = some (.string t.1)∧W.cell? ⟨w.heap.size,1,none⟩ = some (.slice A t.2.length c)∧Hid (Chg [w.heap.size+1] w1 W))
   ((refine KL.out _ ?_;(first | exact HC4.out | exact HC3.out | exact HC2.out | exact HCr.out | exact HC0.out | exact HC4.out.drew1 | exact HC3.out.drew1 | exact HC2.out.drew1 | exact HCr.out.drew1 | exact HC0.out.drew1 | exact HC4.out.trans (Chg.of_below (below_al (Below.refl _ _) _)) | exact HC3.out.trans (Chg.of_below (below_al (Below.refl _ _) _)) | exact HC2.out.trans (Chg.of_below (below_al (Below.refl _ _) _)) | exact HCr.out.trans (Chg.of_below (below_al (Below.refl _ _) _)) | exact HC0.out.trans (Chg.of_below (below_al (Below.refl _ _) _)) | exact (Chg.setCell HC4.out (by simp) _) | exact (Chg.setCell (Chg.setCell HC4.out (by simp) _) (by simp) _) | exact (Chg.setCell (Chg.setCell (Chg.setCell HC4.out (by simp) _) (by simp) _) (by simp) _) | fail)))
   (first
     | (go_at_call 82;(have hBB:=(‹_∧_∧Hid (Chg [w.heap.size+1] w1 _)›).2.2);(with_reducible refine (HS.out _ p t.1 _ HG.out.1 (HTR.out _ (BBF.out _ hBB.out))).mono ?_);rintro e w2 ⟨ux,Sx,rfl,ox,lx,b2⟩;have HC2:=Lib.hid (hBB.out.trans (Chg.of_below b2));(have ko_2:=At.below (by first | exact ko | exact At.below ko (below_al (Below.refl _ _) _) | exact At.below (At.below ko (below_al (Below.refl _ _) _)) (below_al (Below.refl _ _) _) | exact At.move ko (fun _ _=>rfl) (Nat.le_refl _)) b2);obtain ⟨Ax,cx,Bx,dx,rfl⟩:=ownQ_form ox.here;have HBZ2:=Lib.hid hBB.out.size;clear hBB)
     | (go_at_call 82;(have hBB:=(‹_∧_∧Hid (Chg [w.heap.size+1] w1 _)›).2.2);(with_reducible refine (HS.out _ t.1 q _ HG.out.2 (HTR.out _ (BBF.out _ hBB.out))).mono ?_);rintro e w3 ⟨uy,Sy,rfl,oy,ly,b3⟩;have HC3:=Lib.hid (hBB.out.trans (Chg.of_below b3));(have ko_3:=At.below (by first | exact ko_2 | exact At.below ko_2 (below_al (Below.refl _ _) _) | exact At.below (At.below ko_2 (below_al (Below.refl _ _) _)) (below_al (Below.refl _ _) _) | exact At.move ko_2 (fun _ _=>rfl) (Nat.le_refl _)) b3);(have ox_3:=At.below (by first | exact ox | exact At.below ox (below_al (Below.refl _ _) _) | exact At.below (At.below ox (below_al (Below.refl _ _) _)) (below_al (Below.refl _ _) _) | exact At.move ox (fun _ _=>rfl) (Nat.le_refl _)) b3);obtain ⟨Ay,cy,By,dy,rfl⟩:=ownQ_form oy.here;have HBZ3:=Lib.hid hBB.out.size;clear hBB)
     | (go_at_call 44;(have hBB:=(‹_∧_∧Hid (Chg [w.heap.size+1] w1 _)›).2.2);(with_reducible refine (specRatMul_any _ _ (stepT t.2 p t.1) (stepT t.2 t.1 q) _ HQ1.out HQ2.out (At.here (by first | exact ox_3 | exact At.below ox_3 (below_al (Below.refl _ _) _) | exact At.below (At.below ox_3 (below_al (Below.refl _ _) _)) (below_al (Below.refl _ _) _) | exact At.move ox_3 (fun _ _=>rfl) (Nat.le_refl _))) (At.here (by first | exact oy | exact At.below oy (below_al (Below.refl _ _) _) | exact At.below (At.below oy (below_al (Below.refl _ _) _)) (below_al (Below.refl _ _) _) | exact At.move oy (fun _ _=>rfl) (Nat.le_refl _)))).mono ?_);rintro e w4 ⟨uf,Sf,rfl,of,lf,b4⟩;have HC4:=Lib.hid (hBB.out.trans (Chg.of_below b4));(have ko_4:=At.below (by first | exact ko_3 | exact At.below ko_3 (below_al (Below.refl _ _) _) | exact At.below (At.below ko_3 (below_al (Below.refl _ _) _)) (below_al (Below.refl _ _) _) | exact At.move ko_3 (fun _ _=>rfl) (Nat.le_refl _)) b4);(have ox_4:=At.below (by first | exact ox_3 | exact At.below ox_3 (below_al (Below.refl _ _) _) | exact At.below (At.below ox_3 (below_al (Below.refl _ _) _)) (below_al (Below.refl _ _) _) | exact At.move ox_3 (fun _ _=>rfl) (Nat.le_refl _)) b4);(have oy_4:=At.below (by first | exact oy | exact At.below oy (below_al (Below.refl _ _) _) | exact At.below (At.below oy (below_al (Below.refl _ _) _)) (below_al (Below.refl _ _) _) | exact At.move oy (fun _ _=>rfl) (Nat.le_refl _)) b4);obtain ⟨Af,cf,Bf,df,rfl⟩:=ownQ_form of.here;have cz0:=ko_4.here.cell 0 _ rfl;have fz0:=Lib.frozen_of_heap ko_4.here 0;have cz1:=ko_4.here.cell 1 _ rfl;have fz1:=Lib.frozen_of_heap ko_4.here 1;have cz2:=ko_4.here.cell 2 _ rfl;have fz2:=Lib.frozen_of_heap ko_4.here 2;have HBZ4:=Lib.hid hBB.out.size;clear hBB))
  all_goals
   have bb4:=BBF.out _ HC4.out
   replace kt:=kt.chg HC4.out (fun i hi hm=>by simp at hi hm;omega)
   replace ko:=ko_4
   have ox:=ox_4
   have oy:=oy_4
   have HW:=Lib.hid (newQb_at (r:=w.heap.size+1) (b:=(mulQ (stepT t.2 p t.1) (stepT t.2 t.1 q)).2) of lf (by have:=HBZ4.out;have:=HK.out;omega) (by omega) bb4)
   clear of ko kt ox oy
   go_wp2
   refine bodyPost_ret (v:=.tuple #[.agg #[.bool _,.slice Af _ cf,.slice Bf _ df],.bool _]) (by simp [results,Tryz.results60,go_sem,cz0,cz1,cz2];exact ⟨⟨rfl,rfl,rfl⟩,rfl⟩) rfl ?_
   rw [HV.out]
   exact HW.out
 have y4:(z == (4:Int)) = false:=by simpa using z4
 have HV:=Lib.hid (show rateT t p q = (zeroQ,false) by rw [HE.out,if_neg z1,if_neg (by omega),if_neg z4])
 clear HE kt z1 z2 z3 z4
 have cz0:=ko.here.cell 0 _ rfl
 have fz0:=Lib.frozen_of_heap ko.here 0
 have cz1:=ko.here.cell 1 _ rfl
 have fz1:=Lib.frozen_of_heap ko.here 1
 have cz2:=ko.here.cell 2 _ rfl
 have fz2:=Lib.frozen_of_heap ko.here 2
 clear ko
 go_wp2
 refine bodyPost_ret (v:=.tuple #[.agg #[.bool false,.slice none 0 0,.slice none 0 0],.bool false]) (by simp [results,Tryz.results60,go_sem,cz0,cz1,cz2]) rfl ?_
 rw [HV.out]
 first | exact newQb_zero _ bb1 | exact newQb_zero _ (below_set3 bb1 (by omega))
theorem specRateOf_all (v:Value) (t:TI) (p q:ByteArray) (w:World) (hl:t.2.length ≤ 1099511627776) (hx:∀ x ∈ t.2,x.2.2.1.2.length ≤ 1048576) (h:OwnTR w v t) :
 Calls Tryz.prog 60 #[v,.string p,.string q] w (PostQb (rateT t p q).1 (rateT t p q).2 w) :=
 specRateOf_any v t p q w hl hx h fun va a b W hg ho=>l10Step_any va t a b W hl hx hg ho
set_option maxHeartbeats 4000000 in
theorem specUnitRate_any (v:Value) (t:TI) (p q:ByteArray) (w:World) (hl:t.2.length ≤ 1099511627776) (hx:∀ x ∈ t.2,x.2.2.1.2.length ≤ 1048576) (h:OwnTR w v t) :
 Calls Tryz.prog 43 #[v,.string p,.string q] w (PostQb (unitR t p q).1 (unitR t p q).2 w):=by
 obtain ⟨A,c,rfl,hr⟩:=ownTR_form h
 have HR:=Lib.hid (show ∀ W,Below w.heap.size w W→OwnER W (.slice A t.2.length c) t.2 from fun W h=>hr.below h)
 have HTR:=Lib.hid (show ∀ W,Below w.heap.size w W→OwnTR W (.agg #[.string t.1,.slice A t.2.length c]) t from fun W h=>⟨_,rfl,hr.below h⟩)
 clear h hr
 have bb0:Below w.heap.size w ((w.alloc (.cells #[.string t.1,.slice A t.2.length c] 41)).alloc (.cells #[.bool false,.slice none 0 0,.slice none 0 0] 36)):=below_al (below_al (Below.refl _ _) _) _
 have kt:=(box_new w #[.string t.1,.slice A t.2.length c] 41).below (below_al (Below.refl _ _) (.cells #[.bool false,.slice none 0 0,.slice none 0 0] 36))
 have ko:=(box_new (w.alloc (.cells #[.string t.1,.slice A t.2.length c] 41)) #[.bool false,.slice none 0 0,.slice none 0 0] 36)
 rw [show (w.alloc (.cells #[.string t.1,.slice A t.2.length c] 41)).heap.size = w.heap.size+1 by simp] at ko
 obtain ⟨⟨X,x⟩,hHX⟩:∃ r,rateT t p q = r:=⟨_,rfl⟩
 have HX:=Lib.hid hHX
 obtain ⟨⟨Y,y⟩,hHY⟩:∃ r,divQ (unitC q) (unitC p) = r:=⟨_,rfl⟩
 have HY:=Lib.hid hHY
 obtain ⟨⟨R,r⟩,hHR2⟩:∃ r,unitR t p q = r:=⟨_,rfl⟩
 have HR2:=Lib.hid hHR2
 have hsX:szQ X ≤ 1048576:=by have:=rateT_szC t p q;rw [hHX] at this;exact this
 have hsY:szQ Y ≤ 1048576:=by have:=divQ_szC (unitC q) (unitC p);rw [hHY] at this;exact this
 have EV:=Lib.hid (show mulQ X Y = (R,r) by rw [← hHR2,← unit_impl];unfold facU;rw [hHX,hHY])
 have EN:=Lib.hid (show x = false→(R,r) = (zeroQ,false) from fun h=>by rw [← hHR2];unfold unitR;rw [hHX,if_neg (fun hh=>by have h2:x = true:=hh;rw [h] at h2;cases h2)])
 rw [hHR2]
 clear hHX hHY hHR2
 go_enter Tryz.func43,Tryz.ntmps43
 have kt_c0:=kt.here.cell 0 _ rfl
 have kt_c1:=kt.here.cell 1 _ rfl
 go_wp2_with fail
 clear kt_c0 kt_c1
 refine ((specRateOf_all _ t p q _ hl hx (HTR.out _ bb0)).mono fun _ _ h=>postQb_isC HX.out h).mono ?_
 rintro e w1 ⟨u1,S1,rfl,o1,l1,b1⟩
 obtain ⟨A1,c1,B1,d1,rfl⟩:=ownQ_form o1.here
 have hz1:w.heap.size+2 ≤ w1.heap.size:=by have:=b1.size;(try simp at this);omega
 have bb1:=Below.next bb0 b1
 replace kt:=kt.below b1
 replace ko:=ko.below b1
 have kx:=box_new (w1) #[.bool X.1.1,.slice A1 X.1.2.length c1,.slice B1 X.2.length d1] 36
 have alx:=below_al (Below.refl (w1).heap.size (w1)) (.cells #[.bool X.1.1,.slice A1 X.1.2.length c1,.slice B1 X.2.length d1] 36)
 have bbx:=Below.next bb1 alx
 replace kt:=kt.below alx
 replace ko:=ko.below alx
 replace o1:=o1.below alx
 clear kt
 cases x with
 | false =>
   obtain ⟨rfl,rfl⟩:R = zeroQ∧r = false:=by have h:=EN.out rfl;injection h with h1 h2;exact ⟨h1,h2⟩
   have HW:=Lib.hid (newQb_zeroC (T:=[w.heap.size+1]) (fun i hi=>by simp at hi;omega) bbx)
   have cz0:=ko.here.cell 0 _ rfl
   have fz0:=Lib.frozen_of_heap ko.here 0
   have cz1:=ko.here.cell 1 _ rfl
   have fz1:=Lib.frozen_of_heap ko.here 1
   have cz2:=ko.here.cell 2 _ rfl
   have fz2:=Lib.frozen_of_heap ko.here 2
   clear ko o1 l1 kx
   go_wp2
   refine bodyPost_ret (v:=.tuple #[.agg #[.bool false,.slice none 0 0,.slice none 0 0],.bool false]) (by simp [results,Tryz.results43,go_sem,cz0,cz1,cz2]) rfl ?_
   refine HW.out _ ?_
   repeat (first | with_reducible exact Chg.refl _ _ | with_reducible refine Chg.setCell ?_ (by simp) _ | with_reducible refine Chg.drew1 ?_ | with_reducible refine Chg.trans ?_ (Chg.of_below (below_al (Below.refl _ _) _)))
 | true =>
   go_wp2_with fail
   refine (specCurUnit_any q _).mono ?_
   rintro e w2 ⟨u2,S2,rfl,o2,l2,b2⟩
   obtain ⟨A2,c2,B2,d2,rfl⟩:=ownQ_form o2.here
   have hz2:w.heap.size+2 ≤ w2.heap.size:=by have:=b2.size;(try simp at this);omega
   have bb2:=Below.next bbx b2
   replace ko:=ko.below b2
   replace o1:=o1.below b2
   replace kx:=kx.below b2
   go_wp2_with fail
   refine (specCurUnit_any p _).mono ?_
   rintro e w3 ⟨u3,S3,rfl,o3,l3,b3⟩
   obtain ⟨A3,c3,B3,d3,rfl⟩:=ownQ_form o3.here
   have hz3:w.heap.size+2 ≤ w3.heap.size:=by have:=b3.size;(try simp at this);omega
   have bb3:=Below.next bb2 b3
   replace ko:=ko.below b3
   replace o1:=o1.below b3
   replace kx:=kx.below b3
   replace o2:=o2.below b3
   go_wp2_with fail
   refine ((specRatDiv_any _ _ (unitC q) (unitC p) _ (unitC_szC q) (unitC_szC p) o2.here o3.here).mono fun _ _ h=>postQb_isC HY.out h).mono ?_
   rintro e w4 ⟨u4,S4,rfl,o4,l4,b4⟩
   obtain ⟨A4,c4,B4,d4,rfl⟩:=ownQ_form o4.here
   have hz4:w.heap.size+2 ≤ w4.heap.size:=by have:=b4.size;(try simp at this);omega
   have bb4:=Below.next bb3 b4
   replace ko:=ko.below b4
   replace o1:=o1.below b4
   replace kx:=kx.below b4
   replace o2:=o2.below b4
   replace o3:=o3.below b4
   clear o2 o3
   have ky:=box_new (w4) #[.bool Y.1.1,.slice A4 Y.1.2.length c4,.slice B4 Y.2.length d4] 36
   have aly:=below_al (Below.refl (w4).heap.size (w4)) (.cells #[.bool Y.1.1,.slice A4 Y.1.2.length c4,.slice B4 Y.2.length d4] 36)
   have bby:=Below.next bb4 aly
   replace ko:=ko.below aly
   replace o1:=o1.below aly
   replace kx:=kx.below aly
   replace o4:=o4.below aly
   have kx_c0:=kx.here.cell 0 _ rfl
   have kx_c1:=kx.here.cell 1 _ rfl
   have kx_c2:=kx.here.cell 2 _ rfl
   have ky_c0:=ky.here.cell 0 _ rfl
   have ky_c1:=ky.here.cell 1 _ rfl
   have ky_c2:=ky.here.cell 2 _ rfl
   go_wp2_with fail
   clear kx_c0 kx_c1 kx_c2 ky_c0 ky_c1 ky_c2
   refine ((specRatMul_any _ _ X Y _ hsX hsY o1.here o4.here).mono fun _ _ h=>postQb_isC EV.out h).mono ?_
   rintro e w5 ⟨u5,S5,rfl,o5,l5,b5⟩
   obtain ⟨A5,c5,B5,d5,rfl⟩:=ownQ_form o5.here
   have hz5:w.heap.size+2 ≤ w5.heap.size:=by have:=b5.size;(try simp at this);omega
   have bb5:=Below.next bby b5
   replace ko:=ko.below b5
   replace o1:=o1.below b5
   replace kx:=kx.below b5
   replace o4:=o4.below b5
   replace ky:=ky.below b5
   have hlow:∀ i ∈ S5,w.heap.size+1 < i:=fun i hi=>by have:=(l5 i hi).1;(try simp at this);omega
   have HW:=Lib.hid (newQb_chgC (R0:=R) (R1:=r) (v:=.agg #[.bool R.1.1,.slice A5 R.1.2.length c5,.slice B5 R.2.length d5]) (T:=[w.heap.size+1]) o5 (fun i hi hm=>by have:=hlow i hi;simp at hm;omega) (fun i hi=>by simp at hi;omega) (fun i hi=>by have:=hlow i hi;omega) bb5)
   have cz0:=ko.here.cell 0 _ rfl
   have fz0:=Lib.frozen_of_heap ko.here 0
   have cz1:=ko.here.cell 1 _ rfl
   have fz1:=Lib.frozen_of_heap ko.here 1
   have cz2:=ko.here.cell 2 _ rfl
   have fz2:=Lib.frozen_of_heap ko.here 2
   clear ko o1 o4 o5 l1 l2 l3 l4 l5 kx ky hlow
   go_wp2
   refine bodyPost_ret (v:=.tuple #[.agg #[.bool R.1.1,.slice A5 R.1.2.length c5,.slice B5 R.2.length d5],.bool r]) (by simp [results,Tryz.results43,go_sem,cz0,cz1,cz2]) rfl ?_
   refine HW.out _ ?_
   repeat (first | with_reducible exact Chg.refl _ _ | with_reducible refine Chg.setCell ?_ (by simp) _ | with_reducible refine Chg.drew1 ?_ | with_reducible refine Chg.trans ?_ (Chg.of_below (below_al (Below.refl _ _) _)))
set_option maxHeartbeats 4000000 in
theorem specExact_any (v vm:Value) (t:TI) (m:MI) (q:ByteArray) (w:World) (hl:t.2.length ≤ 1099511627776) (hx:∀ x ∈ t.2,x.2.2.1.2.length ≤ 1048576) (hzm:szS m.2 ≤ 1048576) (h:OwnTR w v t) (hm:OwnM vm m w) :
 Calls Tryz.prog 23 #[v,vm,.string q] w (PostQb (exactR t m q).1 (exactR t m q).2 w):=by
 obtain ⟨A,c,rfl,hr⟩:=ownTR_form h
 have HR:=Lib.hid (show ∀ W,Below w.heap.size w W→OwnER W (.slice A t.2.length c) t.2 from fun W h=>hr.below h)
 have HTR:=Lib.hid (show ∀ W,Below w.heap.size w W→OwnTR W (.agg #[.string t.1,.slice A t.2.length c]) t from fun W h=>⟨_,rfl,hr.below h⟩)
 clear h hr
 have Hm:=Lib.hid hm
 obtain ⟨Am,cm,rfl⟩:=ownM_form hm
 have OMm:=Lib.hid (show ∀ W,Below w.heap.size w W→OwnM (.agg #[.string m.1,.bool m.2.1,.slice Am m.2.2.length cm]) m W from fun W hb=>OwnM.below Hm.out hb)
 have OIm:=Lib.hid (show ∀ W,Below w.heap.size w W→OwnI (.slice Am m.2.2.length cm) m.2.2 W from fun W hb=>ownM_open (OMm.out W hb))
 have OSm:=Lib.hid (show ∀ W,Below w.heap.size w W→OwnS (.agg #[.bool m.2.1,.slice Am m.2.2.length cm]) m.2 W from fun W hb=>OwnS.mk (OIm.out W hb))
 clear hm
 have bb0:Below w.heap.size w (((w.alloc (.cells #[.string t.1,.slice A t.2.length c] 41)).alloc (.cells #[.string m.1,.bool m.2.1,.slice Am m.2.2.length cm] 34)).alloc (.cells #[.bool false,.slice none 0 0,.slice none 0 0] 36)):=below_al (below_al (below_al (Below.refl _ _) _) _) _
 have kt:=(box_new w #[.string t.1,.slice A t.2.length c] 41).below (below_al (below_al (Below.refl _ _) (.cells #[.string m.1,.bool m.2.1,.slice Am m.2.2.length cm] 34)) (.cells #[.bool false,.slice none 0 0,.slice none 0 0] 36))
 have km:=(box_new (w.alloc (.cells #[.string t.1,.slice A t.2.length c] 41)) #[.string m.1,.bool m.2.1,.slice Am m.2.2.length cm] 34).below (below_al (Below.refl _ _) (.cells #[.bool false,.slice none 0 0,.slice none 0 0] 36))
 rw [show (w.alloc (.cells #[.string t.1,.slice A t.2.length c] 41)).heap.size = w.heap.size+1 by simp] at km
 have ko:=(box_new ((w.alloc (.cells #[.string t.1,.slice A t.2.length c] 41)).alloc (.cells #[.string m.1,.bool m.2.1,.slice Am m.2.2.length cm] 34)) #[.bool false,.slice none 0 0,.slice none 0 0] 36)
 rw [show ((w.alloc (.cells #[.string t.1,.slice A t.2.length c] 41)).alloc (.cells #[.string m.1,.bool m.2.1,.slice Am m.2.2.length cm] 34)).heap.size = w.heap.size+1+1 by simp] at ko
 have hlm:m.2.2.length ≤ 1048576:=by unfold szS szI at hzm;omega
 obtain ⟨⟨X,x⟩,hHX⟩:∃ r,unitR t m.1 q = r:=⟨_,rfl⟩
 have HX:=Lib.hid hHX
 obtain ⟨⟨Y,y⟩,hHY⟩:∃ r,exactR t m q = r:=⟨_,rfl⟩
 have HY:=Lib.hid hHY
 have hsX:szQ X ≤ 1048576:=by have:=unitR_sz t m.1 q;rw [hHX] at this;exact this
 have hsM:=ratM_szC m
 have EV:=Lib.hid (show mulQ (ratM m) X = (Y,y) by rw [← hHY,← exact_impl,hHX])
 have EN:=Lib.hid (show x = false→(Y,y) = (zeroQ,false) from fun h=>by rw [← hHY];unfold exactR;rw [if_neg (fun hh=>by have:=hh.1;rw [hHX,h] at this;cases this)])
 have EM:=Lib.hid (show okM m = false→(Y,y) = (zeroQ,false) from fun h=>by rw [← hHY];unfold exactR;rw [if_neg (fun hh=>by have:=hh.2;rw [h] at this;cases this)])
 rw [hHY]
 clear hHX hHY
 go_enter Tryz.func23,Tryz.ntmps23
 have kt_c0:=kt.here.cell 0 _ rfl
 have kt_c1:=kt.here.cell 1 _ rfl
 have km_c0:=km.here.cell 0 _ rfl
 have km_c1:=km.here.cell 1 _ rfl
 have km_c2:=km.here.cell 2 _ rfl
 go_wp2_with fail
 clear kt_c0 kt_c1 km_c0 km_c1 km_c2
 refine ((specUnitRate_any _ t m.1 q _ hl hx (HTR.out _ bb0)).mono fun _ _ h=>postQb_isC HX.out h).mono ?_
 rintro e w1 ⟨u1,S1,rfl,o1,l1,b1⟩
 obtain ⟨A1,c1,B1,d1,rfl⟩:=ownQ_form o1.here
 have hz1:w.heap.size+3 ≤ w1.heap.size:=by have:=b1.size;(try simp at this);omega
 have bb1:=Below.next bb0 b1
 replace kt:=kt.below b1
 replace km:=km.below b1
 replace ko:=ko.below b1
 have kx:=box_new (w1) #[.bool X.1.1,.slice A1 X.1.2.length c1,.slice B1 X.2.length d1] 36
 have alx:=below_al (Below.refl (w1).heap.size (w1)) (.cells #[.bool X.1.1,.slice A1 X.1.2.length c1,.slice B1 X.2.length d1] 36)
 have bbx:=Below.next bb1 alx
 replace kt:=kt.below alx
 replace km:=km.below alx
 replace ko:=ko.below alx
 replace o1:=o1.below alx
 clear kt
 cases x with
 | false =>
   obtain ⟨rfl,rfl⟩:Y = zeroQ∧y = false:=by have h:=EN.out rfl;injection h with h1 h2;exact ⟨h1,h2⟩
   have HW:=Lib.hid (newQb_zeroC (T:=[w.heap.size+1+1]) (fun i hi=>by simp at hi;omega) bbx)
   have cz0:=ko.here.cell 0 _ rfl
   have fz0:=Lib.frozen_of_heap ko.here 0
   have cz1:=ko.here.cell 1 _ rfl
   have fz1:=Lib.frozen_of_heap ko.here 1
   have cz2:=ko.here.cell 2 _ rfl
   have fz2:=Lib.frozen_of_heap ko.here 2
   clear ko o1 l1 kx km
   go_wp2
   refine bodyPost_ret (v:=.tuple #[.agg #[.bool false,.slice none 0 0,.slice none 0 0],.bool false]) (by simp [results,Tryz.results23,go_sem,cz0,cz1,cz2]) rfl ?_
   refine HW.out _ ?_
   repeat (first | with_reducible exact Chg.refl _ _ | with_reducible refine Chg.setCell ?_ (by simp) _ | with_reducible refine Chg.drew1 ?_ | with_reducible refine Chg.trans ?_ (Chg.of_below (below_al (Below.refl _ _) _)))
 | true =>
   have km_c0:=km.here.cell 0 _ rfl
   have km_c1:=km.here.cell 1 _ rfl
   have km_c2:=km.here.cell 2 _ rfl
   go_wp2_with fail
   clear km_c0 km_c1 km_c2
   refine (specMoneyOk_any _ m _ hlm (OMm.out _ bbx)).mono ?_
   rintro e w2 ⟨rfl,b2⟩
   have hz2:w.heap.size+3 ≤ w2.heap.size:=by have:=b2.size;(try simp at this);omega
   have bb2:=Below.next bbx b2
   replace km:=km.below b2
   replace ko:=ko.below b2
   replace o1:=o1.below b2
   replace kx:=kx.below b2
   obtain ⟨ok,hok⟩:∃ b,okM m = b:=⟨_,rfl⟩
   rw [hok]
   have HOK:=Lib.hid hok
   clear hok
   cases ok with
   | false =>
     obtain ⟨rfl,rfl⟩:Y = zeroQ∧y = false:=by have h:=EM.out HOK.out;injection h with h1 h2;exact ⟨h1,h2⟩
     have HW:=Lib.hid (newQb_zeroC (T:=[w.heap.size+1+1]) (fun i hi=>by simp at hi;omega) bb2)
     have cz0:=ko.here.cell 0 _ rfl
     have fz0:=Lib.frozen_of_heap ko.here 0
     have cz1:=ko.here.cell 1 _ rfl
     have fz1:=Lib.frozen_of_heap ko.here 1
     have cz2:=ko.here.cell 2 _ rfl
     have fz2:=Lib.frozen_of_heap ko.here 2
     clear ko o1 l1 kx km
     go_wp2
     refine bodyPost_ret (v:=.tuple #[.agg #[.bool false,.slice none 0 0,.slice none 0 0],.bool false]) (by simp [results,Tryz.results23,go_sem,cz0,cz1,cz2]) rfl ?_
     refine HW.out _ ?_
     repeat (first | with_reducible exact Chg.refl _ _ | with_reducible refine Chg.setCell ?_ (by simp) _ | with_reducible refine Chg.drew1 ?_ | with_reducible refine Chg.trans ?_ (Chg.of_below (below_al (Below.refl _ _) _)))
   | true =>
     have km_c0:=km.here.cell 0 _ rfl
     have km_c1:=km.here.cell 1 _ rfl
     have km_c2:=km.here.cell 2 _ rfl
     have kx_c0:=kx.here.cell 0 _ rfl
     have kx_c1:=kx.here.cell 1 _ rfl
     have kx_c2:=kx.here.cell 2 _ rfl
     go_upto_region 4 with fail
     have hz2b:=hz2
     have HC0:=Lib.hid (show Chg [w.heap.size+1+1] w2 w2.drew from (Chg.refl _ _).drew1)
     have HCr:=Lib.hid (show Chg [w.heap.size+1+1] w2 w2 from Chg.refl _ _)
     have KL:=Lib.hid (show ∀ W,Chg [w.heap.size+1+1] w2 W→W.cell? ⟨w.heap.size+1,0,none⟩ = some (.string m.1)∧W.cell? ⟨w.heap.size+1,1,none⟩ = some (.bool m.2.1)∧W.cell? ⟨w.heap.size+1,2,none⟩ = some (.slice Am m.2.2.length cm)∧W.cell? ⟨w1.heap.size,0,none⟩ = some (.bool X.1.1)∧W.cell? ⟨w1.heap.size,1,none⟩ = some (.slice A1 X.1.2.length c1)∧W.cell? ⟨w1.heap.size,2,none⟩ = some (.slice B1 X.2.length d1)∧Hid (Chg [w.heap.size+1+1] w2 W) from fun W hc=>⟨(km.chg hc (fun i hi hm=>by simp at hi hm;omega)).here.cell 0 _ rfl,(km.chg hc (fun i hi hm=>by simp at hi hm;omega)).here.cell 1 _ rfl,(km.chg hc (fun i hi hm=>by simp at hi hm;omega)).here.cell 2 _ rfl,(kx.chg hc (fun i hi hm=>by simp at hi hm;omega)).here.cell 0 _ rfl,(kx.chg hc (fun i hi hm=>by simp at hi hm;omega)).here.cell 1 _ rfl,(kx.chg hc (fun i hi hm=>by simp at hi hm;omega)).here.cell 2 _ rfl,Lib.hid hc⟩)
     have BBF:=Lib.hid (show ∀ W,Chg [w.heap.size+1+1] w2 W→Below w.heap.size w W from fun W hc=>below_chg bb2 hc bb2.size (fun i hi=>by simp at hi;omega))
     clear km_c0 km_c1 km_c2 kx_c0 kx_c1 kx_c2
     go_region_held3 (fun W=>W.cell? ⟨w.heap.size+1,0,none⟩ = some (.string m.1)∧W.cell? ⟨w.heap.size+1,1,none⟩ = some (.bool m.2.1)∧W.cell? ⟨w.heap.size+1,2,none⟩ = some (.slice Am m.2.2.length cm)∧W.cell? ⟨w1.heap.size,0,none⟩ = some (.bool X.1.1)∧W.cell? ⟨w1.heap.size,1,none⟩ = some (.slice A1 X.1.2.length c1)∧W.cell? ⟨w1.heap.size,2,none⟩ = some (.slice B1 X.2.length d1)∧Hid (Chg [w.heap.size+1+1] w2 W))
      ((refine KL.out _ ?_;(first | exact HC4.out | exact HC3.out | exact HCr.out | exact HC0.out | exact HC4.out.drew1 | exact HC3.out.drew1 | exact HCr.out.drew1 | exact HC0.out.drew1 | exact HC4.out.trans (Chg.of_below (below_al (Below.refl _ _) _)) | exact HC3.out.trans (Chg.of_below (below_al (Below.refl _ _) _)) | exact HCr.out.trans (Chg.of_below (below_al (Below.refl _ _) _)) | exact HC0.out.trans (Chg.of_below (below_al (Below.refl _ _) _)) | exact (Chg.setCell HC4.out (by simp) _) | exact (Chg.setCell (Chg.setCell HC4.out (by simp) _) (by simp) _) | exact (Chg.setCell (Chg.setCell (Chg.setCell HC4.out (by simp) _) (by simp) _) (by simp) _) | fail)))
      (first
        | (go_at_call 45;(have hBB:=(‹_∧_∧_∧_∧_∧_∧Hid (Chg [w.heap.size+1+1] w2 _)›).2.2.2.2.2.2);(with_reducible refine (specMoneyRat_any _ m _ hzm (OMm.out _ (BBF.out _ hBB.out))).mono ?_);rintro e w3 ⟨u7,S7,rfl,o7,l7,b3⟩;have HC3:=Lib.hid (hBB.out.trans (Chg.of_below b3));(have ko_3:=At.below (by first | exact ko | exact At.below ko (below_al (Below.refl _ _) _) | exact At.below (At.below ko (below_al (Below.refl _ _) _)) (below_al (Below.refl _ _) _) | exact At.move ko (fun _ _=>rfl) (Nat.le_refl _) | exact At.below (At.move (w':=w2.drew) ko (fun _ _=>rfl) (Nat.le_refl _)) (below_al (Below.refl _ _) _)) b3);(have o1_3:=At.below (by first | exact o1 | exact At.below o1 (below_al (Below.refl _ _) _) | exact At.below (At.below o1 (below_al (Below.refl _ _) _)) (below_al (Below.refl _ _) _) | exact At.move o1 (fun _ _=>rfl) (Nat.le_refl _) | exact At.below (At.move (w':=w2.drew) o1 (fun _ _=>rfl) (Nat.le_refl _)) (below_al (Below.refl _ _) _)) b3);obtain ⟨A7,c7,B7,d7,rfl⟩:=ownQ_form o7.here;have HBZ3:=Lib.hid hBB.out.size;clear hBB)
        | (go_at_call 44;(have hBB:=(‹_∧_∧_∧_∧_∧_∧Hid (Chg [w.heap.size+1+1] w2 _)›).2.2.2.2.2.2);(with_reducible refine ((specRatMul_any _ _ (ratM m) X _ hsM hsX (At.here (by first | exact o7 | exact At.below o7 (below_al (Below.refl _ _) _) | exact At.below (At.below o7 (below_al (Below.refl _ _) _)) (below_al (Below.refl _ _) _) | exact At.move o7 (fun _ _=>rfl) (Nat.le_refl _) | exact At.below (At.move (w':=w2.drew) o7 (fun _ _=>rfl) (Nat.le_refl _)) (below_al (Below.refl _ _) _))) (At.here (by first | exact o1_3 | exact At.below o1_3 (below_al (Below.refl _ _) _) | exact At.below (At.below o1_3 (below_al (Below.refl _ _) _)) (below_al (Below.refl _ _) _) | exact At.move o1_3 (fun _ _=>rfl) (Nat.le_refl _) | exact At.below (At.move (w':=w2.drew) o1_3 (fun _ _=>rfl) (Nat.le_refl _)) (below_al (Below.refl _ _) _)))).mono fun _ _ h=>postQb_isC EV.out h).mono ?_);rintro e w4 ⟨u8,S8,rfl,o8,l8,b4⟩;have HC4:=Lib.hid (hBB.out.trans (Chg.of_below b4));(have ko_4:=At.below (by first | exact ko_3 | exact At.below ko_3 (below_al (Below.refl _ _) _) | exact At.below (At.below ko_3 (below_al (Below.refl _ _) _)) (below_al (Below.refl _ _) _) | exact At.move ko_3 (fun _ _=>rfl) (Nat.le_refl _) | exact At.below (At.move (w':=w2.drew) ko_3 (fun _ _=>rfl) (Nat.le_refl _)) (below_al (Below.refl _ _) _)) b4);(have o1_4:=At.below (by first | exact o1_3 | exact At.below o1_3 (below_al (Below.refl _ _) _) | exact At.below (At.below o1_3 (below_al (Below.refl _ _) _)) (below_al (Below.refl _ _) _) | exact At.move o1_3 (fun _ _=>rfl) (Nat.le_refl _) | exact At.below (At.move (w':=w2.drew) o1_3 (fun _ _=>rfl) (Nat.le_refl _)) (below_al (Below.refl _ _) _)) b4);(have o7_4:=At.below (by first | exact o7 | exact At.below o7 (below_al (Below.refl _ _) _) | exact At.below (At.below o7 (below_al (Below.refl _ _) _)) (below_al (Below.refl _ _) _) | exact At.move o7 (fun _ _=>rfl) (Nat.le_refl _) | exact At.below (At.move (w':=w2.drew) o7 (fun _ _=>rfl) (Nat.le_refl _)) (below_al (Below.refl _ _) _)) b4);obtain ⟨A8,c8,B8,d8,rfl⟩:=ownQ_form o8.here;have cz0:=ko_4.here.cell 0 _ rfl;have fz0:=Lib.frozen_of_heap ko_4.here 0;have cz1:=ko_4.here.cell 1 _ rfl;have fz1:=Lib.frozen_of_heap ko_4.here 1;have cz2:=ko_4.here.cell 2 _ rfl;have fz2:=Lib.frozen_of_heap ko_4.here 2;have HBZ4:=Lib.hid hBB.out.size;clear hBB))
     all_goals
      have bb4:=BBF.out _ HC4.out
      replace km:=km.chg HC4.out (fun i hi hm=>by simp at hi hm;omega)
      replace kx:=kx.chg HC4.out (fun i hi hm=>by simp at hi hm;omega)
      replace ko:=ko_4
      replace o1:=o1_4
      have o7:=o7_4
      have HW:=Lib.hid (newQb_at (r:=w.heap.size+1+1) (b:=y) o8 l8 (by have:=HBZ4.out;omega) (by omega) bb4)
      clear o8 o7 o1 l8 l7 km kx ko
      go_wp2
      refine bodyPost_ret (v:=.tuple #[.agg #[.bool Y.1.1,.slice A8 Y.1.2.length c8,.slice B8 Y.2.length d8],.bool y]) (by simp [results,Tryz.results23,go_sem,cz0,cz1,cz2]) rfl ?_
      exact HW.out
theorem subN_sz {x N:QI} {b:Bool} (e:negQ x = (N,b)):szQ N ≤ 1048576:=by
 have e1:N = (negQ x).1:=by rw [e]
 rw [e1]
 unfold negQ
 split
 ·rename_i h
  have h1:=(parts_of h).d50
  have h2:(negS x.1).2.length ≤ 50:=by unfold negS;split;exact ofZ_len _;exact Nat.zero_le _
  unfold szQ szS szI
  simp only
  omega
 ·decide
set_option maxHeartbeats 2000000 in
theorem specRatSub_any (vr:Value) (vs:Value) (r s:QI) (w:World) (hzr:szQ r ≤ 1048576) (hzs:szQ s ≤ 1048576) (hr:OwnQ vr r w) (hs:OwnQ vs s w) :
 Calls Tryz.prog 68 #[vr,vs] w (PostQb (subQ r s).1 (subQ r s).2 w):=by
 have Hr:=Lib.hid hr
 obtain ⟨Ar,cr,Br,dr,rfl⟩:=ownQ_form hr
 have OQr:=Lib.hid (show ∀ W,Below w.heap.size w W→OwnQ (.agg #[.bool r.1.1,.slice Ar r.1.2.length cr,.slice Br r.2.length dr]) r W from fun W hb=>OwnQ.below Hr.out hb)
 have OUr:=Lib.hid (show ∀ W,Below w.heap.size w W→OwnI (.slice Ar r.1.2.length cr) r.1.2 W from fun W hb=>(ownQ_open (OQr.out W hb)).2.1)
 have ODr:=Lib.hid (show ∀ W,Below w.heap.size w W→OwnI (.slice Br r.2.length dr) r.2 W from fun W hb=>(ownQ_open (OQr.out W hb)).2.2.1)
 have OSr:=Lib.hid (show ∀ W,Below w.heap.size w W→OwnS (.agg #[.bool r.1.1,.slice Ar r.1.2.length cr]) r.1 W from fun W hb=>OwnS.mk (OUr.out W hb))
 clear hr
 have Hs:=Lib.hid hs
 obtain ⟨As,cs,Bs,ds,rfl⟩:=ownQ_form hs
 have OQs:=Lib.hid (show ∀ W,Below w.heap.size w W→OwnQ (.agg #[.bool s.1.1,.slice As s.1.2.length cs,.slice Bs s.2.length ds]) s W from fun W hb=>OwnQ.below Hs.out hb)
 have OUs:=Lib.hid (show ∀ W,Below w.heap.size w W→OwnI (.slice As s.1.2.length cs) s.1.2 W from fun W hb=>(ownQ_open (OQs.out W hb)).2.1)
 have ODs:=Lib.hid (show ∀ W,Below w.heap.size w W→OwnI (.slice Bs s.2.length ds) s.2 W from fun W hb=>(ownQ_open (OQs.out W hb)).2.2.1)
 have OSs:=Lib.hid (show ∀ W,Below w.heap.size w W→OwnS (.agg #[.bool s.1.1,.slice As s.1.2.length cs]) s.1 W from fun W hb=>OwnS.mk (OUs.out W hb))
 clear hs
 have bb0:Below w.heap.size w (((w.alloc (.cells #[.bool r.1.1,.slice Ar r.1.2.length cr,.slice Br r.2.length dr] 36)).alloc (.cells #[.bool s.1.1,.slice As s.1.2.length cs,.slice Bs s.2.length ds] 36)).alloc (.cells #[.bool false,.slice none 0 0,.slice none 0 0] 36)):=below_al (below_al (below_al (Below.refl _ _) _) _) _
 have kr:=(box_new w #[.bool r.1.1,.slice Ar r.1.2.length cr,.slice Br r.2.length dr] 36).below (below_al (below_al (Below.refl _ _) (.cells #[.bool s.1.1,.slice As s.1.2.length cs,.slice Bs s.2.length ds] 36)) (.cells #[.bool false,.slice none 0 0,.slice none 0 0] 36))
 have ks:=(box_new (w.alloc (.cells #[.bool r.1.1,.slice Ar r.1.2.length cr,.slice Br r.2.length dr] 36)) #[.bool s.1.1,.slice As s.1.2.length cs,.slice Bs s.2.length ds] 36).below (below_al (Below.refl _ _) (.cells #[.bool false,.slice none 0 0,.slice none 0 0] 36))
 rw [show (w.alloc (.cells #[.bool r.1.1,.slice Ar r.1.2.length cr,.slice Br r.2.length dr] 36)).heap.size = w.heap.size+1 by simp] at ks
 have ko:=(box_new ((w.alloc (.cells #[.bool r.1.1,.slice Ar r.1.2.length cr,.slice Br r.2.length dr] 36)).alloc (.cells #[.bool s.1.1,.slice As s.1.2.length cs,.slice Bs s.2.length ds] 36)) #[.bool false,.slice none 0 0,.slice none 0 0] 36)
 rw [show ((w.alloc (.cells #[.bool r.1.1,.slice Ar r.1.2.length cr,.slice Br r.2.length dr] 36)).alloc (.cells #[.bool s.1.1,.slice As s.1.2.length cs,.slice Bs s.2.length ds] 36)).heap.size = w.heap.size+1+1 by simp] at ko
 obtain ⟨⟨N,bo⟩,hQ⟩:∃ q,negQ s = q:=⟨_,rfl⟩
 have EQ:=Lib.hid hQ
 have hzN:=subN_sz hQ
 have HD:=Lib.hid (show subQ r s = if bo = true then addQ r N else (zeroQ,false) by unfold subQ;rw [hQ])
 obtain ⟨Q,hA⟩:∃ Q,addQ r N = Q:=⟨_,rfl⟩
 have EA:=Lib.hid hA
 rw [hA] at HD
 clear hQ hA
 have HKO:=Lib.hid (ko.lt (w.heap.size+1+1) (by simp))
 go_enter Tryz.func68,Tryz.ntmps68
 have ks_c0:=ks.here.cell 0 _ rfl
 have ks_c1:=ks.here.cell 1 _ rfl
 have ks_c2:=ks.here.cell 2 _ rfl
 go_wp2_with fail
 clear ks_c0 ks_c1 ks_c2
 refine (show Calls _ _ _ _ (PostQb N bo _) from (specRatNeg_any _ s _ hzs (OQs.out _ bb0)).mono fun _ _ h=>postQb_eq EQ.out h).mono ?_
 rintro e w1 ⟨un,Sn,rfl,on,ln,b1⟩
 obtain ⟨An,cn,Bn,dn,rfl⟩:=ownQ_form on.here
 have bb1:=Below.next bb0 b1
 replace kr:=kr.below b1
 replace ks:=ks.below b1
 replace ko:=ko.below b1
 cases bo with
 | true =>
   have HV:=Lib.hid (show subQ r s = Q by rw [HD.out];rfl)
   clear HD
   have kt:=box_new (w1) #[.bool N.1.1,.slice An N.1.2.length cn,.slice Bn N.2.length dn] 36
   have alt:=below_al (Below.refl (w1).heap.size (w1)) (.cells #[.bool N.1.1,.slice An N.1.2.length cn,.slice Bn N.2.length dn] 36)
   have bbt:=Below.next bb1 alt
   replace kr:=kr.below alt
   replace ks:=ks.below alt
   replace ko:=ko.below alt
   replace on:=on.below alt
   have kt_c0:=kt.here.cell 0 _ rfl
   have kt_c1:=kt.here.cell 1 _ rfl
   have kt_c2:=kt.here.cell 2 _ rfl
   have kr_c0:=kr.here.cell 0 _ rfl
   have kr_c1:=kr.here.cell 1 _ rfl
   have kr_c2:=kr.here.cell 2 _ rfl
   go_wp2_with fail
   clear kt_c0 kt_c1 kt_c2 kr_c0 kr_c1 kr_c2
   refine ((specRatAdd_any _ _ r N _ hzr hzN (OQr.out _ bbt) on.here).mono fun _ _ h=>postQb_eq EA.out h).mono ?_
   rintro e w2 ⟨uf,Sf,rfl,of,lf,b2⟩
   obtain ⟨Af,cf,Bf,df,rfl⟩:=ownQ_form of.here
   have bb2:=Below.next bbt b2
   replace kr:=kr.below b2
   replace ks:=ks.below b2
   replace ko:=ko.below b2
   replace on:=on.below b2
   replace kt:=kt.below b2
   clear on kt kr ks
   have HW:=Lib.hid (newQb_at (r:=w.heap.size+1+1) (b:=Q.2) of lf (by have h1:=HKO.out;have h2:=b1.size;have h3:=alt.size;omega) (by omega) bb2)
   have cz0:=ko.here.cell 0 _ rfl
   have fz0:=Lib.frozen_of_heap ko.here 0
   have cz1:=ko.here.cell 1 _ rfl
   have fz1:=Lib.frozen_of_heap ko.here 1
   have cz2:=ko.here.cell 2 _ rfl
   have fz2:=Lib.frozen_of_heap ko.here 2
   clear of ko
   go_wp2
   refine bodyPost_ret (v:=.tuple #[.agg #[.bool _,.slice Af _ cf,.slice Bf _ df],.bool _]) (by simp [results,Tryz.results68,go_sem,cz0,cz1,cz2];exact ⟨⟨rfl,rfl,rfl⟩,rfl⟩) rfl ?_
   rw [HV.out]
   exact HW.out
 | false =>
   have HV:=Lib.hid (show subQ r s = (zeroQ,false) by rw [HD.out];rfl)
   clear HD on
   have kt:=box_new (w1) #[.bool N.1.1,.slice An N.1.2.length cn,.slice Bn N.2.length dn] 36
   have alt:=below_al (Below.refl (w1).heap.size (w1)) (.cells #[.bool N.1.1,.slice An N.1.2.length cn,.slice Bn N.2.length dn] 36)
   have bbt:=Below.next bb1 alt
   replace kr:=kr.below alt
   replace ks:=ks.below alt
   replace ko:=ko.below alt
   have ko_c0:=ko.here.cell 0 _ rfl
   have ko_c1:=ko.here.cell 1 _ rfl
   have ko_c2:=ko.here.cell 2 _ rfl
   have cz0:=ko.here.cell 0 _ rfl
   have fz0:=Lib.frozen_of_heap ko.here 0
   have cz1:=ko.here.cell 1 _ rfl
   have fz1:=Lib.frozen_of_heap ko.here 1
   have cz2:=ko.here.cell 2 _ rfl
   have fz2:=Lib.frozen_of_heap ko.here 2
   go_wp2
   refine bodyPost_ret (v:=.tuple #[.agg #[.bool false,.slice none 0 0,.slice none 0 0],.bool false]) (by simp [results,Tryz.results68,go_sem,cz0,cz1,cz2]) rfl ?_
   rw [HV.out]
   first | exact newQb_zero _ bbt | exact newQb_zero _ (below_set3 bbt (by omega))
set_option maxHeartbeats 4000000 in
theorem specRatRest_any (vr:Value) (r:QI) (m:Int) (w:World) (hz:szQ r ≤ 1048576) (hr:OwnQ vr r w) :
 Calls Tryz.prog 46 #[vr,.int .i64 m] w (PostSQb (restS r m) (restQ r m) (restB r m) w):=by
 have Hr:=Lib.hid hr
 obtain ⟨Ar,cr,Br,dr,rfl⟩:=ownQ_form hr
 have OQr:=Lib.hid (show ∀ W,Below w.heap.size w W→OwnQ (.agg #[.bool r.1.1,.slice Ar r.1.2.length cr,.slice Br r.2.length dr]) r W from fun W hb=>OwnQ.below Hr.out hb)
 have OUr:=Lib.hid (show ∀ W,Below w.heap.size w W→OwnI (.slice Ar r.1.2.length cr) r.1.2 W from fun W hb=>(ownQ_open (OQr.out W hb)).2.1)
 have ODr:=Lib.hid (show ∀ W,Below w.heap.size w W→OwnI (.slice Br r.2.length dr) r.2 W from fun W hb=>(ownQ_open (OQr.out W hb)).2.2.1)
 have OSr:=Lib.hid (show ∀ W,Below w.heap.size w W→OwnS (.agg #[.bool r.1.1,.slice Ar r.1.2.length cr]) r.1 W from fun W hb=>OwnS.mk (OUr.out W hb))
 clear hr
 have bb0:Below w.heap.size w (((w.alloc (.cells #[.bool r.1.1,.slice Ar r.1.2.length cr,.slice Br r.2.length dr] 36)).alloc (.cells #[.bool false,.slice none 0 0] 32)).alloc (.cells #[.bool false,.slice none 0 0,.slice none 0 0] 36)):=below_al (below_al (below_al (Below.refl _ _) _) _) _
 have kr:=(box_new w #[.bool r.1.1,.slice Ar r.1.2.length cr,.slice Br r.2.length dr] 36).below (below_al (below_al (Below.refl _ _) (.cells #[.bool false,.slice none 0 0] 32)) (.cells #[.bool false,.slice none 0 0,.slice none 0 0] 36))
 have ko:=(box_new (w.alloc (.cells #[.bool r.1.1,.slice Ar r.1.2.length cr,.slice Br r.2.length dr] 36)) #[.bool false,.slice none 0 0] 32).below (below_al (Below.refl _ _) (.cells #[.bool false,.slice none 0 0,.slice none 0 0] 36))
 rw [show (w.alloc (.cells #[.bool r.1.1,.slice Ar r.1.2.length cr,.slice Br r.2.length dr] 36)).heap.size = w.heap.size+1 by simp] at ko
 have kp:=(box_new ((w.alloc (.cells #[.bool r.1.1,.slice Ar r.1.2.length cr,.slice Br r.2.length dr] 36)).alloc (.cells #[.bool false,.slice none 0 0] 32)) #[.bool false,.slice none 0 0,.slice none 0 0] 36)
 rw [show ((w.alloc (.cells #[.bool r.1.1,.slice Ar r.1.2.length cr,.slice Br r.2.length dr] 36)).alloc (.cells #[.bool false,.slice none 0 0] 32)).heap.size = w.heap.size+1+1 by simp] at kp
 have HKO:=Lib.hid (ko.lt (w.heap.size+1) (by simp))
 have HKP:=Lib.hid (kp.lt (w.heap.size+1+1) (by simp))
 obtain ⟨X,hX⟩:∃ X,(roundR r m).1 = X:=⟨_,rfl⟩
 obtain ⟨Y,hY⟩:∃ Y,(makeQ X (ofZ 1)).1 = Y:=⟨_,rfl⟩
 obtain ⟨Z,hZ⟩:∃ Z,(subQ r Y).1 = Z:=⟨_,rfl⟩
 have zX:szS X ≤ 1048576:=by rw [← hX];exact roundR_sz r m
 have zY:szQ Y ≤ 1048576:=by rw [← hY];exact makeQ_szQ _ _
 by_cases hb:okQ r = true∧modeB m = true
 ·obtain ⟨r1,r2,r3,r4⟩:=rest_all hb.1 hb.2
  have ER:=Lib.hid (show roundR r m = (X,true) by rw [r1,← hX,r1])
  have rp:=rest_parts hb.1 m
  have e0:roundS r m = X:=by rw [← hX,r1]
  rw [e0] at rp r3 r4
  rw [hY] at rp r4
  rw [hZ] at r4
  have EM:=Lib.hid (show makeQ X (ofZ 1) = (Y,true) by rw [← hY,← rp.1])
  have ES:=Lib.hid (show subQ r Y = (Z,true) by rw [← hZ,← rp.2])
  have HV:=Lib.hid (show restS r m = X∧restQ r m = Z∧restB r m = true from ⟨r3,r4,r2⟩)
  clear rp e0
  clear hX hY hZ r1 r2 r3 r4 hb
  go_enter Tryz.func46,Tryz.ntmps46
  have kr_c0:=kr.here.cell 0 _ rfl
  have kr_c1:=kr.here.cell 1 _ rfl
  have kr_c2:=kr.here.cell 2 _ rfl
  go_wp2_with fail
  clear kr_c0 kr_c1 kr_c2
  refine ((specRatRound_any _ r m _ hz (OQr.out _ bb0)).mono fun _ _ h=>postSb_is ER.out h).mono ?_
  rintro e w1 ⟨ux,Sx,rfl,ox,lx,b1⟩
  obtain ⟨Ax,cx,rfl⟩:=ownS_form ox.here
  have bb1:=Below.next bb0 b1
  replace kr:=kr.below b1
  replace ko:=ko.below b1
  replace kp:=kp.below b1
  have kx:=box_new (w1) #[.bool X.1,.slice Ax X.2.length cx] 32
  have alx:=below_al (Below.refl (w1).heap.size (w1)) (.cells #[.bool X.1,.slice Ax X.2.length cx] 32)
  have bbx:=Below.next bb1 alx
  replace kr:=kr.below alx
  replace ko:=ko.below alx
  replace kp:=kp.below alx
  replace ox:=ox.below alx
  have kx_c0:=kx.here.cell 0 _ rfl
  have kx_c1:=kx.here.cell 1 _ rfl
  go_wp2_with fail
  clear kx_c0 kx_c1
  refine ((specRatInt_any _ X _ zX ox.here).mono fun _ _ h=>postQb_is EM.out h).mono ?_
  rintro e w2 ⟨uy,Sy,rfl,oy,ly,b2⟩
  obtain ⟨Ay,cy,By,dy,rfl⟩:=ownQ_form oy.here
  have bb2:=Below.next bbx b2
  replace kr:=kr.below b2
  replace ko:=ko.below b2
  replace kp:=kp.below b2
  replace ox:=ox.below b2
  replace kx:=kx.below b2
  have ky:=box_new (w2) #[.bool Y.1.1,.slice Ay Y.1.2.length cy,.slice By Y.2.length dy] 36
  have aly:=below_al (Below.refl (w2).heap.size (w2)) (.cells #[.bool Y.1.1,.slice Ay Y.1.2.length cy,.slice By Y.2.length dy] 36)
  have bby:=Below.next bb2 aly
  replace kr:=kr.below aly
  replace ko:=ko.below aly
  replace kp:=kp.below aly
  replace ox:=ox.below aly
  replace kx:=kx.below aly
  replace oy:=oy.below aly
  have kr_c0:=kr.here.cell 0 _ rfl
  have kr_c1:=kr.here.cell 1 _ rfl
  have kr_c2:=kr.here.cell 2 _ rfl
  have ky_c0:=ky.here.cell 0 _ rfl
  have ky_c1:=ky.here.cell 1 _ rfl
  have ky_c2:=ky.here.cell 2 _ rfl
  go_wp2_with fail
  clear kr_c0 kr_c1 kr_c2 ky_c0 ky_c1 ky_c2
  refine ((specRatSub_any _ _ r Y _ hz zY (OQr.out _ bby) oy.here).mono fun _ _ h=>postQb_is ES.out h).mono ?_
  rintro e w3 ⟨uz,Sz,rfl,oz,lz,b3⟩
  obtain ⟨Az,cz,Bz,dz,rfl⟩:=ownQ_form oz.here
  have bb3:=Below.next bby b3
  replace kr:=kr.below b3
  replace ko:=ko.below b3
  replace kp:=kp.below b3
  replace ox:=ox.below b3
  replace kx:=kx.below b3
  replace oy:=oy.below b3
  replace ky:=ky.below b3
  have kz:=box_new (w3) #[.bool Z.1.1,.slice Az Z.1.2.length cz,.slice Bz Z.2.length dz] 36
  have alz:=below_al (Below.refl (w3).heap.size (w3)) (.cells #[.bool Z.1.1,.slice Az Z.1.2.length cz,.slice Bz Z.2.length dz] 36)
  have bbz:=Below.next bb3 alz
  replace kr:=kr.below alz
  replace ko:=ko.below alz
  replace kp:=kp.below alz
  replace ox:=ox.below alz
  replace kx:=kx.below alz
  replace oy:=oy.below alz
  replace ky:=ky.below alz
  replace oz:=oz.below alz
  have z1:=b1.size
  have z2:=b2.size
  have z3:=b3.size
  have zx:=alx.size
  have zy:=aly.size
  have zz:=alz.size
  have HKX:=Lib.hid (kx.lt _ (List.mem_singleton.2 rfl))
  have HW:=Lib.hid (newSQb_at (b:=true) (r:=w.heap.size+1) (p:=w.heap.size+1+1) ox oz (within_up lx (Nat.le_refl _) (Nat.le_trans zx (Nat.le_trans z2 (Nat.le_trans zy (Nat.le_trans z3 zz))))) (within_up lz (Nat.le_refl _) zz) (Within.apart lx lz (.inl (Nat.le_trans zx (Nat.le_trans z2 zy)))) HKP.out (Nat.lt_of_lt_of_le HKP.out (Nat.le_trans z1 (Nat.le_trans zx (Nat.le_trans z2 zy)))) (by omega) (by omega) (by omega) bbz)
  have hs1:=HKP.out
  have hs2:=Nat.lt_of_lt_of_le HKP.out z1
  have hs3:=Nat.lt_of_lt_of_le hs2 (Nat.le_trans zx (Nat.le_trans z2 (Nat.le_trans zy z3)))
  have hn_w1_1:¬ w1.heap.size = w.heap.size+1:=by omega
  have hn_w1_1':¬ w.heap.size+1 = w1.heap.size:=by omega
  have hn_w1_2:¬ w1.heap.size = w.heap.size+1+1:=by omega
  have hn_w1_2':¬ w.heap.size+1+1 = w1.heap.size:=by omega
  have hn_w3_1:¬ w3.heap.size = w.heap.size+1:=by omega
  have hn_w3_1':¬ w.heap.size+1 = w3.heap.size:=by omega
  have hn_w3_2:¬ w3.heap.size = w.heap.size+1+1:=by omega
  have hn_w3_2':¬ w.heap.size+1+1 = w3.heap.size:=by omega
  clear hs1 hs2 hs3
  have cko0:=ko.here.cell 0 _ rfl
  have cko1:=ko.here.cell 1 _ rfl
  have fko0:=Lib.frozen_of_heap ko.here 0
  have fko1:=Lib.frozen_of_heap ko.here 1
  have ckp0:=kp.here.cell 0 _ rfl
  have ckp1:=kp.here.cell 1 _ rfl
  have ckp2:=kp.here.cell 2 _ rfl
  have fkp0:=Lib.frozen_of_heap kp.here 0
  have fkp1:=Lib.frozen_of_heap kp.here 1
  have fkp2:=Lib.frozen_of_heap kp.here 2
  have ckx0:=kx.here.cell 0 _ rfl
  have ckx1:=kx.here.cell 1 _ rfl
  have ckz0:=kz.here.cell 0 _ rfl
  have ckz1:=kz.here.cell 1 _ rfl
  have ckz2:=kz.here.cell 2 _ rfl
  clear ox oy oz ko kp kr kx ky kz z1 z2 z3 zx zy zz lx ly lz
  go_wp2_with fail
  go_region
  all_goals (go_wp2;refine bodyPost_ret (v:=.tuple #[.agg #[.bool X.1,.slice Ax X.2.length cx],.agg #[.bool Z.1.1,.slice Az Z.1.2.length cz,.slice Bz Z.2.length dz],.bool true]) (by simp [results,Tryz.results46,go_sem,cko0,cko1,ckp0,ckp1,ckp2]) rfl ?_)
  all_goals (rw [HV.out.1,HV.out.2.1,HV.out.2.2];refine HW.out _ ?_;repeat (first | exact Chg.refl _ _ | refine Chg.setCell ?_ (by simp) _ | refine Chg.drew1 ?_))
 ·obtain ⟨r1,r2,r3,r4⟩:=rest_none hb
  have ER:=Lib.hid (show roundR r m = (X,false) by rw [r1,← hX,r1])
  have HV:=Lib.hid (show restS r m = zeroS∧restQ r m = zeroQ∧restB r m = false from ⟨r3,r4,r2⟩)
  obtain ⟨by_,hby⟩:∃ b,(makeQ X (ofZ 1)).2 = b:=⟨_,rfl⟩
  obtain ⟨bz_,hbz⟩:∃ b,(subQ r Y).2 = b:=⟨_,rfl⟩
  have EM:=Lib.hid (show makeQ X (ofZ 1) = (Y,by_) by rw [← hY,← hby])
  have ES:=Lib.hid (show subQ r Y = (Z,bz_) by rw [← hZ,← hbz])
  clear hby hbz
  clear hX hY hZ r1 r2 r3 r4 hb
  go_enter Tryz.func46,Tryz.ntmps46
  have kr_c0:=kr.here.cell 0 _ rfl
  have kr_c1:=kr.here.cell 1 _ rfl
  have kr_c2:=kr.here.cell 2 _ rfl
  go_wp2_with fail
  clear kr_c0 kr_c1 kr_c2
  refine ((specRatRound_any _ r m _ hz (OQr.out _ bb0)).mono fun _ _ h=>postSb_is ER.out h).mono ?_
  rintro e w1 ⟨ux,Sx,rfl,ox,lx,b1⟩
  obtain ⟨Ax,cx,rfl⟩:=ownS_form ox.here
  have bb1:=Below.next bb0 b1
  replace kr:=kr.below b1
  replace ko:=ko.below b1
  replace kp:=kp.below b1
  have kx:=box_new (w1) #[.bool X.1,.slice Ax X.2.length cx] 32
  have alx:=below_al (Below.refl (w1).heap.size (w1)) (.cells #[.bool X.1,.slice Ax X.2.length cx] 32)
  have bbx:=Below.next bb1 alx
  replace kr:=kr.below alx
  replace ko:=ko.below alx
  replace kp:=kp.below alx
  replace ox:=ox.below alx
  have kx_c0:=kx.here.cell 0 _ rfl
  have kx_c1:=kx.here.cell 1 _ rfl
  go_wp2_with fail
  clear kx_c0 kx_c1
  refine ((specRatInt_any _ X _ zX ox.here).mono fun _ _ h=>postQb_is EM.out h).mono ?_
  rintro e w2 ⟨uy,Sy,rfl,oy,ly,b2⟩
  obtain ⟨Ay,cy,By,dy,rfl⟩:=ownQ_form oy.here
  have bb2:=Below.next bbx b2
  replace kr:=kr.below b2
  replace ko:=ko.below b2
  replace kp:=kp.below b2
  replace ox:=ox.below b2
  replace kx:=kx.below b2
  have ky:=box_new (w2) #[.bool Y.1.1,.slice Ay Y.1.2.length cy,.slice By Y.2.length dy] 36
  have aly:=below_al (Below.refl (w2).heap.size (w2)) (.cells #[.bool Y.1.1,.slice Ay Y.1.2.length cy,.slice By Y.2.length dy] 36)
  have bby:=Below.next bb2 aly
  replace kr:=kr.below aly
  replace ko:=ko.below aly
  replace kp:=kp.below aly
  replace ox:=ox.below aly
  replace kx:=kx.below aly
  replace oy:=oy.below aly
  have kr_c0:=kr.here.cell 0 _ rfl
  have kr_c1:=kr.here.cell 1 _ rfl
  have kr_c2:=kr.here.cell 2 _ rfl
  have ky_c0:=ky.here.cell 0 _ rfl
  have ky_c1:=ky.here.cell 1 _ rfl
  have ky_c2:=ky.here.cell 2 _ rfl
  go_wp2_with fail
  clear kr_c0 kr_c1 kr_c2 ky_c0 ky_c1 ky_c2
  refine ((specRatSub_any _ _ r Y _ hz zY (OQr.out _ bby) oy.here).mono fun _ _ h=>postQb_is ES.out h).mono ?_
  rintro e w3 ⟨uz,Sz,rfl,oz,lz,b3⟩
  obtain ⟨Az,cz,Bz,dz,rfl⟩:=ownQ_form oz.here
  have bb3:=Below.next bby b3
  replace kr:=kr.below b3
  replace ko:=ko.below b3
  replace kp:=kp.below b3
  replace ox:=ox.below b3
  replace kx:=kx.below b3
  replace oy:=oy.below b3
  replace ky:=ky.below b3
  have kz:=box_new (w3) #[.bool Z.1.1,.slice Az Z.1.2.length cz,.slice Bz Z.2.length dz] 36
  have alz:=below_al (Below.refl (w3).heap.size (w3)) (.cells #[.bool Z.1.1,.slice Az Z.1.2.length cz,.slice Bz Z.2.length dz] 36)
  have bbz:=Below.next bb3 alz
  replace kr:=kr.below alz
  replace ko:=ko.below alz
  replace kp:=kp.below alz
  replace ox:=ox.below alz
  replace kx:=kx.below alz
  replace oy:=oy.below alz
  replace ky:=ky.below alz
  replace oz:=oz.below alz
  have cko0:=ko.here.cell 0 _ rfl
  have fko0:=Lib.frozen_of_heap ko.here 0
  have cko1:=ko.here.cell 1 _ rfl
  have fko1:=Lib.frozen_of_heap ko.here 1
  have ckp0:=kp.here.cell 0 _ rfl
  have fkp0:=Lib.frozen_of_heap kp.here 0
  have ckp1:=kp.here.cell 1 _ rfl
  have fkp1:=Lib.frozen_of_heap kp.here 1
  have ckp2:=kp.here.cell 2 _ rfl
  have fkp2:=Lib.frozen_of_heap kp.here 2
  go_wp2
  refine bodyPost_ret (v:=.tuple #[.agg #[.bool false,.slice none 0 0],.agg #[.bool false,.slice none 0 0,.slice none 0 0],.bool false]) (by simp [results,Tryz.results46,go_sem,cko0,cko1,ckp0,ckp1,ckp2]) rfl ?_
  rw [HV.out.1,HV.out.2.1,HV.out.2.2]
  first | exact newSQb_zero bbz | exact newSQb_zero (below_set3 (below_set2 bbz (by omega)) (by omega))
set_option maxHeartbeats 4000000 in
theorem specRatMoney_any (cu:ByteArray) (vr:Value) (r:QI) (m:Int) (w:World) (hz:szQ r ≤ 1048576) (hr:OwnQ vr r w) :
 Calls Tryz.prog 24 #[.string cu,vr,.int .i64 m] w (PostMQb (rmM cu r m) (rmQ cu r m) (rmB cu r m) w):=by
 have Hr:=Lib.hid hr
 obtain ⟨Ar,cr,Br,dr,rfl⟩:=ownQ_form hr
 have OQr:=Lib.hid (show ∀ W,Below w.heap.size w W→OwnQ (.agg #[.bool r.1.1,.slice Ar r.1.2.length cr,.slice Br r.2.length dr]) r W from fun W hb=>OwnQ.below Hr.out hb)
 clear hr
 have bb0:Below w.heap.size w (((w.alloc (.cells #[.bool r.1.1,.slice Ar r.1.2.length cr,.slice Br r.2.length dr] 36)).alloc (.cells #[.string ⟨#[]⟩,.bool false,.slice none 0 0] 34)).alloc (.cells #[.bool false,.slice none 0 0,.slice none 0 0] 36)):=below_al (below_al (below_al (Below.refl _ _) _) _) _
 have kr:=(box_new w #[.bool r.1.1,.slice Ar r.1.2.length cr,.slice Br r.2.length dr] 36).below (below_al (below_al (Below.refl _ _) (.cells #[.string ⟨#[]⟩,.bool false,.slice none 0 0] 34)) (.cells #[.bool false,.slice none 0 0,.slice none 0 0] 36))
 have ko:=(box_new (w.alloc (.cells #[.bool r.1.1,.slice Ar r.1.2.length cr,.slice Br r.2.length dr] 36)) #[.string ⟨#[]⟩,.bool false,.slice none 0 0] 34).below (below_al (Below.refl _ _) (.cells #[.bool false,.slice none 0 0,.slice none 0 0] 36))
 rw [show (w.alloc (.cells #[.bool r.1.1,.slice Ar r.1.2.length cr,.slice Br r.2.length dr] 36)).heap.size = w.heap.size+1 by simp] at ko
 have kp:=(box_new ((w.alloc (.cells #[.bool r.1.1,.slice Ar r.1.2.length cr,.slice Br r.2.length dr] 36)).alloc (.cells #[.string ⟨#[]⟩,.bool false,.slice none 0 0] 34)) #[.bool false,.slice none 0 0,.slice none 0 0] 36)
 rw [show ((w.alloc (.cells #[.bool r.1.1,.slice Ar r.1.2.length cr,.slice Br r.2.length dr] 36)).alloc (.cells #[.string ⟨#[]⟩,.bool false,.slice none 0 0] 34)).heap.size = w.heap.size+1+1 by simp] at kp
 have HKO:=Lib.hid (ko.lt (w.heap.size+1) (by simp))
 have HKP:=Lib.hid (kp.lt (w.heap.size+1+1) (by simp))
 have hzX:(restS r m).2.length ≤ 1048576:=restS_len r m
 obtain ⟨X,hX⟩:∃ X,restS r m = X:=⟨_,rfl⟩
 obtain ⟨Y,hY⟩:∃ Y,restQ r m = Y:=⟨_,rfl⟩
 obtain ⟨rb,hrb⟩:∃ b,restB r m = b:=⟨_,rfl⟩
 obtain ⟨⟨Q,qb⟩,hQ⟩:∃ Q,makeM cu X = Q:=⟨_,rfl⟩
 have EX:=Lib.hid hX
 have EY:=Lib.hid hY
 have EQ:=Lib.hid hQ
 have EG:=Lib.hid (show rb = true→qb = true→rmM cu r m = Q∧rmQ cu r m = Y∧rmB cu r m = true from fun h1 h2=>by have h:=rm_good (cu:=cu) (r:=r) (m:=m) (by rw [hrb];exact h1) (by rw [hX,hQ];exact h2);rw [hX,hQ,hY] at h;exact h)
 have EB:=Lib.hid (show rb = false ∨ qb = false→rmM cu r m = zeroM∧rmQ cu r m = zeroQ∧rmB cu r m = false from fun h=>rm_bad (by rw [hrb,hX,hQ];exact h))
 have ER:=Lib.hid hrb
 rw [hX] at hzX
 clear hX hY hrb hQ
 generalize rmM cu r m = RM at *
 generalize rmQ cu r m = RQ at *
 generalize rmB cu r m = RB at *
 go_enter Tryz.func24,Tryz.ntmps24
 have kr_c0:=kr.here.cell 0 _ rfl
 have kr_c1:=kr.here.cell 1 _ rfl
 have kr_c2:=kr.here.cell 2 _ rfl
 go_wp2_with fail
 clear kr_c0 kr_c1 kr_c2
 refine ((specRatRest_any _ r m _ hz (OQr.out _ bb0)).mono fun _ _ h=>postSQb_isM EX.out EY.out ER.out h).mono ?_
 rintro e w1 ⟨ux,uy,Sx,Sy,rfl,ox,oy,hap,lx,ly,b1⟩
 obtain ⟨Ax,cx,rfl⟩:=ownS_form ox.here
 obtain ⟨Ay,cy,By,dy,rfl⟩:=ownQ_form oy.here
 have bb1:=Below.next bb0 b1
 replace kr:=kr.below b1
 replace ko:=ko.below b1
 replace kp:=kp.below b1
 have kx:=box_new (w1) #[.bool X.1,.slice Ax X.2.length cx] 32
 have alx:=below_al (Below.refl (w1).heap.size (w1)) (.cells #[.bool X.1,.slice Ax X.2.length cx] 32)
 have bbx:=Below.next bb1 alx
 replace kr:=kr.below alx
 replace ko:=ko.below alx
 replace kp:=kp.below alx
 replace ox:=ox.below alx
 replace oy:=oy.below alx
 have ky:=box_new ((w1.alloc (.cells #[.bool X.1,.slice Ax X.2.length cx] 32))) #[.bool Y.1.1,.slice Ay Y.1.2.length cy,.slice By Y.2.length dy] 36
 have aly:=below_al (Below.refl ((w1.alloc (.cells #[.bool X.1,.slice Ax X.2.length cx] 32))).heap.size ((w1.alloc (.cells #[.bool X.1,.slice Ax X.2.length cx] 32)))) (.cells #[.bool Y.1.1,.slice Ay Y.1.2.length cy,.slice By Y.2.length dy] 36)
 have bby:=Below.next bbx aly
 replace kr:=kr.below aly
 replace ko:=ko.below aly
 replace kp:=kp.below aly
 replace ox:=ox.below aly
 replace oy:=oy.below aly
 replace kx:=kx.below aly
 have kx_c0:=kx.here.cell 0 _ rfl
 have kx_c1:=kx.here.cell 1 _ rfl
 go_wp2_with fail
 clear kx_c0 kx_c1
 refine ((l09Make_any cu _ X _ _ hzX ox).mono fun _ _ h=>keptM_eq EQ.out h).mono ?_
 rintro e w2 ⟨um,Sm,rfl,om,sm,b2⟩
 obtain ⟨Am,cm,rfl⟩:=ownM_form om.here
 have bb2:=Below.next bby b2
 replace kr:=kr.below b2
 replace ko:=ko.below b2
 replace kp:=kp.below b2
 replace ox:=ox.below b2
 replace oy:=oy.below b2
 replace kx:=kx.below b2
 replace ky:=ky.below b2
 have km:=box_new (w2) #[.string Q.1,.bool Q.2.1,.slice Am Q.2.2.length cm] 34
 have alm:=below_al (Below.refl (w2).heap.size (w2)) (.cells #[.string Q.1,.bool Q.2.1,.slice Am Q.2.2.length cm] 34)
 have bbm:=Below.next bb2 alm
 replace kr:=kr.below alm
 replace ko:=ko.below alm
 replace kp:=kp.below alm
 replace ox:=ox.below alm
 replace oy:=oy.below alm
 replace kx:=kx.below alm
 replace ky:=ky.below alm
 replace om:=om.below alm
 cases rb with
 | false =>
   have HV:=Lib.hid (EB.out (.inl rfl))
   have cko0:=ko.here.cell 0 _ rfl
   have fko0:=Lib.frozen_of_heap ko.here 0
   have cko1:=ko.here.cell 1 _ rfl
   have fko1:=Lib.frozen_of_heap ko.here 1
   have cko2:=ko.here.cell 2 _ rfl
   have fko2:=Lib.frozen_of_heap ko.here 2
   have ckp0:=kp.here.cell 0 _ rfl
   have fkp0:=Lib.frozen_of_heap kp.here 0
   have ckp1:=kp.here.cell 1 _ rfl
   have fkp1:=Lib.frozen_of_heap kp.here 1
   have ckp2:=kp.here.cell 2 _ rfl
   have fkp2:=Lib.frozen_of_heap kp.here 2
   clear ox oy om ko kp kr kx ky km lx ly sm hap
   go_wp2
   refine bodyPost_ret (v:=.tuple #[.agg #[.string ⟨#[]⟩,.bool false,.slice none 0 0],.agg #[.bool false,.slice none 0 0,.slice none 0 0],.bool false]) (by simp [results,Tryz.results24,go_sem,cko0,cko1,cko2,ckp0,ckp1,ckp2]) rfl ?_
   rw [HV.out.1,HV.out.2.1,HV.out.2.2]
   have hle1:w.heap.size ≤ w.heap.size+1:=by omega
   have hle2:w.heap.size ≤ w.heap.size+1+1:=by omega
   first | with_reducible exact newMQb_zero (below_set3 (below_set3 bbm hle1) hle2) | with_reducible exact newMQb_zero bbm
 | true =>
   cases qb with
   | false =>
     have HV:=Lib.hid (EB.out (.inr rfl))
     have cko0:=ko.here.cell 0 _ rfl
     have fko0:=Lib.frozen_of_heap ko.here 0
     have cko1:=ko.here.cell 1 _ rfl
     have fko1:=Lib.frozen_of_heap ko.here 1
     have cko2:=ko.here.cell 2 _ rfl
     have fko2:=Lib.frozen_of_heap ko.here 2
     have ckp0:=kp.here.cell 0 _ rfl
     have fkp0:=Lib.frozen_of_heap kp.here 0
     have ckp1:=kp.here.cell 1 _ rfl
     have fkp1:=Lib.frozen_of_heap kp.here 1
     have ckp2:=kp.here.cell 2 _ rfl
     have fkp2:=Lib.frozen_of_heap kp.here 2
     clear ox oy om ko kp kr kx ky km lx ly sm hap
     go_wp2
     refine bodyPost_ret (v:=.tuple #[.agg #[.string ⟨#[]⟩,.bool false,.slice none 0 0],.agg #[.bool false,.slice none 0 0,.slice none 0 0],.bool false]) (by simp [results,Tryz.results24,go_sem,cko0,cko1,cko2,ckp0,ckp1,ckp2]) rfl ?_
     rw [HV.out.1,HV.out.2.1,HV.out.2.2]
     have hle1:w.heap.size ≤ w.heap.size+1:=by omega
     have hle2:w.heap.size ≤ w.heap.size+1+1:=by omega
     first | with_reducible exact newMQb_zero (below_set3 (below_set3 bbm hle1) hle2) | with_reducible exact newMQb_zero bbm
   | true =>
     have HV:=Lib.hid (EG.out rfl rfl)
     have z1:=b1.size
     have z2:=b2.size
     have zx:=alx.size
     have zy:=aly.size
     have zm:=alm.size
     have e1:(w1.alloc (.cells #[.bool X.1,.slice Ax X.2.length cx] 32)).heap.size = w1.heap.size+1:=by simp
     have e2:((w1.alloc (.cells #[.bool X.1,.slice Ax X.2.length cx] 32)).alloc (.cells #[.bool Y.1.1,.slice Ay Y.1.2.length cy,.slice By Y.2.length dy] 36)).heap.size = w1.heap.size+1+1:=by simp
     have hko:=HKO.out
     have hkp:=HKP.out
     have HW:=Lib.hid (newMQb_at (b:=true) (r:=w.heap.size+1) (p:=w.heap.size+1+1) om oy (B:=w.heap.size+3) (C:=w.heap.size+3) (fun i hi=>⟨by have:=(lx i (sm i hi)).1;simp at this;omega,om.lt i hi⟩) (fun i hi=>⟨by have:=(ly i hi).1;simp at this;omega,oy.lt i hi⟩) (fun i hi=>hap i (sm i hi)) (by omega) (by omega) (by omega) (by omega) (by omega) bbm)
     have hw1:w.heap.size+3 ≤ w1.heap.size:=by simp at z1;omega
     have hw2:w1.heap.size+2 ≤ w2.heap.size:=by rw [e2] at z2;omega
     have hn_w1_1:¬ w1.heap.size = w.heap.size+1:=by omega
     have hn_w1_1':¬ w.heap.size+1 = w1.heap.size:=by omega
     have hn_w1_2:¬ w1.heap.size = w.heap.size+1+1:=by omega
     have hn_w1_2':¬ w.heap.size+1+1 = w1.heap.size:=by omega
     have hn_w2_1:¬ w2.heap.size = w.heap.size+1:=by omega
     have hn_w2_1':¬ w.heap.size+1 = w2.heap.size:=by omega
     have hn_w2_2:¬ w2.heap.size = w.heap.size+1+1:=by omega
     have hn_w2_2':¬ w.heap.size+1+1 = w2.heap.size:=by omega
     have hn_y_1:¬ w1.heap.size+1 = w.heap.size+1:=by omega
     have hn_y_1':¬ w.heap.size+1 = w1.heap.size+1:=by omega
     have hn_y_2:¬ w1.heap.size+1 = w.heap.size+1+1:=by omega
     have hn_y_2':¬ w.heap.size+1+1 = w1.heap.size+1:=by omega
     rw [e1] at ky
     have cko0:=ko.here.cell 0 _ rfl
     have fko0:=Lib.frozen_of_heap ko.here 0
     have cko1:=ko.here.cell 1 _ rfl
     have fko1:=Lib.frozen_of_heap ko.here 1
     have cko2:=ko.here.cell 2 _ rfl
     have fko2:=Lib.frozen_of_heap ko.here 2
     have ckp0:=kp.here.cell 0 _ rfl
     have fkp0:=Lib.frozen_of_heap kp.here 0
     have ckp1:=kp.here.cell 1 _ rfl
     have fkp1:=Lib.frozen_of_heap kp.here 1
     have ckp2:=kp.here.cell 2 _ rfl
     have fkp2:=Lib.frozen_of_heap kp.here 2
     have ckm0:=km.here.cell 0 _ rfl
     have ckm1:=km.here.cell 1 _ rfl
     have ckm2:=km.here.cell 2 _ rfl
     have cky0:=ky.here.cell 0 _ rfl
     have cky1:=ky.here.cell 1 _ rfl
     have cky2:=ky.here.cell 2 _ rfl
     clear ox oy om ko kp kr kx ky km lx ly sm hap z1 z2 zx zy zm e1 e2 hko hkp hw1 hw2
     go_wp2_with fail
     go_region
     all_goals (go_wp2;refine bodyPost_ret (v:=.tuple #[.agg #[.string Q.1,.bool Q.2.1,.slice Am Q.2.2.length cm],.agg #[.bool Y.1.1,.slice Ay Y.1.2.length cy,.slice By Y.2.length dy],.bool true]) (by simp [results,Tryz.results24,go_sem,cko0,cko1,cko2,ckp0,ckp1,ckp2]) rfl ?_)
     all_goals (rw [HV.out.1,HV.out.2.1,HV.out.2.2];refine HW.out _ ?_;repeat (first | with_reducible exact Chg.refl _ _ | with_reducible refine Chg.drew1 ?_ | with_reducible refine Chg.setCell ?_ (by simp) _))
end Go.Proofs.YtipbdpdmefcofabGreatDoor
