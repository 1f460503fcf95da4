import Derived.Deep.RegionHeld3
import Derived.Deep.DeepCutAuto
import Derived.Laws.OwnMore
import Derived.Lib.Builder
import Derived.Lib.SliceRun
import Derived.Test.YtehkknphcflofaaGreatDoorJS4
set_option maxRecDepth 100000
namespace Go.Proofs.YtehkknphcflofaaGreatDoor
open Go.RowKit
theorem ownS_open {u c:Value} {x:SI} {w:World} (h:OwnS (.agg #[c,u]) x w):OwnI u x.2 w:=by
 obtain ⟨u',e,hu⟩:=h
 injection e with e
 simp at e
 obtain ⟨_,e2⟩:=e
 subst e2
 exact hu
theorem OwnS.below {w W:World} {v:Value} {x:SI} (h:OwnS v x w) (hb:Below w.heap.size w W):OwnS v x W:=by
 obtain ⟨u,rfl,o⟩:=h
 exact ⟨u,rfl,own_below o hb⟩
theorem one_szS:szS (ofZ 1) ≤ 1048576:=by have:=ofZ_len 1;unfold szS szI;omega
theorem postQb_eq {q Q:QI × Bool} (e:q = Q) {w w':World} {n:Ending} (h:PostQb q.1 q.2 w n w'):PostQb Q.1 Q.2 w n w':=by rw [← e];exact h
theorem postn_eq {z z':Int} (e:z = z') {w w':World} {n:Ending} (h:Postn z w n w'):Postn z' w n w':=by rw [← e];exact h
theorem newQ_ret {r:Nat} {u d c0 c1 c2:Value} {x:QI} {w W:World} {B C:Nat} (hb:BoxAt r #[c0,c1,c2] 36 W) (o:W.ownsRow B 3 1 u x.1.2.length (intsV x.1.2)) (p:W.ownsRow C 3 1 d x.2.length (intsV x.2))
 (hap:∀ g,u.ownBlock = some g→d.ownBlock ≠ some g) (hB:w.heap.size ≤ B) (hC:w.heap.size ≤ C) (hr:w.heap.size ≤ r) (hW:Below w.heap.size w W) :
 NewV (fun v=>OwnQ v x) w (.returned (.agg #[.bool x.1.1,u,d])) (((W.setCell ⟨r,0,none⟩ (.bool x.1.1)).setCell ⟨r,1,none⟩ u).setCell ⟨r,2,none⟩ d):=by
 obtain ⟨v,S,e,k1,k2,k3⟩:=newQb_ret (b:=true) hb o p hap hB hC hr hW
 refine ⟨v,S,?_,k1,k2,k3⟩
 injection e with e
 injection e with e
 simp at e
 rw [e]
theorem OwnQ.below {w W:World} {v:Value} {x:QI} (h:OwnQ v x w) (hb:Below w.heap.size w W):OwnQ v x W:=by
 obtain ⟨u,d,rfl,o,p,hap⟩:=h
 exact ⟨u,d,rfl,own_below o hb,own_below p hb,hap⟩
set_option maxHeartbeats 2000000 in
theorem specRatMul_any (vr:Value) (vs:Value) (r s:QI) (w:World) (hzr:szQ r ≤ 1048576) (hzs:szQ s ≤ 1048576) (hr:OwnQ vr r w) (hs:OwnQ vs s w) :
 Calls Tryz.prog 117 #[vr,vs] w (PostQb (mulQ r s).1 (mulQ r s).2 w):=by
 have Hr:=Lib.hid hr
 obtain ⟨Ar,cr,Br,dr,rfl⟩:=ownQ_form hr
 have OQr:=Lib.hid (show ∀ W,Below w.heap.size w W→OwnQ (.agg #[.bool r.1.1,.slice Ar r.1.2.length cr,.slice Br r.2.length dr]) r W from fun W hb=>OwnQ.below Hr.out hb)
 have OUr:=Lib.hid (show ∀ W,Below w.heap.size w W→OwnI (.slice Ar r.1.2.length cr) r.1.2 W from fun W hb=>(ownQ_open (OQr.out W hb)).2.1)
 have ODr:=Lib.hid (show ∀ W,Below w.heap.size w W→OwnI (.slice Br r.2.length dr) r.2 W from fun W hb=>(ownQ_open (OQr.out W hb)).2.2.1)
 have OSr:=Lib.hid (show ∀ W,Below w.heap.size w W→OwnS (.agg #[.bool r.1.1,.slice Ar r.1.2.length cr]) r.1 W from fun W hb=>OwnS.mk (OUr.out W hb))
 clear hr
 have Hs:=Lib.hid hs
 obtain ⟨As,cs,Bs,ds,rfl⟩:=ownQ_form hs
 have OQs:=Lib.hid (show ∀ W,Below w.heap.size w W→OwnQ (.agg #[.bool s.1.1,.slice As s.1.2.length cs,.slice Bs s.2.length ds]) s W from fun W hb=>OwnQ.below Hs.out hb)
 have OUs:=Lib.hid (show ∀ W,Below w.heap.size w W→OwnI (.slice As s.1.2.length cs) s.1.2 W from fun W hb=>(ownQ_open (OQs.out W hb)).2.1)
 have ODs:=Lib.hid (show ∀ W,Below w.heap.size w W→OwnI (.slice Bs s.2.length ds) s.2 W from fun W hb=>(ownQ_open (OQs.out W hb)).2.2.1)
 have OSs:=Lib.hid (show ∀ W,Below w.heap.size w W→OwnS (.agg #[.bool s.1.1,.slice As s.1.2.length cs]) s.1 W from fun W hb=>OwnS.mk (OUs.out W hb))
 clear hs
 have hlr:=szQ_len hzr
 have hl1r:=hlr.1
 have hl2r:=hlr.2
 clear hlr
 have hls:=szQ_len hzs
 have hl1s:=hls.1
 have hl2s:=hls.2
 clear hls
 have bb0:Below w.heap.size w (((w.alloc (.cells #[.bool r.1.1,.slice Ar r.1.2.length cr,.slice Br r.2.length dr] 36)).alloc (.cells #[.bool s.1.1,.slice As s.1.2.length cs,.slice Bs s.2.length ds] 36)).alloc (.cells #[.bool false,.slice none 0 0,.slice none 0 0] 36)):=below_al (below_al (below_al (Below.refl _ _) _) _) _
 have kr:=(box_new w #[.bool r.1.1,.slice Ar r.1.2.length cr,.slice Br r.2.length dr] 36).below (below_al (below_al (Below.refl _ _) (.cells #[.bool s.1.1,.slice As s.1.2.length cs,.slice Bs s.2.length ds] 36)) (.cells #[.bool false,.slice none 0 0,.slice none 0 0] 36))
 have ks:=(box_new (w.alloc (.cells #[.bool r.1.1,.slice Ar r.1.2.length cr,.slice Br r.2.length dr] 36)) #[.bool s.1.1,.slice As s.1.2.length cs,.slice Bs s.2.length ds] 36).below (below_al (Below.refl _ _) (.cells #[.bool false,.slice none 0 0,.slice none 0 0] 36))
 rw [show (w.alloc (.cells #[.bool r.1.1,.slice Ar r.1.2.length cr,.slice Br r.2.length dr] 36)).heap.size = w.heap.size+1 by simp] at ks
 have ko:=(box_new ((w.alloc (.cells #[.bool r.1.1,.slice Ar r.1.2.length cr,.slice Br r.2.length dr] 36)).alloc (.cells #[.bool s.1.1,.slice As s.1.2.length cs,.slice Bs s.2.length ds] 36)) #[.bool false,.slice none 0 0,.slice none 0 0] 36)
 rw [show ((w.alloc (.cells #[.bool r.1.1,.slice Ar r.1.2.length cr,.slice Br r.2.length dr] 36)).alloc (.cells #[.bool s.1.1,.slice As s.1.2.length cs,.slice Bs s.2.length ds] 36)).heap.size = w.heap.size+1+1 by simp] at ko
 go_enter Tryz.func117,Tryz.ntmps117
 have kr_c0:=kr.here.cell 0 _ rfl
 have kr_c1:=kr.here.cell 1 _ rfl
 have kr_c2:=kr.here.cell 2 _ rfl
 go_wp2_with fail
 clear kr_c0 kr_c1 kr_c2
 refine (specRatOk_any _ r _ hzr (OQr.out _ bb0)).mono ?_
 rintro e w1 ⟨rfl,b1⟩
 have bb1:=Below.next bb0 b1
 replace kr:=kr.below b1
 replace ks:=ks.below b1
 replace ko:=ko.below b1
 by_cases okr:okQ r = true
 ·rw [okr]
  have HOr:=Lib.hid okr
  clear okr
  have ks_c0:=ks.here.cell 0 _ rfl
  have ks_c1:=ks.here.cell 1 _ rfl
  have ks_c2:=ks.here.cell 2 _ rfl
  go_wp2_with fail
  clear ks_c0 ks_c1 ks_c2
  refine (specRatOk_any _ s _ hzs (OQs.out _ bb1)).mono ?_
  rintro e w2 ⟨rfl,b2⟩
  have bb2:=Below.next bb1 b2
  replace kr:=kr.below b2
  replace ks:=ks.below b2
  replace ko:=ko.below b2
  by_cases oks:okQ s = true
  ·rw [oks]
   have HOs:=Lib.hid oks
   clear oks
   have Pr:=parts_of HOr.out
   have Ps:=parts_of HOs.out
   have HPr:=Lib.hid Pr
   have HPs:=Lib.hid Ps
   have hnr:=Pr.n50
   have hns:=Ps.n50
   have hdr:=Pr.d50
   have hds:=Ps.d50
   have z0:=bb2.size
   have hko:=ko.lt (w.heap.size+1+1) (by simp)
   have H1:=Lib.hid (show (limbs (nval (r.1.2) * nval (s.1.2)).toNat).length ≤ 50 by rw [mul_toNat (okS_parts HPr.out.okn).1 (okS_parts HPs.out.okn).1];exact Nat.le_trans (prod_len HPr.out.nlt HPs.out.nlt) (by decide))
   have H2:=Lib.hid (show (limbs (nval (r.2) * nval (s.2)).toNat).length ≤ 50 by rw [mul_toNat HPr.out.okd HPs.out.okd];exact Nat.le_trans (prod_len HPr.out.dlt HPs.out.dlt) (by decide))
   have HV:=Lib.hid (show mulQ r s = lowQ (!(r.1.1 == s.1.1)) (nval (r.1.2) * nval (s.1.2)).toNat (nval (r.2) * nval (s.2)).toNat by unfold mulQ;rw [if_pos ⟨HOr.out,HOs.out⟩,mul_toNat (okS_parts HPr.out.okn).1 (okS_parts HPs.out.okn).1,mul_toNat HPr.out.okd HPs.out.okd];rfl)
   clear Pr Ps
   have kr_c0:=kr.here.cell 0 _ rfl
   have kr_c1:=kr.here.cell 1 _ rfl
   have kr_c2:=kr.here.cell 2 _ rfl
   have ks_c0:=ks.here.cell 0 _ rfl
   have ks_c1:=ks.here.cell 1 _ rfl
   have ks_c2:=ks.here.cell 2 _ rfl
   go_wp2_with fail
   have HC0:=Lib.hid (show Chg [w.heap.size+1+1] w2 w2.drew from (Chg.refl _ _).drew1)
   have HCr:=Lib.hid (show Chg [w.heap.size+1+1] w2 w2 from Chg.refl _ _)
   have KL:=Lib.hid (show ∀ W,Chg [w.heap.size+1+1] w2 W→W.cell? ⟨w.heap.size,0,none⟩ = some (.bool r.1.1)∧W.cell? ⟨w.heap.size,1,none⟩ = some (.slice Ar r.1.2.length cr)∧W.cell? ⟨w.heap.size,2,none⟩ = some (.slice Br r.2.length dr)∧W.cell? ⟨w.heap.size+1,0,none⟩ = some (.bool s.1.1)∧W.cell? ⟨w.heap.size+1,1,none⟩ = some (.slice As s.1.2.length cs)∧W.cell? ⟨w.heap.size+1,2,none⟩ = some (.slice Bs s.2.length ds)∧Hid (Chg [w.heap.size+1+1] w2 W) from fun W hc=>⟨(kr.chg hc (fun i hi hm=>by simp at hi hm;omega)).here.cell 0 _ rfl,(kr.chg hc (fun i hi hm=>by simp at hi hm;omega)).here.cell 1 _ rfl,(kr.chg hc (fun i hi hm=>by simp at hi hm;omega)).here.cell 2 _ rfl,(ks.chg hc (fun i hi hm=>by simp at hi hm;omega)).here.cell 0 _ rfl,(ks.chg hc (fun i hi hm=>by simp at hi hm;omega)).here.cell 1 _ rfl,(ks.chg hc (fun i hi hm=>by simp at hi hm;omega)).here.cell 2 _ rfl,Lib.hid hc⟩)
   have BBF:=Lib.hid (show ∀ W,Chg [w.heap.size+1+1] w2 W→Below w.heap.size w W from fun W hc=>below_chg bb2 hc bb2.size (fun i hi=>by simp at hi;omega))
   clear kr_c0 kr_c1 kr_c2 ks_c0 ks_c1 ks_c2
   go_region_held3 (fun W=>W.cell? ⟨w.heap.size,0,none⟩ = some (.bool r.1.1)∧W.cell? ⟨w.heap.size,1,none⟩ = some (.slice Ar r.1.2.length cr)∧W.cell? ⟨w.heap.size,2,none⟩ = some (.slice Br r.2.length dr)∧W.cell? ⟨w.heap.size+1,0,none⟩ = some (.bool s.1.1)∧W.cell? ⟨w.heap.size+1,1,none⟩ = some (.slice As s.1.2.length cs)∧W.cell? ⟨w.heap.size+1,2,none⟩ = some (.slice Bs s.2.length ds)∧Hid (Chg [w.heap.size+1+1] w2 W))
    ((refine KL.out _ ?_;(first | exact HC5.out | exact HC4.out | exact HC3.out | exact HCr.out | exact HC0.out | exact HC5.out.drew1 | exact HC4.out.drew1 | exact HC3.out.drew1 | exact HCr.out.drew1 | exact HC0.out.drew1 | exact HC5.out.trans (Chg.of_below (below_al (Below.refl _ _) _)) | exact HC4.out.trans (Chg.of_below (below_al (Below.refl _ _) _)) | exact HC3.out.trans (Chg.of_below (below_al (Below.refl _ _) _)) | exact HCr.out.trans (Chg.of_below (below_al (Below.refl _ _) _)) | exact HC0.out.trans (Chg.of_below (below_al (Below.refl _ _) _)) | exact (Chg.setCell HC5.out (by simp) _) | exact (Chg.setCell (Chg.setCell HC5.out (by simp) _) (by simp) _) | exact (Chg.setCell (Chg.setCell (Chg.setCell HC5.out (by simp) _) (by simp) _) (by simp) _) | fail)))
    (first
      | (go_at_call 193;(have hBB:=(‹_∧_∧_∧_∧_∧_∧Hid (Chg [w.heap.size+1+1] w2 _)›).2.2.2.2.2.2);(with_reducible refine (specMulV_any _ _ (r.1.2) (s.1.2) 0 _ 0 _ _ (by omega) (by omega) (Nat.le_refl _) (Nat.le_refl _) (natOk_parts (okS_parts HPr.out.okn).1).1 (natOk_parts (okS_parts HPs.out.okn).1).1 (OUr.out _ (BBF.out _ hBB.out)).row (OUs.out _ (BBF.out _ hBB.out)).row).mono ?_);rintro e w3 ⟨ua,rfl,oa_,b3⟩;have HC3:=Lib.hid (hBB.out.trans (Chg.of_below b3));(have ko_3:=At.below (by first | exact ko | exact At.below ko (below_al (Below.refl _ _) _) | exact At.below (At.below ko (below_al (Below.refl _ _) _)) (below_al (Below.refl _ _) _) | exact At.move ko (fun _ _=>rfl) (Nat.le_refl _)) b3);have oa:=own_at' oa_;have HBZ3:=Lib.hid hBB.out.size;clear hBB)
      | (go_at_call 193;(have hBB:=(‹_∧_∧_∧_∧_∧_∧Hid (Chg [w.heap.size+1+1] w2 _)›).2.2.2.2.2.2);(with_reducible refine (specMulV_any _ _ (r.2) (s.2) 0 _ 0 _ _ (by omega) (by omega) (Nat.le_refl _) (Nat.le_refl _) (natOk_parts HPr.out.okd).1 (natOk_parts HPs.out.okd).1 (ODr.out _ (BBF.out _ hBB.out)).row (ODs.out _ (BBF.out _ hBB.out)).row).mono ?_);rintro e w4 ⟨ub,rfl,ob_,b4⟩;have HC4:=Lib.hid (hBB.out.trans (Chg.of_below b4));(have ko_4:=At.below (by first | exact ko_3 | exact At.below ko_3 (below_al (Below.refl _ _) _) | exact At.below (At.below ko_3 (below_al (Below.refl _ _) _)) (below_al (Below.refl _ _) _) | exact At.move ko_3 (fun _ _=>rfl) (Nat.le_refl _)) b4);(have oa_4:=At.below (by first | exact oa | exact At.below oa (below_al (Below.refl _ _) _) | exact At.below (At.below oa (below_al (Below.refl _ _) _)) (below_al (Below.refl _ _) _) | exact At.move oa (fun _ _=>rfl) (Nat.le_refl _)) b4);have ob:=own_at' ob_;have HBZ4:=Lib.hid hBB.out.size;clear hBB)
      | (go_at_call 192;(have hBB:=(‹_∧_∧_∧_∧_∧_∧Hid (Chg [w.heap.size+1+1] w2 _)›).2.2.2.2.2.2);(with_reducible refine (l05Low_any _ _ _ ((nval (r.1.2) * nval (s.1.2)).toNat) ((nval (r.2) * nval (s.2)).toNat) _ H1.out H2.out (At.here (by first | exact oa_4 | exact At.below oa_4 (below_al (Below.refl _ _) _) | exact At.below (At.below oa_4 (below_al (Below.refl _ _) _)) (below_al (Below.refl _ _) _) | exact At.move oa_4 (fun _ _=>rfl) (Nat.le_refl _))) (At.here (by first | exact ob | exact At.below ob (below_al (Below.refl _ _) _) | exact At.below (At.below ob (below_al (Below.refl _ _) _)) (below_al (Below.refl _ _) _) | exact At.move ob (fun _ _=>rfl) (Nat.le_refl _)))).mono ?_);rintro e w5 ⟨uf,Sf,rfl,of,lf,b5⟩;have HC5:=Lib.hid (hBB.out.trans (Chg.of_below b5));(have ko_5:=At.below (by first | exact ko_4 | exact At.below ko_4 (below_al (Below.refl _ _) _) | exact At.below (At.below ko_4 (below_al (Below.refl _ _) _)) (below_al (Below.refl _ _) _) | exact At.move ko_4 (fun _ _=>rfl) (Nat.le_refl _)) b5);(have oa_5:=At.below (by first | exact oa_4 | exact At.below oa_4 (below_al (Below.refl _ _) _) | exact At.below (At.below oa_4 (below_al (Below.refl _ _) _)) (below_al (Below.refl _ _) _) | exact At.move oa_4 (fun _ _=>rfl) (Nat.le_refl _)) b5);(have ob_5:=At.below (by first | exact ob | exact At.below ob (below_al (Below.refl _ _) _) | exact At.below (At.below ob (below_al (Below.refl _ _) _)) (below_al (Below.refl _ _) _) | exact At.move ob (fun _ _=>rfl) (Nat.le_refl _)) b5);obtain ⟨Af,cf,Bf,df,rfl⟩:=ownQ_form of.here;have cz0:=ko_5.here.cell 0 _ rfl;have fz0:=Lib.frozen_of_heap ko_5.here 0;have cz1:=ko_5.here.cell 1 _ rfl;have fz1:=Lib.frozen_of_heap ko_5.here 1;have cz2:=ko_5.here.cell 2 _ rfl;have fz2:=Lib.frozen_of_heap ko_5.here 2;have HBZ5:=Lib.hid hBB.out.size;clear hBB))
   have bb5:=BBF.out _ HC5.out
   replace kr:=kr.chg HC5.out (fun i hi hm=>by simp at hi hm;omega)
   replace ks:=ks.chg HC5.out (fun i hi hm=>by simp at hi hm;omega)
   replace ko:=ko_5
   have oa:=oa_5
   have ob:=ob_5
   have HW:=Lib.hid (newQb_at (r:=w.heap.size+1+1) (b:=(lowQ (!(r.1.1 == s.1.1)) ((nval (r.1.2) * nval (s.1.2)).toNat) ((nval (r.2) * nval (s.2)).toNat)).2) of lf (by have:=HBZ5.out;omega) (by omega) bb5)
   clear of ko kr ks oa ob z0 hko
   go_wp2
   refine bodyPost_ret (v:=.tuple #[.agg #[.bool _,.slice Af _ cf,.slice Bf _ df],.bool _]) (by simp [results,Tryz.results117,go_sem,cz0,cz1,cz2];exact ⟨⟨rfl,rfl,rfl⟩,rfl⟩) rfl ?_
   rw [HV.out]
   exact HW.out
  ·have oks':okQ s = false:=by simpa using oks
   have HV:=Lib.hid (show mulQ r s = (zeroQ,false) by unfold mulQ;rw [if_neg (fun h=>oks h.2)])
   rw [oks']
   clear oks oks'
   have ko_c0:=ko.here.cell 0 _ rfl
   have ko_c1:=ko.here.cell 1 _ rfl
   have ko_c2:=ko.here.cell 2 _ rfl
   have cz0:=ko.here.cell 0 _ rfl
   have fz0:=Lib.frozen_of_heap ko.here 0
   have cz1:=ko.here.cell 1 _ rfl
   have fz1:=Lib.frozen_of_heap ko.here 1
   have cz2:=ko.here.cell 2 _ rfl
   have fz2:=Lib.frozen_of_heap ko.here 2
   go_wp2
   refine bodyPost_ret (v:=.tuple #[.agg #[.bool false,.slice none 0 0,.slice none 0 0],.bool false]) (by simp [results,Tryz.results117,go_sem,cz0,cz1,cz2]) rfl ?_
   rw [HV.out]
   first | exact newQb_zero _ bb2 | exact newQb_zero _ (below_set3 bb2 (by omega))
 ·have okr':okQ r = false:=by simpa using okr
  have HV:=Lib.hid (show mulQ r s = (zeroQ,false) by unfold mulQ;rw [if_neg (fun h=>okr h.1)])
  rw [okr']
  clear okr okr'
  have ko_c0:=ko.here.cell 0 _ rfl
  have ko_c1:=ko.here.cell 1 _ rfl
  have ko_c2:=ko.here.cell 2 _ rfl
  have cz0:=ko.here.cell 0 _ rfl
  have fz0:=Lib.frozen_of_heap ko.here 0
  have cz1:=ko.here.cell 1 _ rfl
  have fz1:=Lib.frozen_of_heap ko.here 1
  have cz2:=ko.here.cell 2 _ rfl
  have fz2:=Lib.frozen_of_heap ko.here 2
  go_wp2
  refine bodyPost_ret (v:=.tuple #[.agg #[.bool false,.slice none 0 0,.slice none 0 0],.bool false]) (by simp [results,Tryz.results117,go_sem,cz0,cz1,cz2]) rfl ?_
  rw [HV.out]
  first | exact newQb_zero _ bb1 | exact newQb_zero _ (below_set3 bb1 (by omega))
set_option maxHeartbeats 2000000 in
theorem specRatDiv_any (vr:Value) (vs:Value) (r s:QI) (w:World) (hzr:szQ r ≤ 1048576) (hzs:szQ s ≤ 1048576) (hr:OwnQ vr r w) (hs:OwnQ vs s w) :
 Calls Tryz.prog 115 #[vr,vs] w (PostQb (divQ r s).1 (divQ r s).2 w):=by
 have Hr:=Lib.hid hr
 obtain ⟨Ar,cr,Br,dr,rfl⟩:=ownQ_form hr
 have OQr:=Lib.hid (show ∀ W,Below w.heap.size w W→OwnQ (.agg #[.bool r.1.1,.slice Ar r.1.2.length cr,.slice Br r.2.length dr]) r W from fun W hb=>OwnQ.below Hr.out hb)
 have OUr:=Lib.hid (show ∀ W,Below w.heap.size w W→OwnI (.slice Ar r.1.2.length cr) r.1.2 W from fun W hb=>(ownQ_open (OQr.out W hb)).2.1)
 have ODr:=Lib.hid (show ∀ W,Below w.heap.size w W→OwnI (.slice Br r.2.length dr) r.2 W from fun W hb=>(ownQ_open (OQr.out W hb)).2.2.1)
 have OSr:=Lib.hid (show ∀ W,Below w.heap.size w W→OwnS (.agg #[.bool r.1.1,.slice Ar r.1.2.length cr]) r.1 W from fun W hb=>OwnS.mk (OUr.out W hb))
 clear hr
 have Hs:=Lib.hid hs
 obtain ⟨As,cs,Bs,ds,rfl⟩:=ownQ_form hs
 have OQs:=Lib.hid (show ∀ W,Below w.heap.size w W→OwnQ (.agg #[.bool s.1.1,.slice As s.1.2.length cs,.slice Bs s.2.length ds]) s W from fun W hb=>OwnQ.below Hs.out hb)
 have OUs:=Lib.hid (show ∀ W,Below w.heap.size w W→OwnI (.slice As s.1.2.length cs) s.1.2 W from fun W hb=>(ownQ_open (OQs.out W hb)).2.1)
 have ODs:=Lib.hid (show ∀ W,Below w.heap.size w W→OwnI (.slice Bs s.2.length ds) s.2 W from fun W hb=>(ownQ_open (OQs.out W hb)).2.2.1)
 have OSs:=Lib.hid (show ∀ W,Below w.heap.size w W→OwnS (.agg #[.bool s.1.1,.slice As s.1.2.length cs]) s.1 W from fun W hb=>OwnS.mk (OUs.out W hb))
 clear hs
 have hlr:=szQ_len hzr
 have hl1r:=hlr.1
 have hl2r:=hlr.2
 clear hlr
 have hls:=szQ_len hzs
 have hl1s:=hls.1
 have hl2s:=hls.2
 clear hls
 have bb0:Below w.heap.size w (((w.alloc (.cells #[.bool r.1.1,.slice Ar r.1.2.length cr,.slice Br r.2.length dr] 36)).alloc (.cells #[.bool s.1.1,.slice As s.1.2.length cs,.slice Bs s.2.length ds] 36)).alloc (.cells #[.bool false,.slice none 0 0,.slice none 0 0] 36)):=below_al (below_al (below_al (Below.refl _ _) _) _) _
 have kr:=(box_new w #[.bool r.1.1,.slice Ar r.1.2.length cr,.slice Br r.2.length dr] 36).below (below_al (below_al (Below.refl _ _) (.cells #[.bool s.1.1,.slice As s.1.2.length cs,.slice Bs s.2.length ds] 36)) (.cells #[.bool false,.slice none 0 0,.slice none 0 0] 36))
 have ks:=(box_new (w.alloc (.cells #[.bool r.1.1,.slice Ar r.1.2.length cr,.slice Br r.2.length dr] 36)) #[.bool s.1.1,.slice As s.1.2.length cs,.slice Bs s.2.length ds] 36).below (below_al (Below.refl _ _) (.cells #[.bool false,.slice none 0 0,.slice none 0 0] 36))
 rw [show (w.alloc (.cells #[.bool r.1.1,.slice Ar r.1.2.length cr,.slice Br r.2.length dr] 36)).heap.size = w.heap.size+1 by simp] at ks
 have ko:=(box_new ((w.alloc (.cells #[.bool r.1.1,.slice Ar r.1.2.length cr,.slice Br r.2.length dr] 36)).alloc (.cells #[.bool s.1.1,.slice As s.1.2.length cs,.slice Bs s.2.length ds] 36)) #[.bool false,.slice none 0 0,.slice none 0 0] 36)
 rw [show ((w.alloc (.cells #[.bool r.1.1,.slice Ar r.1.2.length cr,.slice Br r.2.length dr] 36)).alloc (.cells #[.bool s.1.1,.slice As s.1.2.length cs,.slice Bs s.2.length ds] 36)).heap.size = w.heap.size+1+1 by simp] at ko
 go_enter Tryz.func115,Tryz.ntmps115
 have kr_c0:=kr.here.cell 0 _ rfl
 have kr_c1:=kr.here.cell 1 _ rfl
 have kr_c2:=kr.here.cell 2 _ rfl
 go_wp2_with fail
 clear kr_c0 kr_c1 kr_c2
 refine (specRatOk_any _ r _ hzr (OQr.out _ bb0)).mono ?_
 rintro e w1 ⟨rfl,b1⟩
 have bb1:=Below.next bb0 b1
 replace kr:=kr.below b1
 replace ks:=ks.below b1
 replace ko:=ko.below b1
 by_cases okr:okQ r = true
 ·rw [okr]
  have HOr:=Lib.hid okr
  clear okr
  have ks_c0:=ks.here.cell 0 _ rfl
  have ks_c1:=ks.here.cell 1 _ rfl
  have ks_c2:=ks.here.cell 2 _ rfl
  go_wp2_with fail
  clear ks_c0 ks_c1 ks_c2
  refine (specRatOk_any _ s _ hzs (OQs.out _ bb1)).mono ?_
  rintro e w2 ⟨rfl,b2⟩
  have bb2:=Below.next bb1 b2
  replace kr:=kr.below b2
  replace ks:=ks.below b2
  replace ko:=ko.below b2
  by_cases oks:okQ s = true
  ·rw [oks]
   have HOs:=Lib.hid oks
   clear oks
   have Pr:=parts_of HOr.out
   have Ps:=parts_of HOs.out
   have HPr:=Lib.hid Pr
   have HPs:=Lib.hid Ps
   have hnr:=Pr.n50
   have hns:=Ps.n50
   have hdr:=Pr.d50
   have hds:=Ps.d50
   have z0:=bb2.size
   have hko:=ko.lt (w.heap.size+1+1) (by simp)
   have H1:=Lib.hid (show (limbs (nval (r.1.2) * nval (s.2)).toNat).length ≤ 50 by rw [mul_toNat (okS_parts HPr.out.okn).1 HPs.out.okd];exact Nat.le_trans (prod_len HPr.out.nlt HPs.out.dlt) (by decide))
   have H2:=Lib.hid (show (limbs (nval (r.2) * nval (s.1.2)).toNat).length ≤ 50 by rw [mul_toNat HPr.out.okd (okS_parts HPs.out.okn).1];exact Nat.le_trans (prod_len HPr.out.dlt HPs.out.nlt) (by decide))
   have HV:=Lib.hid (show divQ r s = lowQ (!(r.1.1 == s.1.1)) (nval (r.1.2) * nval (s.2)).toNat (nval (r.2) * nval (s.1.2)).toNat by unfold divQ;rw [if_pos ⟨HOr.out,HOs.out⟩,mul_toNat (okS_parts HPr.out.okn).1 HPs.out.okd,mul_toNat HPr.out.okd (okS_parts HPs.out.okn).1];rfl)
   clear Pr Ps
   have kr_c0:=kr.here.cell 0 _ rfl
   have kr_c1:=kr.here.cell 1 _ rfl
   have kr_c2:=kr.here.cell 2 _ rfl
   have ks_c0:=ks.here.cell 0 _ rfl
   have ks_c1:=ks.here.cell 1 _ rfl
   have ks_c2:=ks.here.cell 2 _ rfl
   go_wp2_with fail
   have HC0:=Lib.hid (show Chg [w.heap.size+1+1] w2 w2.drew from (Chg.refl _ _).drew1)
   have HCr:=Lib.hid (show Chg [w.heap.size+1+1] w2 w2 from Chg.refl _ _)
   have KL:=Lib.hid (show ∀ W,Chg [w.heap.size+1+1] w2 W→W.cell? ⟨w.heap.size,0,none⟩ = some (.bool r.1.1)∧W.cell? ⟨w.heap.size,1,none⟩ = some (.slice Ar r.1.2.length cr)∧W.cell? ⟨w.heap.size,2,none⟩ = some (.slice Br r.2.length dr)∧W.cell? ⟨w.heap.size+1,0,none⟩ = some (.bool s.1.1)∧W.cell? ⟨w.heap.size+1,1,none⟩ = some (.slice As s.1.2.length cs)∧W.cell? ⟨w.heap.size+1,2,none⟩ = some (.slice Bs s.2.length ds)∧Hid (Chg [w.heap.size+1+1] w2 W) from fun W hc=>⟨(kr.chg hc (fun i hi hm=>by simp at hi hm;omega)).here.cell 0 _ rfl,(kr.chg hc (fun i hi hm=>by simp at hi hm;omega)).here.cell 1 _ rfl,(kr.chg hc (fun i hi hm=>by simp at hi hm;omega)).here.cell 2 _ rfl,(ks.chg hc (fun i hi hm=>by simp at hi hm;omega)).here.cell 0 _ rfl,(ks.chg hc (fun i hi hm=>by simp at hi hm;omega)).here.cell 1 _ rfl,(ks.chg hc (fun i hi hm=>by simp at hi hm;omega)).here.cell 2 _ rfl,Lib.hid hc⟩)
   have BBF:=Lib.hid (show ∀ W,Chg [w.heap.size+1+1] w2 W→Below w.heap.size w W from fun W hc=>below_chg bb2 hc bb2.size (fun i hi=>by simp at hi;omega))
   clear kr_c0 kr_c1 kr_c2 ks_c0 ks_c1 ks_c2
   go_region_held3 (fun W=>W.cell? ⟨w.heap.size,0,none⟩ = some (.bool r.1.1)∧W.cell? ⟨w.heap.size,1,none⟩ = some (.slice Ar r.1.2.length cr)∧W.cell? ⟨w.heap.size,2,none⟩ = some (.slice Br r.2.length dr)∧W.cell? ⟨w.heap.size+1,0,none⟩ = some (.bool s.1.1)∧W.cell? ⟨w.heap.size+1,1,none⟩ = some (.slice As s.1.2.length cs)∧W.cell? ⟨w.heap.size+1,2,none⟩ = some (.slice Bs s.2.length ds)∧Hid (Chg [w.heap.size+1+1] w2 W))
    ((refine KL.out _ ?_;(first | exact HC5.out | exact HC4.out | exact HC3.out | exact HCr.out | exact HC0.out | exact HC5.out.drew1 | exact HC4.out.drew1 | exact HC3.out.drew1 | exact HCr.out.drew1 | exact HC0.out.drew1 | exact HC5.out.trans (Chg.of_below (below_al (Below.refl _ _) _)) | exact HC4.out.trans (Chg.of_below (below_al (Below.refl _ _) _)) | exact HC3.out.trans (Chg.of_below (below_al (Below.refl _ _) _)) | exact HCr.out.trans (Chg.of_below (below_al (Below.refl _ _) _)) | exact HC0.out.trans (Chg.of_below (below_al (Below.refl _ _) _)) | exact (Chg.setCell HC5.out (by simp) _) | exact (Chg.setCell (Chg.setCell HC5.out (by simp) _) (by simp) _) | exact (Chg.setCell (Chg.setCell (Chg.setCell HC5.out (by simp) _) (by simp) _) (by simp) _) | fail)))
    (first
      | (go_at_call 193;(have hBB:=(‹_∧_∧_∧_∧_∧_∧Hid (Chg [w.heap.size+1+1] w2 _)›).2.2.2.2.2.2);(with_reducible refine (specMulV_any _ _ (r.1.2) (s.2) 0 _ 0 _ _ (by omega) (by omega) (Nat.le_refl _) (Nat.le_refl _) (natOk_parts (okS_parts HPr.out.okn).1).1 (natOk_parts HPs.out.okd).1 (OUr.out _ (BBF.out _ hBB.out)).row (ODs.out _ (BBF.out _ hBB.out)).row).mono ?_);rintro e w3 ⟨ua,rfl,oa_,b3⟩;have HC3:=Lib.hid (hBB.out.trans (Chg.of_below b3));(have ko_3:=At.below (by first | exact ko | exact At.below ko (below_al (Below.refl _ _) _) | exact At.below (At.below ko (below_al (Below.refl _ _) _)) (below_al (Below.refl _ _) _) | exact At.move ko (fun _ _=>rfl) (Nat.le_refl _)) b3);have oa:=own_at' oa_;have HBZ3:=Lib.hid hBB.out.size;clear hBB)
      | (go_at_call 193;(have hBB:=(‹_∧_∧_∧_∧_∧_∧Hid (Chg [w.heap.size+1+1] w2 _)›).2.2.2.2.2.2);(with_reducible refine (specMulV_any _ _ (r.2) (s.1.2) 0 _ 0 _ _ (by omega) (by omega) (Nat.le_refl _) (Nat.le_refl _) (natOk_parts HPr.out.okd).1 (natOk_parts (okS_parts HPs.out.okn).1).1 (ODr.out _ (BBF.out _ hBB.out)).row (OUs.out _ (BBF.out _ hBB.out)).row).mono ?_);rintro e w4 ⟨ub,rfl,ob_,b4⟩;have HC4:=Lib.hid (hBB.out.trans (Chg.of_below b4));(have ko_4:=At.below (by first | exact ko_3 | exact At.below ko_3 (below_al (Below.refl _ _) _) | exact At.below (At.below ko_3 (below_al (Below.refl _ _) _)) (below_al (Below.refl _ _) _) | exact At.move ko_3 (fun _ _=>rfl) (Nat.le_refl _)) b4);(have oa_4:=At.below (by first | exact oa | exact At.below oa (below_al (Below.refl _ _) _) | exact At.below (At.below oa (below_al (Below.refl _ _) _)) (below_al (Below.refl _ _) _) | exact At.move oa (fun _ _=>rfl) (Nat.le_refl _)) b4);have ob:=own_at' ob_;have HBZ4:=Lib.hid hBB.out.size;clear hBB)
      | (go_at_call 192;(have hBB:=(‹_∧_∧_∧_∧_∧_∧Hid (Chg [w.heap.size+1+1] w2 _)›).2.2.2.2.2.2);(with_reducible refine (l05Low_any _ _ _ ((nval (r.1.2) * nval (s.2)).toNat) ((nval (r.2) * nval (s.1.2)).toNat) _ H1.out H2.out (At.here (by first | exact oa_4 | exact At.below oa_4 (below_al (Below.refl _ _) _) | exact At.below (At.below oa_4 (below_al (Below.refl _ _) _)) (below_al (Below.refl _ _) _) | exact At.move oa_4 (fun _ _=>rfl) (Nat.le_refl _))) (At.here (by first | exact ob | exact At.below ob (below_al (Below.refl _ _) _) | exact At.below (At.below ob (below_al (Below.refl _ _) _)) (below_al (Below.refl _ _) _) | exact At.move ob (fun _ _=>rfl) (Nat.le_refl _)))).mono ?_);rintro e w5 ⟨uf,Sf,rfl,of,lf,b5⟩;have HC5:=Lib.hid (hBB.out.trans (Chg.of_below b5));(have ko_5:=At.below (by first | exact ko_4 | exact At.below ko_4 (below_al (Below.refl _ _) _) | exact At.below (At.below ko_4 (below_al (Below.refl _ _) _)) (below_al (Below.refl _ _) _) | exact At.move ko_4 (fun _ _=>rfl) (Nat.le_refl _)) b5);(have oa_5:=At.below (by first | exact oa_4 | exact At.below oa_4 (below_al (Below.refl _ _) _) | exact At.below (At.below oa_4 (below_al (Below.refl _ _) _)) (below_al (Below.refl _ _) _) | exact At.move oa_4 (fun _ _=>rfl) (Nat.le_refl _)) b5);(have ob_5:=At.below (by first | exact ob | exact At.below ob (below_al (Below.refl _ _) _) | exact At.below (At.below ob (below_al (Below.refl _ _) _)) (below_al (Below.refl _ _) _) | exact At.move ob (fun _ _=>rfl) (Nat.le_refl _)) b5);obtain ⟨Af,cf,Bf,df,rfl⟩:=ownQ_form of.here;have cz0:=ko_5.here.cell 0 _ rfl;have fz0:=Lib.frozen_of_heap ko_5.here 0;have cz1:=ko_5.here.cell 1 _ rfl;have fz1:=Lib.frozen_of_heap ko_5.here 1;have cz2:=ko_5.here.cell 2 _ rfl;have fz2:=Lib.frozen_of_heap ko_5.here 2;have HBZ5:=Lib.hid hBB.out.size;clear hBB))
   have bb5:=BBF.out _ HC5.out
   replace kr:=kr.chg HC5.out (fun i hi hm=>by simp at hi hm;omega)
   replace ks:=ks.chg HC5.out (fun i hi hm=>by simp at hi hm;omega)
   replace ko:=ko_5
   have oa:=oa_5
   have ob:=ob_5
   have HW:=Lib.hid (newQb_at (r:=w.heap.size+1+1) (b:=(lowQ (!(r.1.1 == s.1.1)) ((nval (r.1.2) * nval (s.2)).toNat) ((nval (r.2) * nval (s.1.2)).toNat)).2) of lf (by have:=HBZ5.out;omega) (by omega) bb5)
   clear of ko kr ks oa ob z0 hko
   go_wp2
   refine bodyPost_ret (v:=.tuple #[.agg #[.bool _,.slice Af _ cf,.slice Bf _ df],.bool _]) (by simp [results,Tryz.results115,go_sem,cz0,cz1,cz2];exact ⟨⟨rfl,rfl,rfl⟩,rfl⟩) rfl ?_
   rw [HV.out]
   exact HW.out
  ·have oks':okQ s = false:=by simpa using oks
   have HV:=Lib.hid (show divQ r s = (zeroQ,false) by unfold divQ;rw [if_neg (fun h=>oks h.2)])
   rw [oks']
   clear oks oks'
   have ko_c0:=ko.here.cell 0 _ rfl
   have ko_c1:=ko.here.cell 1 _ rfl
   have ko_c2:=ko.here.cell 2 _ rfl
   have cz0:=ko.here.cell 0 _ rfl
   have fz0:=Lib.frozen_of_heap ko.here 0
   have cz1:=ko.here.cell 1 _ rfl
   have fz1:=Lib.frozen_of_heap ko.here 1
   have cz2:=ko.here.cell 2 _ rfl
   have fz2:=Lib.frozen_of_heap ko.here 2
   go_wp2
   refine bodyPost_ret (v:=.tuple #[.agg #[.bool false,.slice none 0 0,.slice none 0 0],.bool false]) (by simp [results,Tryz.results115,go_sem,cz0,cz1,cz2]) rfl ?_
   rw [HV.out]
   first | exact newQb_zero _ bb2 | exact newQb_zero _ (below_set3 bb2 (by omega))
 ·have okr':okQ r = false:=by simpa using okr
  have HV:=Lib.hid (show divQ r s = (zeroQ,false) by unfold divQ;rw [if_neg (fun h=>okr h.1)])
  rw [okr']
  clear okr okr'
  have ko_c0:=ko.here.cell 0 _ rfl
  have ko_c1:=ko.here.cell 1 _ rfl
  have ko_c2:=ko.here.cell 2 _ rfl
  have cz0:=ko.here.cell 0 _ rfl
  have fz0:=Lib.frozen_of_heap ko.here 0
  have cz1:=ko.here.cell 1 _ rfl
  have fz1:=Lib.frozen_of_heap ko.here 1
  have cz2:=ko.here.cell 2 _ rfl
  have fz2:=Lib.frozen_of_heap ko.here 2
  go_wp2
  refine bodyPost_ret (v:=.tuple #[.agg #[.bool false,.slice none 0 0,.slice none 0 0],.bool false]) (by simp [results,Tryz.results115,go_sem,cz0,cz1,cz2]) rfl ?_
  rw [HV.out]
  first | exact newQb_zero _ bb1 | exact newQb_zero _ (below_set3 bb1 (by omega))
set_option maxHeartbeats 1000000 in
theorem specRatZero_any (w:World):Calls Tryz.prog 133 #[] w (NewV (fun v=>OwnQ v oneQ) w):=by
 have hs:(w.alloc (.cells #[.bool false,.slice none 0 0,.slice (some ⟨w.heap.size+1,0,none⟩) 1 1] 36)).heap.size = w.heap.size+1:=by simp
 have od:((w.alloc (.cells #[.bool false,.slice none 0 0,.slice (some ⟨w.heap.size+1,0,none⟩) 1 1] 36)).alloc (.cells #[.int .i64 1] 3)).ownsRow w.heap.size 3 1 (.slice (some ⟨w.heap.size+1,0,none⟩) 1 1) 1 [.int .i64 1]:=by
  have h:=World.ownsRow_lit (base:=w.heap.size) (e:=3) (size:=1) (w.alloc (.cells #[.bool false,.slice none 0 0,.slice (some ⟨w.heap.size+1,0,none⟩) 1 1] 36)) #[.int .i64 1] 1 (by omega) (by unfold maxLen;omega) rfl
  rw [hs] at h
  exact h
 have bb:=below_al (below_al (Below.refl w.heap.size w) (.cells #[.bool false,.slice none 0 0,.slice (some ⟨w.heap.size+1,0,none⟩) 1 1] 36)) (.cells #[.int .i64 1] 3)
 have HR:=Lib.hid (show NewV (fun v=>OwnQ v oneQ) w (.returned (.agg #[.bool false,.slice none 0 0,.slice (some ⟨w.heap.size+1,0,none⟩) 1 1])) _ from
  ⟨_,_,rfl,partsQ_at (x:=oneQ) (World.ownsRow_nil _ 0 _ _) od (fun g hg=>by cases hg),(fun g hg=>by
   rcases List.mem_append.1 hg with hg | hg
   ·cases hg
   ·exact own_within od g hg),bb⟩)
 clear od bb hs
 go_enter Tryz.func133,Tryz.ntmps133
 go_wp2
 refine bodyPost_ret (v:=.agg #[.bool false,.slice none 0 0,.slice (some ⟨w.heap.size+1,0,none⟩) 1 1]) (by simp [results,Tryz.results133,go_sem]) rfl ?_
 exact HR.out
set_option maxHeartbeats 2000000 in
theorem specRatMake_any (va vb:Value) (a b:SI) (w:World) (hza:szS a ≤ 1048576) (hzb:szS b ≤ 1048576) (ha:OwnS va a w) (hb:OwnS vb b w) :
 Calls Tryz.prog 248 #[va,vb] w (PostQb (makeQ a b).1 (makeQ a b).2 w):=by
 have Ha:=Lib.hid ha
 obtain ⟨Aa,ca,rfl⟩:=ownS_form ha
 have OSa:=Lib.hid (show ∀ W,Below w.heap.size w W→OwnS (.agg #[.bool a.1,.slice Aa a.2.length ca]) a W from fun W hb=>OwnS.below Ha.out hb)
 have OIa:=Lib.hid (show ∀ W,Below w.heap.size w W→OwnI (.slice Aa a.2.length ca) a.2 W from fun W hb=>ownS_open (OSa.out W hb))
 clear ha
 have Hb:=Lib.hid hb
 obtain ⟨Ab,cb,rfl⟩:=ownS_form hb
 have OSb:=Lib.hid (show ∀ W,Below w.heap.size w W→OwnS (.agg #[.bool b.1,.slice Ab b.2.length cb]) b W from fun W hb=>OwnS.below Hb.out hb)
 have OIb:=Lib.hid (show ∀ W,Below w.heap.size w W→OwnI (.slice Ab b.2.length cb) b.2 W from fun W hb=>ownS_open (OSb.out W hb))
 clear hb
 have hla:a.2.length ≤ 1048576:=by unfold szS szI at hza;omega
 have hlb:b.2.length ≤ 1048576:=by unfold szS szI at hzb;omega
 clear hza hzb
 have bb0:Below w.heap.size w (((w.alloc (.cells #[.bool a.1,.slice Aa a.2.length ca] 30)).alloc (.cells #[.bool b.1,.slice Ab b.2.length cb] 30)).alloc (.cells #[.bool false,.slice none 0 0,.slice none 0 0] 36)):=below_al (below_al (below_al (Below.refl _ _) _) _) _
 have ka:=(box_new w #[.bool a.1,.slice Aa a.2.length ca] 30).below (below_al (below_al (Below.refl _ _) (.cells #[.bool b.1,.slice Ab b.2.length cb] 30)) (.cells #[.bool false,.slice none 0 0,.slice none 0 0] 36))
 have kb:=(box_new (w.alloc (.cells #[.bool a.1,.slice Aa a.2.length ca] 30)) #[.bool b.1,.slice Ab b.2.length cb] 30).below (below_al (Below.refl _ _) (.cells #[.bool false,.slice none 0 0,.slice none 0 0] 36))
 rw [show (w.alloc (.cells #[.bool a.1,.slice Aa a.2.length ca] 30)).heap.size = w.heap.size+1 by simp] at kb
 have ko:=(box_new ((w.alloc (.cells #[.bool a.1,.slice Aa a.2.length ca] 30)).alloc (.cells #[.bool b.1,.slice Ab b.2.length cb] 30)) #[.bool false,.slice none 0 0,.slice none 0 0] 36)
 rw [show ((w.alloc (.cells #[.bool a.1,.slice Aa a.2.length ca] 30)).alloc (.cells #[.bool b.1,.slice Ab b.2.length cb] 30)).heap.size = w.heap.size+1+1 by simp] at ko
 go_enter Tryz.func248,Tryz.ntmps248
 have ka_c0:=ka.here.cell 0 _ rfl
 have ka_c1:=ka.here.cell 1 _ rfl
 go_wp2_with fail
 clear ka_c0 ka_c1
 refine (specIntOk_any _ a _ hla (OwnS.rd (OSa.out _ bb0))).mono ?_
 rintro e w1 ⟨rfl,b1⟩
 have bb1:=Below.next bb0 b1
 replace ka:=ka.below b1
 replace kb:=kb.below b1
 replace ko:=ko.below b1
 by_cases oka:okS a = true
 ·rw [oka]
  have HOa:=Lib.hid oka
  clear oka
  have kb_c0:=kb.here.cell 0 _ rfl
  have kb_c1:=kb.here.cell 1 _ rfl
  go_wp2_with fail
  clear kb_c0 kb_c1
  refine (specIntOk_any _ b _ hlb (OwnS.rd (OSb.out _ bb1))).mono ?_
  rintro e w2 ⟨rfl,b2⟩
  have bb2:=Below.next bb1 b2
  replace ka:=ka.below b2
  replace kb:=kb.below b2
  replace ko:=ko.below b2
  by_cases okb:okS b = true
  ·rw [okb]
   have HOb:=Lib.hid okb
   clear okb
   have HKO:=Lib.hid (ko.lt (w.heap.size+1+1) (by simp))
   have Ea:=Lib.hid (natOk_limbs (okS_parts HOa.out).1)
   have Eb:=Lib.hid (natOk_limbs (okS_parts HOb.out).1)
   obtain ⟨Na,hNa⟩:∃ Na,(nval a.2).toNat = Na:=⟨_,rfl⟩
   have Ea:=Lib.hid (show a.2 = limbs Na by rw [← hNa];exact natOk_limbs (okS_parts HOa.out).1)
   have La:=Lib.hid (show (limbs Na).length ≤ 50 by rw [← Ea.out];exact (natOk_parts (okS_parts HOa.out).1).2.1)
   obtain ⟨Nb,hNb⟩:∃ Nb,(nval b.2).toNat = Nb:=⟨_,rfl⟩
   have Eb:=Lib.hid (show b.2 = limbs Nb by rw [← hNb];exact natOk_limbs (okS_parts HOb.out).1)
   have Lb:=Lib.hid (show (limbs Nb).length ≤ 50 by rw [← Eb.out];exact (natOk_parts (okS_parts HOb.out).1).2.1)
   have HV:=Lib.hid (show makeQ a b = lowQ (!(a.1 == b.1)) Na Nb by unfold makeQ;rw [if_pos ⟨HOa.out,HOb.out⟩,hNa,hNb];rfl)
   clear hNa hNb
   have ka_c0:=ka.here.cell 0 _ rfl
   have ka_c1:=ka.here.cell 1 _ rfl
   have kb_c0:=kb.here.cell 0 _ rfl
   have kb_c1:=kb.here.cell 1 _ rfl
   go_wp2_with fail
   clear ka_c0 ka_c1 kb_c0 kb_c1
   refine (lowX_any _ _ _ a.2 b.2 Na Nb _ La.out Lb.out Ea.out Eb.out (OIa.out _ bb2) (OIb.out _ bb2)).mono ?_
   rintro e w3 ⟨uf,Sf,rfl,of,lf,b3⟩
   obtain ⟨Af,cf,Bf,df,rfl⟩:=ownQ_form of.here
   have bb3:=Below.next bb2 b3
   replace ka:=ka.below b3
   replace kb:=kb.below b3
   replace ko:=ko.below b3
   have HW:=Lib.hid (newQb_at (r:=w.heap.size+1+1) (b:=(lowQ (!(a.1 == b.1)) Na Nb).2) of lf (by have:=HKO.out;omega) (by omega) bb3)
   have cz0:=ko.here.cell 0 _ rfl
   have fz0:=Lib.frozen_of_heap ko.here 0
   have cz1:=ko.here.cell 1 _ rfl
   have fz1:=Lib.frozen_of_heap ko.here 1
   have cz2:=ko.here.cell 2 _ rfl
   have fz2:=Lib.frozen_of_heap ko.here 2
   clear of ko
   go_wp2
   refine bodyPost_ret (v:=.tuple #[.agg #[.bool _,.slice Af _ cf,.slice Bf _ df],.bool _]) (by simp [results,Tryz.results248,go_sem,cz0,cz1,cz2];exact ⟨⟨rfl,rfl,rfl⟩,rfl⟩) rfl ?_
   rw [HV.out]
   exact HW.out
  ·have okb':okS b = false:=by simpa using okb
   have HV:=Lib.hid (show makeQ a b = (zeroQ,false) by unfold makeQ;rw [if_neg (fun h=>okb h.2)])
   rw [okb']
   clear okb okb'
   have ko_c0:=ko.here.cell 0 _ rfl
   have ko_c1:=ko.here.cell 1 _ rfl
   have ko_c2:=ko.here.cell 2 _ rfl
   have cz0:=ko.here.cell 0 _ rfl
   have fz0:=Lib.frozen_of_heap ko.here 0
   have cz1:=ko.here.cell 1 _ rfl
   have fz1:=Lib.frozen_of_heap ko.here 1
   have cz2:=ko.here.cell 2 _ rfl
   have fz2:=Lib.frozen_of_heap ko.here 2
   go_wp2
   refine bodyPost_ret (v:=.tuple #[.agg #[.bool false,.slice none 0 0,.slice none 0 0],.bool false]) (by simp [results,Tryz.results248,go_sem,cz0,cz1,cz2]) rfl ?_
   rw [HV.out]
   first | exact newQb_zero _ bb2 | exact newQb_zero _ (below_set3 bb2 (by omega))
 ·have oka':okS a = false:=by simpa using oka
  have HV:=Lib.hid (show makeQ a b = (zeroQ,false) by unfold makeQ;rw [if_neg (fun h=>oka h.1)])
  rw [oka']
  clear oka oka'
  have ko_c0:=ko.here.cell 0 _ rfl
  have ko_c1:=ko.here.cell 1 _ rfl
  have ko_c2:=ko.here.cell 2 _ rfl
  have cz0:=ko.here.cell 0 _ rfl
  have fz0:=Lib.frozen_of_heap ko.here 0
  have cz1:=ko.here.cell 1 _ rfl
  have fz1:=Lib.frozen_of_heap ko.here 1
  have cz2:=ko.here.cell 2 _ rfl
  have fz2:=Lib.frozen_of_heap ko.here 2
  go_wp2
  refine bodyPost_ret (v:=.tuple #[.agg #[.bool false,.slice none 0 0,.slice none 0 0],.bool false]) (by simp [results,Tryz.results248,go_sem,cz0,cz1,cz2]) rfl ?_
  rw [HV.out]
  first | exact newQb_zero _ bb1 | exact newQb_zero _ (below_set3 bb1 (by omega))
set_option maxHeartbeats 2000000 in
theorem specRatInt_any (va:Value) (a:SI) (w:World) (hza:szS a ≤ 1048576) (ha:OwnS va a w) :
 Calls Tryz.prog 190 #[va] w (PostQb (makeQ a (ofZ 1)).1 (makeQ a (ofZ 1)).2 w):=by
 have Ha:=Lib.hid ha
 obtain ⟨Aa,ca,rfl⟩:=ownS_form ha
 have OSa:=Lib.hid (show ∀ W,Below w.heap.size w W→OwnS (.agg #[.bool a.1,.slice Aa a.2.length ca]) a W from fun W hb=>OwnS.below Ha.out hb)
 have OIa:=Lib.hid (show ∀ W,Below w.heap.size w W→OwnI (.slice Aa a.2.length ca) a.2 W from fun W hb=>ownS_open (OSa.out W hb))
 clear ha
 have bb0:Below w.heap.size w ((w.alloc (.cells #[.bool a.1,.slice Aa a.2.length ca] 30)).alloc (.cells #[.bool false,.slice none 0 0,.slice none 0 0] 36)):=below_al (below_al (Below.refl _ _) _) _
 have ka:=(box_new w #[.bool a.1,.slice Aa a.2.length ca] 30).below (below_al (Below.refl _ _) (.cells #[.bool false,.slice none 0 0,.slice none 0 0] 36))
 have ko:=(box_new (w.alloc (.cells #[.bool a.1,.slice Aa a.2.length ca] 30)) #[.bool false,.slice none 0 0,.slice none 0 0] 36)
 rw [show (w.alloc (.cells #[.bool a.1,.slice Aa a.2.length ca] 30)).heap.size = w.heap.size+1 by simp] at ko
 have HKO:=Lib.hid (ko.lt (w.heap.size+1) (by simp))
 obtain ⟨Q,hQ⟩:∃ Q,makeQ a (ofZ 1) = Q:=⟨_,rfl⟩
 have EQ:=Lib.hid hQ
 rw [hQ]
 clear hQ
 obtain ⟨W0,hW0⟩:∃ W0,W0 = ((w.alloc (.cells #[.bool a.1,.slice Aa a.2.length ca] 30)).alloc (.cells #[.bool false,.slice none 0 0,.slice none 0 0] 36)):=⟨_,rfl⟩
 rw [← hW0] at bb0 ka ko HKO
 have HW0:=Lib.hid hW0
 clear hW0
 have hz0:=HKO.out
 go_enter Tryz.func190,Tryz.ntmps190
 have ka_c0:=ka.here.cell 0 _ rfl
 have ka_c1:=ka.here.cell 1 _ rfl
 go_wp2_with fail
 rw [← HW0.out]
 have HC0:=Lib.hid (show Chg [w.heap.size+1] W0 W0.drew from (Chg.refl _ _).drew1)
 have HCr:=Lib.hid (show Chg [w.heap.size+1] W0 W0 from Chg.refl _ _)
 have KL:=Lib.hid (show ∀ W,Chg [w.heap.size+1] W0 W→W.cell? ⟨w.heap.size,0,none⟩ = some (.bool a.1)∧W.cell? ⟨w.heap.size,1,none⟩ = some (.slice Aa a.2.length ca)∧Hid (Chg [w.heap.size+1] W0 W) from fun W hc=>⟨(ka.chg hc (fun i hi hm=>by simp at hi hm;omega)).here.cell 0 _ rfl,(ka.chg hc (fun i hi hm=>by simp at hi hm;omega)).here.cell 1 _ rfl,Lib.hid hc⟩)
 have BBF:=Lib.hid (show ∀ W,Chg [w.heap.size+1] W0 W→Below w.heap.size w W from fun W hc=>below_chg bb0 hc bb0.size (fun i hi=>by simp at hi;omega))
 clear ka_c0 ka_c1
 go_region_held3 (fun W=>W.cell? ⟨w.heap.size,0,none⟩ = some (.bool a.1)∧W.cell? ⟨w.heap.size,1,none⟩ = some (.slice Aa a.2.length ca)∧Hid (Chg [w.heap.size+1] W0 W))
  ((refine KL.out _ ?_;(first | exact HC2.out | exact HC1.out | exact HCr.out | exact HC0.out | exact HC2.out.drew1 | exact HC1.out.drew1 | exact HCr.out.drew1 | exact HC0.out.drew1 | exact HC2.out.trans (Chg.of_below (below_al (Below.refl _ _) _)) | exact HC1.out.trans (Chg.of_below (below_al (Below.refl _ _) _)) | exact HCr.out.trans (Chg.of_below (below_al (Below.refl _ _) _)) | exact HC0.out.trans (Chg.of_below (below_al (Below.refl _ _) _)) | exact (Chg.setCell HC2.out (by simp) _) | exact (Chg.setCell (Chg.setCell HC2.out (by simp) _) (by simp) _) | exact (Chg.setCell (Chg.setCell (Chg.setCell HC2.out (by simp) _) (by simp) _) (by simp) _) | fail)))
  (first
    | (go_at_call 70;(have hBB:=(‹_∧_∧Hid (Chg [w.heap.size+1] W0 _)›).2.2);(with_reducible refine ((specIntOf_any 1 _ (by decide) (by decide)).mono fun _ _ h=>NewS.newV h).mono ?_);rintro e w1 ⟨ui,Si,rfl,oi,li,b1⟩;have HC1:=Lib.hid (hBB.out.trans (Chg.of_below b1));(have ko_1:=At.below (by first | exact ko | exact At.below ko (below_al (Below.refl _ _) _) | exact At.below (At.below ko (below_al (Below.refl _ _) _)) (below_al (Below.refl _ _) _) | exact At.move ko (fun _ _=>rfl) (Nat.le_refl _)) b1);obtain ⟨Ai,ci,rfl⟩:=ownS_form oi.here;have HBZ1:=Lib.hid hBB.out.size;clear hBB)
    | (go_at_call 248;(have hBB:=(‹_∧_∧Hid (Chg [w.heap.size+1] W0 _)›).2.2);(with_reducible refine ((specRatMake_any _ _ a (ofZ 1) _ hza one_szS (OSa.out _ (BBF.out _ hBB.out)) (At.here (by first | exact oi | exact At.below oi (below_al (Below.refl _ _) _) | exact At.below (At.below oi (below_al (Below.refl _ _) _)) (below_al (Below.refl _ _) _) | exact At.move oi (fun _ _=>rfl) (Nat.le_refl _)))).mono fun _ _ h=>postQb_eq EQ.out h).mono ?_);rintro e w2 ⟨uf,Sf,rfl,of,lf,b2⟩;have HC2:=Lib.hid (hBB.out.trans (Chg.of_below b2));(have ko_2:=At.below (by first | exact ko_1 | exact At.below ko_1 (below_al (Below.refl _ _) _) | exact At.below (At.below ko_1 (below_al (Below.refl _ _) _)) (below_al (Below.refl _ _) _) | exact At.move ko_1 (fun _ _=>rfl) (Nat.le_refl _)) b2);(have oi_2:=At.below (by first | exact oi | exact At.below oi (below_al (Below.refl _ _) _) | exact At.below (At.below oi (below_al (Below.refl _ _) _)) (below_al (Below.refl _ _) _) | exact At.move oi (fun _ _=>rfl) (Nat.le_refl _)) b2);obtain ⟨Af,cf,Bf,df,rfl⟩:=ownQ_form of.here;have cz0:=ko_2.here.cell 0 _ rfl;have fz0:=Lib.frozen_of_heap ko_2.here 0;have cz1:=ko_2.here.cell 1 _ rfl;have fz1:=Lib.frozen_of_heap ko_2.here 1;have cz2:=ko_2.here.cell 2 _ rfl;have fz2:=Lib.frozen_of_heap ko_2.here 2;have HBZ2:=Lib.hid hBB.out.size;clear hBB))
 have bb2:=BBF.out _ HC2.out
 replace ka:=ka.chg HC2.out (fun i hi hm=>by simp at hi hm;omega)
 replace ko:=ko_2
 have oi:=oi_2
 have HW:=Lib.hid (newQb_at (r:=w.heap.size+1) (b:=Q.2) of lf (by have:=HBZ2.out;omega) (by omega) bb2)
 clear of ko ka oi
 go_wp2
 refine bodyPost_ret (v:=.tuple #[.agg #[.bool _,.slice Af _ cf,.slice Bf _ df],.bool _]) (by simp [results,Tryz.results190,go_sem,cz0,cz1,cz2];exact ⟨⟨rfl,rfl,rfl⟩,rfl⟩) rfl ?_
 exact HW.out
def ratM (m:MI):QI:=if okM m = true then (makeQ m.2 (ofZ 1)).1 else zeroQ
set_option maxHeartbeats 2000000 in
theorem specMoneyRat_any (vm:Value) (m:MI) (w:World) (hz:szS m.2 ≤ 1048576) (hm:OwnM vm m w):Calls Tryz.prog 129 #[vm] w (NewV (fun v=>OwnQ v (ratM m)) w):=by
 have Hm:=Lib.hid hm
 obtain ⟨Am,cm,rfl⟩:=ownM_form hm
 have OMm:=Lib.hid (show ∀ W,Below w.heap.size w W→OwnM (.agg #[.string m.1,.bool m.2.1,.slice Am m.2.2.length cm]) m W from fun W hb=>OwnM.below Hm.out hb)
 have OSm:=Lib.hid (show ∀ W,Below w.heap.size w W→OwnS (.agg #[.bool m.2.1,.slice Am m.2.2.length cm]) m.2 W from fun W hb=>OwnS.mk (ownM_open (OMm.out W hb)))
 clear hm
 have hl:m.2.2.length ≤ 1048576:=by unfold szS szI at hz;omega
 have bb0:Below w.heap.size w ((w.alloc (.cells #[.string m.1,.bool m.2.1,.slice Am m.2.2.length cm] 32)).alloc (.cells #[.bool false,.slice none 0 0,.slice none 0 0] 36)):=below_al (below_al (Below.refl _ _) _) _
 have km:=(box_new w #[.string m.1,.bool m.2.1,.slice Am m.2.2.length cm] 32).below (below_al (Below.refl _ _) (.cells #[.bool false,.slice none 0 0,.slice none 0 0] 36))
 have ko:=box_new (w.alloc (.cells #[.string m.1,.bool m.2.1,.slice Am m.2.2.length cm] 32)) #[.bool false,.slice none 0 0,.slice none 0 0] 36
 rw [show (w.alloc (.cells #[.string m.1,.bool m.2.1,.slice Am m.2.2.length cm] 32)).heap.size = w.heap.size+1 by simp] at ko
 have hko:=ko.lt (w.heap.size+1) (by simp)
 have HKO:=Lib.hid hko
 go_enter Tryz.func129,Tryz.ntmps129
 have km_c0:=km.here.cell 0 _ rfl
 have km_c1:=km.here.cell 1 _ rfl
 have km_c2:=km.here.cell 2 _ rfl
 go_wp2_with fail
 clear km_c0 km_c1 km_c2 hko
 refine (specMoneyOk_any _ m _ hl (OMm.out _ bb0)).mono ?_
 rintro e w1 ⟨rfl,b1⟩
 have bb1:=Below.next bb0 b1
 replace km:=km.below b1
 replace ko:=ko.below b1
 by_cases hk:okM m = true
 ·rw [hk]
  have HV:=Lib.hid (show ratM m = (makeQ m.2 (ofZ 1)).1 by unfold ratM;rw [if_pos hk])
  clear hk
  have km_c0:=km.here.cell 0 _ rfl
  have km_c1:=km.here.cell 1 _ rfl
  have km_c2:=km.here.cell 2 _ rfl
  go_wp2_with fail
  clear km_c0 km_c1 km_c2
  refine (specRatInt_any _ m.2 _ hz (OSm.out _ bb1)).mono ?_
  generalize makeQ m.2 (ofZ 1) = Q at *
  rintro e w2 ⟨uf,Sf,rfl,of,lf,b2⟩
  obtain ⟨Af,cf,Bf,df,rfl⟩:=ownQ_form of.here
  have bb2:=Below.next bb1 b2
  have al:=below_al (Below.refl w2.heap.size w2) (.cells #[.bool Q.1.1.1,.slice Af Q.1.1.2.length cf,.slice Bf Q.1.2.length df] 36)
  have kr:=box_new w2 #[.bool Q.1.1.1,.slice Af Q.1.1.2.length cf,.slice Bf Q.1.2.length df] 36
  have z1:=b1.size
  have hz0:=HKO.out
  have HW:=Lib.hid (newV_chg (φ:=fun v=>OwnQ v Q.1) (T:=[w.heap.size+1]) (of.below al) (fun i hi hm=>by have:=(lf i hi).1;simp at hm;omega) (fun i hi=>by simp at hi;omega) (fun i hi=>by have:=(lf i hi).1;have:=bb1.size;omega) (Below.next bb2 al))
  have ko2:=(ko.below b2).below al
  have cz0:=ko2.here.cell 0 _ rfl
  have cz1:=ko2.here.cell 1 _ rfl
  have cz2:=ko2.here.cell 2 _ rfl
  have fz0:=Lib.frozen_of_heap ko2.here 0
  have fz1:=Lib.frozen_of_heap ko2.here 1
  have fz2:=Lib.frozen_of_heap ko2.here 2
  have kr0:=kr.here.cell 0 _ rfl
  have kr1:=kr.here.cell 1 _ rfl
  have kr2:=kr.here.cell 2 _ rfl
  clear ko ko2 of al kr km bb2 b2 hz0
  go_wp2
  refine bodyPost_ret (v:=.agg #[.bool Q.1.1.1,.slice Af Q.1.1.2.length cf,.slice Bf Q.1.2.length df]) (by simp [results,Tryz.results129,go_sem,cz0,cz1,cz2]) rfl ?_
  rw [HV.out]
  refine HW.out _ ?_
  repeat (first | exact Chg.refl _ _ | refine Chg.setCell ?_ (by simp) _)
 ·have hk':okM m = false:=by simpa using hk
  rw [hk']
  have HV:=Lib.hid (show ratM m = zeroQ by unfold ratM;rw [if_neg hk])
  clear hk hk'
  have cz0:=ko.here.cell 0 _ rfl
  have cz1:=ko.here.cell 1 _ rfl
  have cz2:=ko.here.cell 2 _ rfl
  have fz0:=Lib.frozen_of_heap ko.here 0
  have fz1:=Lib.frozen_of_heap ko.here 1
  have fz2:=Lib.frozen_of_heap ko.here 2
  have HW:=Lib.hid (newV_chg (φ:=fun v=>OwnQ v zeroQ) (v:=.agg #[.bool false,.slice none 0 0,.slice none 0 0]) (T:=[w.heap.size+1]) (S:=[]) ⟨⟨_,_,rfl,World.ownsRow_nil _ _ _ _,World.ownsRow_nil _ _ _ _,fun g hg=>by cases hg⟩,fun _ hg=>absurd hg List.not_mem_nil,fun w' _=>⟨_,_,rfl,World.ownsRow_nil _ _ _ _,World.ownsRow_nil _ _ _ _,fun g hg=>by cases hg⟩⟩ (fun i hi=>absurd hi List.not_mem_nil) (fun i hi=>by simp at hi;omega) (fun i hi=>absurd hi List.not_mem_nil) bb1)
  clear ko km
  go_wp2
  refine bodyPost_ret (v:=.agg #[.bool false,.slice none 0 0,.slice none 0 0]) (by simp [results,Tryz.results129,go_sem,cz0,cz1,cz2]) rfl ?_
  rw [HV.out]
  refine HW.out _ ?_
  repeat (first | exact Chg.refl _ _ | refine Chg.setCell ?_ (by simp) _)
set_option maxHeartbeats 1000000 in
theorem specDecOk_any (vd:Value) (d:DI) (w:World) (hl:d.1.2.length ≤ 1048576) (hd:OwnD vd d w) :
 Calls Tryz.prog 236 #[vd] w (Postb (okD d) w):=by
 have Hd:=Lib.hid hd
 obtain ⟨Ad,cd,rfl⟩:=ownD_form hd
 have ODd:=Lib.hid (show ∀ W,Below w.heap.size w W→OwnD (.agg #[.bool d.1.1,.slice Ad d.1.2.length cd,.int .i64 d.2]) d W from fun W hb=>OwnD.below Hd.out hb)
 have OId:=Lib.hid (show ∀ W,Below w.heap.size w W→OwnI (.slice Ad d.1.2.length cd) d.1.2 W from fun W hb=>ownD_open (ODd.out W hb))
 have OSd:=Lib.hid (show ∀ W,Below w.heap.size w W→OwnS (.agg #[.bool d.1.1,.slice Ad d.1.2.length cd]) d.1 W from fun W hb=>OwnS.mk (OId.out W hb))
 clear hd
 have bb0:Below w.heap.size w (w.alloc (.cells #[.bool d.1.1,.slice Ad d.1.2.length cd,.int .i64 d.2] 52)):=below_al (Below.refl _ _) _
 have kd:=(box_new w #[.bool d.1.1,.slice Ad d.1.2.length cd,.int .i64 d.2] 52)
 go_enter Tryz.func236,Tryz.ntmps236
 have kd_c0:=kd.here.cell 0 _ rfl
 have kd_c1:=kd.here.cell 1 _ rfl
 have kd_c2:=kd.here.cell 2 _ rfl
 go_wp2_with fail
 clear kd_c0 kd_c1 kd_c2
 refine (specIntOk_any _ d.1 _ hl (OwnS.rd (OSd.out _ bb0))).mono ?_
 rintro e w1 ⟨rfl,b1⟩
 have bb1:=Below.next bb0 b1
 replace kd:=kd.below b1
 by_cases ok1:okS d.1 = true
 ·rw [ok1]
  have HO1:=Lib.hid ok1
  clear ok1
  by_cases hs:d.1.2.length ≤ 6
  ·have HV0:=Lib.hid (show okD d = decide (0 ≤ d.2∧d.2 ≤ 30) by unfold okD;rw [HO1.out,decide_eq_true hs];rfl)
   have hs6:(d.1.2.length:Int) ≤ 6:=by omega
   have hs7:¬ (6:Int) < (d.1.2.length:Int):=by omega
   clear hs
   have kd_c0:=kd.here.cell 0 _ rfl
   have kd_c1:=kd.here.cell 1 _ rfl
   have kd_c2:=kd.here.cell 2 _ rfl
   go_wp2_with fail
   clear kd_c0 kd_c1 kd_c2
   refine (specIn_any d.2 0 30 _ _ rfl).mono ?_
   rintro e w_ ⟨rfl,rfl⟩
   have HV:=Lib.hid (show okD d = inB d.2 0 30 from HV0.out)
   generalize inB d.2 0 30 = b at *
   clear kd
   go_wp2
   go_ret
   exact ⟨ret_bool HV.out.symm,bb1⟩
  ·have HV:=Lib.hid (show okD d = false by unfold okD;rw [decide_eq_false hs,Bool.false_and,Bool.and_false])
   have hs6:¬ (d.1.2.length:Int) ≤ 6:=by omega
   have hs7:(6:Int) < (d.1.2.length:Int):=by omega
   clear hs
   have kd_c0:=kd.here.cell 0 _ rfl
   have kd_c1:=kd.here.cell 1 _ rfl
   have kd_c2:=kd.here.cell 2 _ rfl
   go_wp2
   go_ret
   exact ⟨ret_bool HV.out.symm,bb1⟩
 ·have ok1':okS d.1 = false:=by simpa using ok1
  have HV:=Lib.hid (show okD d = false by unfold okD;rw [ok1'];rfl)
  rw [ok1']
  clear ok1 ok1'
  go_wp2
  go_ret
  exact ⟨ret_bool HV.out.symm,bb1⟩
set_option maxHeartbeats 1000000 in
theorem l07Ten_any (k:Int) (w:World):Calls Tryz.prog 194 #[.int .i64 k] w (NewV (fun u=>OwnS u (tenS k)) w):=by
 have bb0:Below w.heap.size w (w.alloc (.cells #[.bool false,.slice none 0 0] 30)):=below_al (Below.refl _ _) _
 have ko:=(box_new w #[.bool false,.slice none 0 0] 30)
 have HKO:=Lib.hid (ko.lt w.heap.size (by simp))
 go_enter Tryz.func194,Tryz.ntmps194
 go_wp2_with fail
 refine (specNatTen_any k _).mono ?_
 rintro e w1 ⟨v,rfl,o0,b1⟩
 obtain ⟨Af,cf,rfl⟩:=own_len o0
 have bb1:=Below.next bb0 b1
 replace ko:=ko.below b1
 have of:=(own_at' o0).imp (fun _ h=>(OwnS.mk h:OwnS (.agg #[.bool (tenS k).1,.slice Af (tenN k).length cf]) (tenS k) _))
 have lf:=own_within o0
 clear o0
 have HR:=Lib.hid (newV_chg (φ:=fun u=>OwnS u (tenS k)) (v:=.agg #[.bool false,.slice Af (tenN k).length cf]) (T:=[w.heap.size]) of (fun i hi hm=>by have:=lf i hi;have:=HKO.out;simp at hm;omega) (fun i hi=>by simp at hi;omega) (fun i hi=>by have:=lf i hi;have:=HKO.out;omega) bb1)
 have cz0:=ko.here.cell 0 _ rfl
 have fz0:=Lib.frozen_of_heap ko.here 0
 have cz1:=ko.here.cell 1 _ rfl
 have fz1:=Lib.frozen_of_heap ko.here 1
 clear of ko
 go_wp2
 refine bodyPost_ret (v:=.agg #[.bool false,.slice Af (tenN k).length cf]) (by simp [results,Tryz.results194,go_sem,cz0,cz1]) rfl ?_
 refine HR.out _ ?_
 repeat (first | exact Chg.refl _ _ | refine Chg.setCell ?_ (by simp) _)
def unitC (n:ByteArray):QI:=if knownC n = true then (tenS (placesC n),[1]) else zeroQ
set_option maxHeartbeats 2000000 in
theorem specCurUnit_any (n:ByteArray) (w:World):Calls Tryz.prog 116 #[.string n] w (NewV (fun v=>OwnQ v (unitC n)) w):=by
 have ko:=box_new w #[.bool false,.slice none 0 0,.slice none 0 0] 36
 have bb0:=below_al (Below.refl w.heap.size w) (.cells #[.bool false,.slice none 0 0,.slice none 0 0] 36)
 have HKO:=Lib.hid (ko.lt w.heap.size (by simp))
 obtain ⟨W0,hW0⟩:∃ W0,W0 = w.alloc (.cells #[.bool false,.slice none 0 0,.slice none 0 0] 36):=⟨_,rfl⟩
 rw [← hW0] at ko bb0 HKO
 have HW0:=Lib.hid hW0
 clear hW0
 go_enter Tryz.func116,Tryz.ntmps116
 go_wp2_with fail
 rw [← HW0.out]
 refine (specCurKnown_any n _).mono ?_
 rintro e w1 ⟨rfl,b1⟩
 have bb1:=Below.next bb0 b1
 replace ko:=ko.below b1
 by_cases hk:knownC n = true
 ·rw [hk]
  have HV:=Lib.hid (show unitC n = (tenS (placesC n),[1]) by unfold unitC;rw [if_pos hk])
  clear hk
  go_wp2_with fail
  refine (specCurPlaces_any n _).mono ?_
  rintro e w2 ⟨rfl,b2⟩
  have bb2:=Below.next bb1 b2
  replace ko:=ko.below b2
  generalize placesC n = k at *
  go_wp2_with fail
  refine (l07Ten_any k _).mono ?_
  rintro e w3 ⟨us,Ss,rfl,os,ls,b3⟩
  obtain ⟨As,cs,rfl⟩:=ownS_form os.here
  have bb3:=Below.next bb2 b3
  replace ko:=ko.below b3
  have al:=below_al (Below.refl w3.heap.size w3) (.cells #[.int .i64 1] 3)
  have ob:=at_ints_mem os (fun w' h=>ownS_open h)
  have z1:=b1.size
  have z2:=b2.size
  have hz:=HKO.out
  have oq:At (partsB (.slice As (tenS k).2.length cs) (.slice (some ⟨w3.heap.size,0,none⟩) 1 1)) (OwnQ (.agg #[.bool (tenS k).1,.slice As (tenS k).2.length cs,.slice (some ⟨w3.heap.size,0,none⟩) 1 1]) (tenS k,[1])) (w3.alloc (.cells #[.int .i64 1] 3)) :=
   partsQ_at (x:=(tenS k,[1])) (B:=0) (C:=0) (own_below (ownS_open os.here) al) ⟨rfl,.inr ⟨w3.heap.size,1,#[.int .i64 1],rfl,Nat.zero_le _,heap_alloc_new w3 _,Nat.le_refl _,by decide,rfl,rfl⟩⟩
    (fun g hg e=>by have h1:=(ls g (ob g hg)).2;have h2:=Option.some.inj (show some w3.heap.size = some g from e);omega)
  have hin:∀ i ∈ partsB (.slice As (tenS k).2.length cs) (.slice (some ⟨w3.heap.size,0,none⟩) 1 1),W0.heap.size ≤ i:=fun i hi=>by
   rcases List.mem_append.1 hi with hi | hi
   ·have:=(ls i (ob i (by simpa using hi))).1;omega
   ·have h2:i = w3.heap.size:=by simpa [Value.ownBlock] using hi
    have:=b3.size;omega
  have HW:=Lib.hid (newV_chg (φ:=fun v=>OwnQ v (tenS k,[1])) (T:=[w.heap.size]) oq (fun i hi hm=>by have:=hin i hi;simp at hm;omega) (fun i hi=>by simp at hi;omega) (fun i hi=>by have:=hin i hi;have:=bb0.size;omega) (Below.next bb3 al))
  have ko2:=ko.below al
  have cz0:=ko2.here.cell 0 _ rfl
  have cz1:=ko2.here.cell 1 _ rfl
  have cz2:=ko2.here.cell 2 _ rfl
  have fz0:=Lib.frozen_of_heap ko2.here 0
  have fz1:=Lib.frozen_of_heap ko2.here 1
  have fz2:=Lib.frozen_of_heap ko2.here 2
  clear ko ko2 os oq hin ob al bb3 b3
  go_wp2
  refine bodyPost_ret (v:=.agg #[.bool (tenS k).1,.slice As (tenS k).2.length cs,.slice (some ⟨w3.heap.size,0,none⟩) 1 1]) (by simp [results,Tryz.results116,go_sem,cz0,cz1,cz2]) rfl ?_
  rw [HV.out]
  refine HW.out _ ?_
  repeat (first | exact Chg.refl _ _ | refine Chg.setCell ?_ (by simp) _)
 ·have hk':knownC n = false:=by simpa using hk
  rw [hk']
  have HV:=Lib.hid (show unitC n = zeroQ by unfold unitC;rw [if_neg hk])
  clear hk hk'
  have cz0:=ko.here.cell 0 _ rfl
  have cz1:=ko.here.cell 1 _ rfl
  have cz2:=ko.here.cell 2 _ rfl
  have fz0:=Lib.frozen_of_heap ko.here 0
  have fz1:=Lib.frozen_of_heap ko.here 1
  have fz2:=Lib.frozen_of_heap ko.here 2
  have HW:=Lib.hid (newV_chg (φ:=fun v=>OwnQ v zeroQ) (v:=.agg #[.bool false,.slice none 0 0,.slice none 0 0]) (T:=[w.heap.size]) (S:=[]) ⟨⟨_,_,rfl,World.ownsRow_nil _ _ _ _,World.ownsRow_nil _ _ _ _,fun g hg=>by cases hg⟩,fun _ hg=>absurd hg List.not_mem_nil,fun w' _=>⟨_,_,rfl,World.ownsRow_nil _ _ _ _,World.ownsRow_nil _ _ _ _,fun g hg=>by cases hg⟩⟩ (fun i hi=>absurd hi List.not_mem_nil) (fun i hi=>by simp at hi;omega) (fun i hi=>absurd hi List.not_mem_nil) bb1)
  clear ko
  go_wp2
  refine bodyPost_ret (v:=.agg #[.bool false,.slice none 0 0,.slice none 0 0]) (by simp [results,Tryz.results116,go_sem,cz0,cz1,cz2]) rfl ?_
  rw [HV.out]
  refine HW.out _ ?_
  repeat (first | exact Chg.refl _ _ | refine Chg.setCell ?_ (by simp) _)
theorem mulQ_zl (x:QI):mulQ zeroQ x = (zeroQ,false):=by unfold mulQ;rw [if_neg (fun h=>by have:=h.1;rw [show okQ zeroQ = false from rfl] at this;cases this)]
theorem mulQ_zr (x:QI):mulQ x zeroQ = (zeroQ,false):=by unfold mulQ;rw [if_neg (fun h=>by have:=h.2;rw [show okQ zeroQ = false from rfl] at this;cases this)]
theorem addQ_zl (x:QI):addQ zeroQ x = (zeroQ,false):=by unfold addQ;rw [if_neg (fun h=>by have:=h.1;rw [show okQ zeroQ = false from rfl] at this;cases this)]
theorem addQ_zr (x:QI):addQ x zeroQ = (zeroQ,false):=by unfold addQ;rw [if_neg (fun h=>by have:=h.2;rw [show okQ zeroQ = false from rfl] at this;cases this)]
theorem lowQ_no {n:Bool} {a b:Nat} (h:(lowQ n a b).2 = false):(lowQ n a b).1 = zeroQ:=by
 unfold lowQ at h ⊢
 split
 ·rename_i hc
  rw [if_pos hc] at h
  cases h
 ·rfl
theorem mulQ_no {r s:QI} (h:(mulQ r s).2 = false):(mulQ r s).1 = zeroQ:=by
 unfold mulQ at h ⊢
 split
 ·rename_i hc
  rw [if_pos hc] at h
  exact lowQ_no h
 ·rfl
theorem addQ_no {r s:QI} (h:(addQ r s).2 = false):(addQ r s).1 = zeroQ:=by
 unfold addQ at h ⊢
 split
 ·rename_i hc
  rw [if_pos hc] at h
  exact lowQ_no h
 ·rfl
theorem rmB_zero (c:ByteArray) (m:Int):rmB c zeroQ m = false:=by
 have h:restB zeroQ m = false:=by
  unfold restB roundR
  rw [if_neg (fun h=>by have:=h.1;rw [show okQ zeroQ = false from rfl] at this;cases this)]
  rfl
 unfold rmB
 rw [h]
 rfl
def facU (a b:ByteArray):QI:=(divQ (unitC b) (unitC a)).1
def unitR (t:TI) (a b:ByteArray):QI × Bool:=if (rateT t a b).2 = true then mulQ (rateT t a b).1 (facU a b) else (zeroQ,false)
def exactR (t:TI) (m:MI) (c:ByteArray):QI × Bool:=if (unitR t m.1 c).2 = true∧okM m = true then mulQ (ratM m) (unitR t m.1 c).1 else (zeroQ,false)
theorem rateT_no {t:TI} {a b:ByteArray} (h:¬ (rateT t a b).2 = true):(rateT t a b).1 = zeroQ:=by
 rw [find_rate] at h ⊢
 have h0:(findT t a b).2 = 0:=by simpa using h
 show (findT t a b).1 = zeroQ
 unfold findT at h0 ⊢
 split at h0
 ·rename_i hk
  rw [if_pos hk]
  split at h0
  ·cases h0
  ·rename_i hab
   rw [if_neg hab]
   split at h0
   ·rename_i hl
    rw [if_pos hl]
    unfold pivT at h0 ⊢
    split at h0
    ·rename_i hp
     rw [if_pos hp]
    ·cases h0
   ·rename_i hl
    exact absurd h0 hl
 ·rename_i hk
  rw [if_neg hk]
theorem unit_impl (t:TI) (a b:ByteArray):mulQ (rateT t a b).1 (facU a b) = unitR t a b:=by
 unfold unitR
 by_cases h:(rateT t a b).2 = true
 ·rw [if_pos h]
 ·rw [if_neg h,rateT_no h,mulQ_zl]
theorem unitR_no {t:TI} {a b:ByteArray} (h:¬ (unitR t a b).2 = true):(unitR t a b).1 = zeroQ:=by
 rw [← unit_impl] at h ⊢
 exact mulQ_no (by simpa using h)
theorem ratM_no {m:MI} (h:¬ okM m = true):ratM m = zeroQ:=by unfold ratM;rw [if_neg h]
theorem exact_impl (t:TI) (m:MI) (c:ByteArray):mulQ (ratM m) (unitR t m.1 c).1 = exactR t m c:=by
 unfold exactR
 by_cases h1:(unitR t m.1 c).2 = true
 ·by_cases h2:okM m = true
  ·rw [if_pos ⟨h1,h2⟩]
  ·rw [if_neg (fun h=>h2 h.2),ratM_no h2,mulQ_zl]
 ·rw [if_neg (fun h=>h1 h.1),unitR_no h1,mulQ_zr]
theorem exactR_no {t:TI} {m:MI} {c:ByteArray} (h:¬ (exactR t m c).2 = true):(exactR t m c).1 = zeroQ:=by
 rw [← exact_impl] at h ⊢
 exact mulQ_no (by simpa using h)
theorem mulQ_szC (r s:QI):szQ (mulQ r s).1 ≤ 1048576:=by unfold mulQ;split;exact lowQ_sz _ _ _;decide
theorem divQ_szC (r s:QI):szQ (divQ r s).1 ≤ 1048576:=by unfold divQ;split;exact lowQ_sz _ _ _;decide
theorem addQ_szC (r s:QI):szQ (addQ r s).1 ≤ 1048576:=by unfold addQ;split;exact lowQ_sz _ _ _;decide
theorem rateT_szC (t:TI) (a b:ByteArray):szQ (rateT t a b).1 ≤ 1048576:=by rw [find_rate];exact findT_sz t a b
theorem unitC_szC (n:ByteArray):szQ (unitC n) ≤ 1048576:=by
 unfold unitC
 split
 ·have h:=tenN_len (placesC n)
  have e:(tenS (placesC n)).2.length = (tenN (placesC n)).length:=rfl
  unfold szQ szS szI
  dsimp only
  rw [e,show ([1]:List Int).length = 1 from rfl]
  omega
 ·decide
theorem ratM_szC (a:MI):szQ (ratM a) ≤ 1048576:=by unfold ratM;split;(unfold makeQ;split;exact lowQ_sz _ _ _;decide);decide
theorem subQ_szC (r s:QI):szQ (subQ r s).1 ≤ 1048576:=by
 unfold subQ
 split
 ·exact (by unfold addQ;split;exact lowQ_sz _ _ _;decide:szQ (addQ r (negQ s).1).1 ≤ 1048576)
 ·decide
theorem restQ_szC (r:QI) (m:Int):szQ (restQ r m) ≤ 1048576:=by unfold restQ;split;exact subQ_szC _ _;decide
theorem rm_szC (c:ByteArray) (r:QI) (m:Int):szM (rmM c r m) ≤ 1048576:=(rm_sz c r m (restQ_szC r m)).1
theorem rmQ_szC (c:ByteArray) (r:QI) (m:Int):szQ (rmQ c r m) ≤ 1048576:=(rm_sz c r m (restQ_szC r m)).2
theorem unitR_sz (t:TI) (a b:ByteArray):szQ (unitR t a b).1 ≤ 1048576:=by rw [← unit_impl];exact mulQ_szC _ _
theorem exactR_sz (t:TI) (m:MI) (c:ByteArray):szQ (exactR t m c).1 ≤ 1048576:=by rw [← exact_impl];exact mulQ_szC _ _
def sumQ (t:TI) (c:ByteArray) (l:List MI):QI:=l.foldl (fun s m=>(addQ s (exactR t m c).1).1) oneQ
theorem sumQ_snoc (t:TI) (c:ByteArray) (l:List MI) (m:MI):sumQ t c (l ++ [m]) = (addQ (sumQ t c l) (exactR t m c).1).1:=by unfold sumQ;rw [List.foldl_append];rfl
theorem sumQ_sz (t:TI) (c:ByteArray) (l:List MI):szQ (sumQ t c l) ≤ 1048576:=by
 rcases List.eq_nil_or_concat l with rfl | ⟨r,x,rfl⟩
 ·show szQ oneQ ≤ 1048576
  decide
 ·rw [List.concat_eq_append,sumQ_snoc];exact addQ_szC _ _
def formB (t:TI) (l:List MI) (c:ByteArray) (k:Int):Bool:=l.all okM && (okT t && (knownC c && modeB k))
def noneB (t:TI) (l:List MI) (c:ByteArray):Bool:=l.any fun m=>decide (howT t m.1 c = 0)
def cvN (t:TI) (l:List MI) (c:ByteArray) (k:Int):Int :=
 if formB t l c k = false then 1 else if noneB t l c = true then 2 else if rmB c (sumQ t c l) k = true then 0 else 3
def cvM (t:TI) (l:List MI) (c:ByteArray) (k:Int):MI:=if cvN t l c k = 0 then rmM c (sumQ t c l) k else zeroM
def cvQ (t:TI) (l:List MI) (c:ByteArray) (k:Int):QI:=if cvN t l c k = 0 then rmQ c (sumQ t c l) k else zeroQ
theorem cv_form {t:TI} {l:List MI} {c:ByteArray} {k:Int} (h:formB t l c k = false):cvM t l c k = zeroM∧cvQ t l c k = zeroQ∧cvN t l c k = 1:=by
 have e:cvN t l c k = 1:=by unfold cvN;rw [if_pos h]
 unfold cvM cvQ
 rw [e]
 exact ⟨rfl,rfl,rfl⟩
theorem cv_rate {t:TI} {l:List MI} {c:ByteArray} {k:Int} (h:formB t l c k = true) (h2:noneB t l c = true):cvM t l c k = zeroM∧cvQ t l c k = zeroQ∧cvN t l c k = 2:=by
 have e:cvN t l c k = 2:=by unfold cvN;rw [if_neg (by rw [h];decide),if_pos h2]
 unfold cvM cvQ
 rw [e]
 exact ⟨rfl,rfl,rfl⟩
theorem cv_large {t:TI} {l:List MI} {c:ByteArray} {k:Int} (h:formB t l c k = true) (h2:noneB t l c = false) (h3:rmB c (sumQ t c l) k = false):cvM t l c k = zeroM∧cvQ t l c k = zeroQ∧cvN t l c k = 3:=by
 have e:cvN t l c k = 3:=by unfold cvN;rw [if_neg (by rw [h];decide),if_neg (by rw [h2];decide),if_neg (by rw [h3];decide)]
 unfold cvM cvQ
 rw [e]
 exact ⟨rfl,rfl,rfl⟩
theorem cv_good {t:TI} {l:List MI} {c:ByteArray} {k:Int} (h:formB t l c k = true) (h2:noneB t l c = false) (h3:rmB c (sumQ t c l) k = true):cvM t l c k = rmM c (sumQ t c l) k∧cvQ t l c k = rmQ c (sumQ t c l) k∧cvN t l c k = 0:=by
 have e:cvN t l c k = 0:=by unfold cvN;rw [if_neg (by rw [h];decide),if_neg (by rw [h2];decide),if_pos h3]
 unfold cvM cvQ
 rw [e]
 exact ⟨rfl,rfl,rfl⟩
theorem postQb_isC {q:QI × Bool} {X:QI} {b:Bool} (e:q = (X,b)) {w w':World} {n:Ending} (h:PostQb q.1 q.2 w n w'):PostQb X b w n w':=by rw [e] at h;exact h
theorem newQb_chgC {R0:QI} {R1:Bool} {S T:List Nat} {v:Value} {w W:World} (o:At S (OwnQ v R0) W) (hd:∀ i ∈ S,i ∉ T) (hT:∀ i ∈ T,w.heap.size ≤ i) (l:∀ i ∈ S,w.heap.size ≤ i) (hW:Below w.heap.size w W) :
 ∀ W',Chg T W W'→PostQb R0 R1 w (.returned (.tuple #[v,.bool R1])) W' :=
 fun _ hc=>⟨v,S,rfl,o.chg hc hd,fun i hi=>⟨l i hi,Nat.lt_of_lt_of_le (o.lt i hi) hc.size⟩,below_chg hW hc hW.size hT⟩
theorem newQb_zeroC {T:List Nat} {w W:World} (hT:∀ i ∈ T,w.heap.size ≤ i) (hW:Below w.heap.size w W):∀ W',Chg T W W'→PostQb zeroQ false w (.returned (.tuple #[.agg #[.bool false,.slice none 0 0,.slice none 0 0],.bool false])) W' :=
 fun _ hc=>newQb_zero false (below_chg hW hc hW.size hT)
def PostMQn (R0:MI) (R1:QI) (R2:Int) (w:World) (e:Ending) (w':World):Prop :=
 ∃ (v u:Value) (S T:List Nat),e = .returned (.tuple #[v,u,.int .i64 R2])∧At S (OwnM v R0) w'∧At T (OwnQ u R1) w'∧(∀ g ∈ S,g ∉ T)∧Within S w.heap.size w'.heap.size∧Within T w.heap.size w'.heap.size∧Below w.heap.size w w'
theorem newMQn_chgC {R0:MI} {R1:QI} {R2:Int} {S D T:List Nat} {v u:Value} {w W:World} (o:At S (OwnM v R0) W) (q:At D (OwnQ u R1) W) (hap:∀ g ∈ S,g ∉ D) (hd:∀ i ∈ S,i ∉ T) (hd2:∀ i ∈ D,i ∉ T) (hT:∀ i ∈ T,w.heap.size ≤ i) (l:∀ i ∈ S,w.heap.size ≤ i) (l2:∀ i ∈ D,w.heap.size ≤ i) (hW:Below w.heap.size w W) :
 ∀ W',Chg T W W'→PostMQn R0 R1 R2 w (.returned (.tuple #[v,u,.int .i64 R2])) W' :=
 fun _ hc=>⟨v,u,S,D,rfl,o.chg hc hd,q.chg hc hd2,hap,fun i hi=>⟨l i hi,Nat.lt_of_lt_of_le (o.lt i hi) hc.size⟩,fun i hi=>⟨l2 i hi,Nat.lt_of_lt_of_le (q.lt i hi) hc.size⟩,below_chg hW hc hW.size hT⟩
theorem newMQn_zeroC {n:Int} {T:List Nat} {w W:World} (hT:∀ i ∈ T,w.heap.size ≤ i) (hW:Below w.heap.size w W):∀ W',Chg T W W'→PostMQn zeroM zeroQ n w (.returned (.tuple #[.agg #[.string ⟨#[]⟩,.bool false,.slice none 0 0],.agg #[.bool false,.slice none 0 0,.slice none 0 0],.int .i64 n])) W' :=
 fun _ hc=>⟨_,_,[],[],rfl,atM_zero _,⟨ownQ_zero _,fun _ hg=>absurd hg List.not_mem_nil,fun _ _=>ownQ_zero _⟩,fun _ hg=>absurd hg List.not_mem_nil,fun _ hg=>absurd hg List.not_mem_nil,fun _ hg=>absurd hg List.not_mem_nil,below_chg hW hc hW.size hT⟩
theorem szML_mem {l:List MI} {x:MI} (h:x ∈ l):szM x ≤ szML l:=by
 induction l with
 | nil=>cases h
 | cons y l ih =>
   have h0:=szML_nonneg l
   have hy:=szM_nonneg y
   show _ ≤ szM y+szML l
   rcases List.mem_cons.1 h with rfl | h
   ·omega
   ·have:=ih h;omega
theorem mkML_sz (l:List MI):mkML l ≤ 2 * l.length+szML l:=by
 induction l with
 | nil=>exact Int.le_refl _
 | cons x l ih=>show 2+szS x.2+mkML l ≤ 2 * ((l.length+1:Nat):Int)+(szM x+szML l);unfold szM;omega
set_option maxHeartbeats 8000000 in
theorem lawConvertSum_walk (va vl:Value) (a:TI) (l:List MI) (q:ByteArray) (k:Int) (R0:MI) (R1:QI) (R2:Int) (w:World)
 (hS:∀ (ua ul:Value) (lo hi:Nat) (W:World),OwnT ua a W→OwnML ul l lo hi W→Calls Tryz.prog 63 #[ua,ul,.string q,.int .i64 k] W (PostMQn R0 R1 R2 W))
 (hI:∀ (ua ul:Value) (lo hi:Nat) (W:World),OwnT ua a W→OwnML ul l lo hi W→CurTab W→Sen W→ErrTy W→Calls Tryz.prog 42 #[ua,ul,.string q,.int .i64 k] W (PostMQn R0 R1 R2 W))
 (ht0:CurTab w) (ht1:Sen w) (ht2:ErrTy w) (hl:szT a+(l.length+szML l) ≤ 1048576) (hlq:q.size ≤ 1048576) (hlR0:szM R0 ≤ 1048576) (hlR1:szQ R1 ≤ 1048576) (ra:RdT w va a) (rl:RdML w vl l) :
 Calls Tryz.prog 12 #[va,vl,.string q,.int .i64 k] w fun e w'=>e = .returned (.bool true)∧Below w.heap.size w w':=by
 have HS:=Lib.hid hS
 have HI:=Lib.hid hI
 clear hS hI
 have HT0:=Lib.hid ht0
 clear ht0
 have HT1:=Lib.hid ht1
 clear ht1
 have HT2:=Lib.hid ht2
 clear ht2
 have hsa:=szT_nonneg a
 have hsR0:=szM_nonneg R0
 have hsR1:=szQ_nonneg R1
 have hma:=mkT_range a
 have hmR0:=mkM_range R0
 have hsl:=szML_nonneg l
 have hmk0:=mkML_nonneg l
 have hmk1:=mkML_sz l
 have hll:l.length ≤ 1048576:=by omega
 have HLX:=Lib.hid (show ∀ x ∈ l,szM x ≤ 1048576 from fun x hx=>by have:=szML_mem hx;omega)
 have HLX':=Lib.hid (show ∀ x ∈ l,capM x from fun x hx=>capM_of (HLX.out x hx))
 obtain ⟨Al,cl,rfl,_⟩:=id rl
 have RFl:Hid (∀ W,Below w.heap.size w W→RdML W (.slice Al l.length cl) l):=Lib.hid fun W hb=>rl.below hb
 have hza:szT a ≤ 1048576:=by omega
 obtain ⟨Aa,ca,rfl⟩:=rdT_form ra
 have bb0:Below w.heap.size w (w.alloc (.cells #[.string a.1,.slice Aa a.2.length ca] 78)):=below_al (Below.refl _ _) _
 have ka:=(box_new w #[.string a.1,.slice Aa a.2.length ca] 78)
 have RFa:Hid (∀ W,Below w.heap.size w W→RdT W (.agg #[.string a.1,.slice Aa a.2.length ca]) a):=Lib.hid fun W hb=>ra.below hb
 go_enter Tryz.func12,Tryz.ntmps12
 have ka_c0:=ka.here.cell 0 _ rfl
 have ka_c1:=ka.here.cell 1 _ rfl
 go_wp2_with fail
 clear ka_c0 ka_c1
 refine (szT_cal _ a (1048576) _ (capT_of hza) (by omega) (by omega) (RFa.out _ bb0)).mono ?_
 rintro e w1 ⟨rfl,b1⟩
 rw [leftI_of (by omega)]
 have bb1:=Below.next bb0 b1
 replace ka:=ka.below b1
 have hn:decide (((1048576:Int) - szT a:Int) < 0) = false:=decide_eq_false (by omega)
 go_wp2_with fail
 refine (szMoneyS_any _ l (1048576 - szT a) _ (by omega) HLX'.out (by omega) (by omega) (RFl.out _ bb1)).mono ?_
 rintro e w2 ⟨rfl,b2⟩
 rw [leftI_of (by omega)]
 have bb2:=Below.next bb1 b2
 replace ka:=ka.below b2
 clear hn
 have hn:decide (((1048576:Int) - szT a - (l.length+szML l):Int) < 0) = false:=decide_eq_false (by omega)
 have HKa:=Lib.hid (ka.lt (w.heap.size) (by simp))
 have ka_c0:=ka.here.cell 0 _ rfl
 have ka_c1:=ka.here.cell 1 _ rfl
 go_upto_region 10 with fail
 go_cut [10,11,12] (fun s t c2 wx=>NewLocP 32 36 (fun v=>OwnM v R0) (fun v=>OwnQ v R1) w2 s t wx∧c2 = .int .i64 R2)
 case first =>
  go_wp2_with fail
  refine (toT_new _ a _ hza (RFa.out _ bb2)).mono ?_
  rintro e wt ⟨ut,St,rfl,ot,lt,bt⟩
  have bbt:=Below.next bb2 bt
  go_wp2_with fail
  refine (toMoneyS_any _ l _ hll HLX.out (RFl.out _ bbt)).mono ?_
  rintro e wu ⟨uu,rfl,ou,bu⟩
  have HOU:=Lib.hid ou
  obtain ⟨gt_,et_,rfl,_⟩:=ou
  have bbu:=Below.next bbt bu
  have b2u:=Below.next bt bu
  go_wp2_with fail
  refine (HS.out _ _ _ _ _ (ot.below bu).here HOU.out).mono ?_
  rintro e wf ⟨uf,vf,Sf,Df,rfl,of,pf,hapf,lf,kf,bf⟩
  obtain ⟨Af,cf,rfl⟩:=ownM_form of.here
  obtain ⟨Ah,ch,Bh,dh,rfl⟩:=ownQ_form pf.here
  have RY:=ReadyP.of (BxP.nil_ b2u) bf of pf hapf lf kf
  go_wp2_with fail
  go_meet
  first | exact ⟨locP_late RY,rfl⟩ | exact ⟨locP_late2 RY,rfl⟩
 rename World=>w3
 clear ka_c0 ka_c1
 obtain ⟨⟨gw0,gw1,csw0,csw1,Sw0,Sw1,rfl,rfl,kw0,kw1,ow0,ow1,apw,nw0,nw1,lw0,lw1,b3⟩,rfl⟩:=hcut
 obtain ⟨Aw0,cw0,ew0⟩:=ownM_form ow0.here
 injection ew0 with ew0
 subst ew0
 obtain ⟨Aw1,cw1,Bw1,dw1,ew1⟩:=ownQ_form ow1.here
 injection ew1 with ew1
 subst ew1
 have HAPw:=Lib.hid apw
 clear apw
 have bb3:=Below.next bb2 b3
 replace ka:=ka.below b3
 have ka_c0:=ka.here.cell 0 _ rfl
 have ka_c1:=ka.here.cell 1 _ rfl
 go_upto_region 11 with fail
 go_cut [13] (fun s wx=>NewLocV 25 (fun v=>OwnT v a) w3 s wx)
 case first =>
  go_wp2_with fail
  refine (toT_new _ a _ hza (RFa.out _ bb3)).mono ?_
  rintro e wt ⟨ut,St,rfl,ot,lt,bt⟩
  obtain ⟨At,ct,rfl⟩:=ownT_form ot.here
  go_wp2_with fail
  go_meet
  exact newLocV_last ot lt (Nat.le_refl _) bt
 rename World=>w4
 clear ka_c0 ka_c1
 obtain ⟨gxa,csxa,Sxa,rfl,kxa,oxa,nxa,lxa,b4⟩:=hcut
 obtain ⟨Axa,cxa,exa⟩:=ownT_form oxa.here
 injection exa with exa
 subst exa
 have bb4:=Below.next bb3 b4
 replace ka:=ka.below b4
 replace kw0:=kw0.below b4
 replace ow0:=ow0.below b4
 replace kw1:=kw1.below b4
 replace ow1:=ow1.below b4
 go_wp2_with fail
 refine (toMoneyS_any _ l _ hll HLX.out (RFl.out _ bb4)).mono ?_
 rintro e w5 ⟨ux,rfl,ox,b5⟩
 have HXl:=Lib.hid ox
 obtain ⟨gx,ex,rfl,_⟩:=ox
 have bb5:=Below.next bb4 b5
 replace ka:=ka.below b5
 replace kw0:=kw0.below b5
 replace ow0:=ow0.below b5
 replace kw1:=kw1.below b5
 replace ow1:=ow1.below b5
 replace kxa:=kxa.below b5
 replace oxa:=oxa.below b5
 have kxa_c0:=kxa.here.cell 0 _ rfl
 have kxa_c1:=kxa.here.cell 1 _ rfl
 go_upto_region 13 with fail
 go_cut [15,16,17] (fun s t c2 wx=>NewLocP 32 36 (fun v=>OwnM v R0) (fun v=>OwnQ v R1) w5 s t wx∧c2 = .int .i64 R2)
 case first =>
  go_wp2_with fail
  refine (HI.out _ _ _ _ _ oxa.here HXl.out (HT0.out.below bb5) (HT1.out.below bb5) (HT2.out.below bb5)).mono ?_
  rintro e wf ⟨uf,vf,Sf,Df,rfl,of,pf,hapf,lf,kf,bf⟩
  obtain ⟨Af,cf,rfl⟩:=ownM_form of.here
  obtain ⟨Ah,ch,Bh,dh,rfl⟩:=ownQ_form pf.here
  have RY:=ReadyP.of (BxP.nil_ (Below.refl w5.heap.size w5)) bf of pf hapf lf kf
  go_wp2_with fail
  go_meet
  first | exact ⟨locP_late RY,rfl⟩ | exact ⟨locP_late2 RY,rfl⟩
 rename World=>w6
 clear kxa_c0 kxa_c1
 obtain ⟨⟨gg0,gg1,csg0,csg1,Sg0,Sg1,rfl,rfl,kg0,kg1,og0,og1,apg,ng0,ng1,lg0,lg1,b6⟩,rfl⟩:=hcut
 obtain ⟨Ag0,cg0,eg0⟩:=ownM_form og0.here
 injection eg0 with eg0
 subst eg0
 obtain ⟨Ag1,cg1,Bg1,dg1,eg1⟩:=ownQ_form og1.here
 injection eg1 with eg1
 subst eg1
 have HAPg:=Lib.hid apg
 clear apg
 have bb6:=Below.next bb5 b6
 replace ka:=ka.below b6
 replace kw0:=kw0.below b6
 replace ow0:=ow0.below b6
 replace kw1:=kw1.below b6
 replace ow1:=ow1.below b6
 replace kxa:=kxa.below b6
 replace oxa:=oxa.below b6
 replace HXl:=Lib.hid (HXl.out.below b6)
 have kg0_c0:=kg0.here.cell 0 _ rfl
 have kg0_c1:=kg0.here.cell 1 _ rfl
 have kg0_c2:=kg0.here.cell 2 _ rfl
 have kw0_c0:=kw0.here.cell 0 _ rfl
 have kw0_c1:=kw0.here.cell 1 _ rfl
 have kw0_c2:=kw0.here.cell 2 _ rfl
 go_wp2_with fail
 clear kg0_c0 kg0_c1 kg0_c2 kw0_c0 kw0_c1 kw0_c2
 refine (eqM_cal _ _ R0 R0 _ (capM_of (by omega)) (OwnM.rd og0.here) (OwnM.rd ow0.here)).mono ?_
 rintro e w7 ⟨rfl,b7⟩
 rw [decide_refl]
 have bb7:=Below.next bb6 b7
 replace ka:=ka.below b7
 replace kw0:=kw0.below b7
 replace ow0:=ow0.below b7
 replace kw1:=kw1.below b7
 replace ow1:=ow1.below b7
 replace kxa:=kxa.below b7
 replace oxa:=oxa.below b7
 replace HXl:=Lib.hid (HXl.out.below b7)
 replace kg0:=kg0.below b7
 replace og0:=og0.below b7
 replace kg1:=kg1.below b7
 replace og1:=og1.below b7
 have kg1_c0:=kg1.here.cell 0 _ rfl
 have kg1_c1:=kg1.here.cell 1 _ rfl
 have kg1_c2:=kg1.here.cell 2 _ rfl
 have kw1_c0:=kw1.here.cell 0 _ rfl
 have kw1_c1:=kw1.here.cell 1 _ rfl
 have kw1_c2:=kw1.here.cell 2 _ rfl
 go_wp2_with fail
 clear kg1_c0 kg1_c1 kg1_c2 kw1_c0 kw1_c1 kw1_c2
 refine (eqQ_cal _ _ R1 R1 _ (capQ_of (by omega)) (OwnQ.rd og1.here) (OwnQ.rd ow1.here)).mono ?_
 rintro e w8 ⟨rfl,b8⟩
 rw [decide_refl]
 have bb8:=Below.next bb7 b8
 replace ka:=ka.below b8
 replace kw0:=kw0.below b8
 replace ow0:=ow0.below b8
 replace kw1:=kw1.below b8
 replace ow1:=ow1.below b8
 replace kxa:=kxa.below b8
 replace oxa:=oxa.below b8
 replace HXl:=Lib.hid (HXl.out.below b8)
 replace kg0:=kg0.below b8
 replace og0:=og0.below b8
 replace kg1:=kg1.below b8
 replace og1:=og1.below b8
 have ka_c0:=ka.here.cell 0 _ rfl
 have ka_c1:=ka.here.cell 1 _ rfl
 have kxa_c0:=kxa.here.cell 0 _ rfl
 have kxa_c1:=kxa.here.cell 1 _ rfl
 go_wp2_with fail
 have HB0:=Lib.hid (show Below w8.heap.size w8 w8.drew from (Below.refl _ _).drew)
 have KL:=Lib.hid (show ∀ W,Below w8.heap.size w8 W→W.cell? ⟨w.heap.size,0,none⟩ = some (.string a.1)∧W.cell? ⟨w.heap.size,1,none⟩ = some (.slice Aa a.2.length ca)∧W.cell? ⟨gxa,0,none⟩ = some (.string a.1)∧W.cell? ⟨gxa,1,none⟩ = some (.slice Axa a.2.length cxa)∧Hid (Below w8.heap.size w8 W) from
  fun W hb=>⟨(ka.below hb).here.cell 0 _ rfl,(ka.below hb).here.cell 1 _ rfl,(kxa.below hb).here.cell 0 _ rfl,(kxa.below hb).here.cell 1 _ rfl,Lib.hid hb⟩)
 have BBF:=Lib.hid (show ∀ W,Below w8.heap.size w8 W→Below w.heap.size w W from fun W hb=>Below.next bb8 hb)
 have OXF:=Lib.hid (show ∀ W,Below w8.heap.size w8 W→OwnT (.agg #[.string a.1,.slice Axa a.2.length cxa]) a W from fun W hb=>(oxa.below hb).here)
 clear ka_c0 ka_c1 kxa_c0 kxa_c1
 go_region_held3 (fun W=>W.cell? ⟨w.heap.size,0,none⟩ = some (.string a.1)∧W.cell? ⟨w.heap.size,1,none⟩ = some (.slice Aa a.2.length ca)∧W.cell? ⟨gxa,0,none⟩ = some (.string a.1)∧W.cell? ⟨gxa,1,none⟩ = some (.slice Axa a.2.length cxa)∧Hid (Below w8.heap.size w8 W))
  ((refine KL.out _ ?_;(first | exact HBe.out | exact HBt.out | exact HB0.out | fail)))
  (first
    | (go_at_call 48;(have hBB:=(‹_∧_∧_∧_∧Hid (Below w8.heap.size w8 _)›).2.2.2.2);(with_reducible refine (toT_new _ a _ hza (RFa.out _ (BBF.out _ hBB.out))).mono ?_);rintro e wt ⟨t,St,rfl,ot,lt,bt⟩;have HBt:=Lib.hid (Below.next hBB.out bt);clear hBB)
    | (go_at_call 50;(have hBB:=(‹_∧_∧_∧_∧Hid (Below w8.heap.size w8 _)›).2.2.2.2);(with_reducible refine (eqT_cal _ _ a a _ (capTS_of hza) (OwnT.rd (OXF.out _ hBB.out)) (OwnT.rd ot.here)).mono ?_);rintro e w9 ⟨rfl,be⟩;rw [decide_refl];have HBe:=Lib.hid (Below.next hBB.out be);clear hBB))
 have b9:=HBe.out
 have bb9:=Below.next bb8 b9
 replace ka:=ka.below b9
 replace kw0:=kw0.below b9
 replace ow0:=ow0.below b9
 replace kw1:=kw1.below b9
 replace ow1:=ow1.below b9
 replace kxa:=kxa.below b9
 replace oxa:=oxa.below b9
 replace HXl:=Lib.hid (HXl.out.below b9)
 replace kg0:=kg0.below b9
 replace og0:=og0.below b9
 replace kg1:=kg1.below b9
 replace og1:=og1.below b9
 clear HB0 KL BBF OXF HBt HBe ot lt
 go_wp2_with fail
 refine (toMoneyS_any _ l _ hll HLX.out (RFl.out _ bb9)).mono ?_
 rintro e wt ⟨ut,rfl,ot,bt⟩
 have HOT:=Lib.hid ot
 obtain ⟨gt_,et_,rfl,_⟩:=ot
 go_wp2_with fail
 refine (eqMoneyS_any _ _ l l _ (by omega) HLX'.out (HXl.out.below bt).rd HOT.out.rd).mono ?_
 rintro e w10 ⟨rfl,be⟩
 rw [decide_refl]
 have b10:=Below.next bt be
 have bb10:=Below.next bb9 b10
 replace ka:=ka.below b10
 replace kw0:=kw0.below b10
 replace ow0:=ow0.below b10
 replace kw1:=kw1.below b10
 replace ow1:=ow1.below b10
 replace kxa:=kxa.below b10
 replace oxa:=oxa.below b10
 replace HXl:=Lib.hid (HXl.out.below b10)
 replace kg0:=kg0.below b10
 replace og0:=og0.below b10
 replace kg1:=kg1.below b10
 replace og1:=og1.below b10
 clear HOT be bt
 have z1:=b1.size
 have z2:=b2.size
 have z3:=b3.size
 have z4:=b4.size
 have z5:=b5.size
 have z6:=b6.size
 have z7:=b7.size
 have z8:=b8.size
 have z9:=b9.size
 have z10:=b10.size
 have AP_xa_g0:=Lib.hid (Within.apart lxa lg0 (.inl (by omega)))
 have AP_xa_g1:=Lib.hid (Within.apart lxa lg1 (.inl (by omega)))
 have AP_w0_xa:=Lib.hid (Within.apart lw0 lxa (.inl (by omega)))
 have AP_w0_g0:=Lib.hid (Within.apart lw0 lg0 (.inl (by omega)))
 have AP_w0_g1:=Lib.hid (Within.apart lw0 lg1 (.inl (by omega)))
 have AP_w1_xa:=Lib.hid (Within.apart lw1 lxa (.inl (by omega)))
 have AP_w1_g0:=Lib.hid (Within.apart lw1 lg0 (.inl (by omega)))
 have AP_w1_g1:=Lib.hid (Within.apart lw1 lg1 (.inl (by omega)))
 have AP_g0_g1:=HAPg
 have F_xa:=Lib.hid (Within.from (B:=w.heap.size) lxa (by have:=bb2.size;omega))
 have N_xa:=Lib.hid nxa
 have KX_a_xa:=Lib.hid (show ∀ i ∈ [w.heap.size],i ∉ gxa :: Sxa from fun i hi hm=>by have h1:=(lxa i hm).1;have h2:=HKa.out;simp at hi;omega)
 have F_g0:=Lib.hid (Within.from (B:=w.heap.size) lg0 (by have:=bb2.size;omega))
 have N_g0:=Lib.hid ng0
 have KX_a_g0:=Lib.hid (show ∀ i ∈ [w.heap.size],i ∉ gg0 :: Sg0 from fun i hi hm=>by have h1:=(lg0 i hm).1;have h2:=HKa.out;simp at hi;omega)
 have F_g1:=Lib.hid (Within.from (B:=w.heap.size) lg1 (by have:=bb2.size;omega))
 have N_g1:=Lib.hid ng1
 have KX_a_g1:=Lib.hid (show ∀ i ∈ [w.heap.size],i ∉ gg1 :: Sg1 from fun i hi hm=>by have h1:=(lg1 i hm).1;have h2:=HKa.out;simp at hi;omega)
 have AP_xa_l:=Lib.hid (show ∀ i ∈ gxa :: Sxa,i ∉ rangeM w4.heap.size w5.heap.size from fun i hi hm=>by have h1:=lxa i hi;have h2:=rangeM_mem hm;omega)
 have AP_g0_l:=Lib.hid (show ∀ i ∈ gg0 :: Sg0,i ∉ rangeM w4.heap.size w5.heap.size from fun i hi hm=>by have h1:=lg0 i hi;have h2:=rangeM_mem hm;omega)
 have AP_g1_l:=Lib.hid (show ∀ i ∈ gg1 :: Sg1,i ∉ rangeM w4.heap.size w5.heap.size from fun i hi hm=>by have h1:=lg1 i hi;have h2:=rangeM_mem hm;omega)
 have AP_w0_l:=Lib.hid (show ∀ i ∈ gw0 :: Sw0,i ∉ rangeM w4.heap.size w5.heap.size from fun i hi hm=>by have h1:=lw0 i hi;have h2:=rangeM_mem hm;omega)
 have AP_w1_l:=Lib.hid (show ∀ i ∈ gw1 :: Sw1,i ∉ rangeM w4.heap.size w5.heap.size from fun i hi hm=>by have h1:=lw1 i hi;have h2:=rangeM_mem hm;omega)
 have F_l:=Lib.hid (show ∀ i ∈ rangeM w4.heap.size w5.heap.size,w.heap.size ≤ i from fun i hi=>by have h1:=rangeM_mem hi;have:=bb2.size;omega)
 have KX_a_l:=Lib.hid (show ∀ i ∈ [w.heap.size],i ∉ rangeM w4.heap.size w5.heap.size from fun i hi hm=>by have h1:=rangeM_mem hm;have h2:=HKa.out;simp at hi;omega)
 clear z1 z2 z3 z4 z5 z6 z7 z8 z9 z10
 have kxa_c0:=kxa.here.cell 0 _ rfl
 have kxa_c1:=kxa.here.cell 1 _ rfl
 go_wp2_with fail
 clear kxa_c0 kxa_c1
 refine (markT_cal _ a _ (1) _ (by omega) (by omega) oxa).mono ?_
 rintro e w11 ⟨rfl,mkxa,c11⟩
 clear oxa
 have bb11:=below_chg bb10 c11 bb10.size (fun i hi=>F_xa.out i (List.mem_cons_of_mem _ hi))
 replace ka:=ka.chg c11 (fun i hi hm=>KX_a_xa.out i hi (List.mem_cons_of_mem _ hm))
 replace kw0:=kw0.chg c11 (fun i hi hm=>AP_w0_xa.out i (by simp at hi;subst hi;exact List.mem_cons_self ..) (List.mem_cons_of_mem _ hm))
 replace ow0:=ow0.chg c11 (fun i hi hm=>AP_w0_xa.out i (List.mem_cons_of_mem _ hi) (List.mem_cons_of_mem _ hm))
 replace kw1:=kw1.chg c11 (fun i hi hm=>AP_w1_xa.out i (by simp at hi;subst hi;exact List.mem_cons_self ..) (List.mem_cons_of_mem _ hm))
 replace ow1:=ow1.chg c11 (fun i hi hm=>AP_w1_xa.out i (List.mem_cons_of_mem _ hi) (List.mem_cons_of_mem _ hm))
 replace kxa:=kxa.chg c11 (fun i hi hm=>by simp at hi;subst hi;exact N_xa.out hm)
 replace HXl:=Lib.hid (HXl.out.stays (fun i h1 h2=>c11.block i (by obtain ⟨_,_,_,_,_,h3,_,_⟩:=HXl.out;omega) (fun hm=>AP_xa_l.out i (List.mem_cons_of_mem _ hm) (mem_rangeM h1 h2))) c11.size)
 replace kg0:=kg0.chg c11 (fun i hi hm=>(apart_symm AP_xa_g0.out) i (by simp at hi;subst hi;exact List.mem_cons_self ..) (List.mem_cons_of_mem _ hm))
 replace og0:=og0.chg c11 (fun i hi hm=>(apart_symm AP_xa_g0.out) i (List.mem_cons_of_mem _ hi) (List.mem_cons_of_mem _ hm))
 replace kg1:=kg1.chg c11 (fun i hi hm=>(apart_symm AP_xa_g1.out) i (by simp at hi;subst hi;exact List.mem_cons_self ..) (List.mem_cons_of_mem _ hm))
 replace og1:=og1.chg c11 (fun i hi hm=>(apart_symm AP_xa_g1.out) i (List.mem_cons_of_mem _ hi) (List.mem_cons_of_mem _ hm))
 go_wp2_with fail
 refine (markMoneyS_any _ l w4.heap.size w5.heap.size (1+mkT a) _ (by omega) (by omega) HXl.out).mono ?_
 rintro e w12 ⟨rfl,c12⟩
 clear HXl
 have bb12:=below_chg bb11 c12 bb11.size (fun i hi=>F_l.out i hi)
 replace ka:=ka.chg c12 (fun i hi hm=>KX_a_l.out i hi hm)
 replace kw0:=kw0.chg c12 (fun i hi hm=>AP_w0_l.out i (by simp at hi;subst hi;exact List.mem_cons_self ..) hm)
 replace ow0:=ow0.chg c12 (fun i hi hm=>AP_w0_l.out i (List.mem_cons_of_mem _ hi) hm)
 replace kw1:=kw1.chg c12 (fun i hi hm=>AP_w1_l.out i (by simp at hi;subst hi;exact List.mem_cons_self ..) hm)
 replace ow1:=ow1.chg c12 (fun i hi hm=>AP_w1_l.out i (List.mem_cons_of_mem _ hi) hm)
 replace kxa:=kxa.chg c12 (fun i hi hm=>AP_xa_l.out i (by simp at hi;subst hi;exact List.mem_cons_self ..) hm)
 replace kg0:=kg0.chg c12 (fun i hi hm=>AP_g0_l.out i (by simp at hi;subst hi;exact List.mem_cons_self ..) hm)
 replace og0:=og0.chg c12 (fun i hi hm=>AP_g0_l.out i (List.mem_cons_of_mem _ hi) hm)
 replace kg1:=kg1.chg c12 (fun i hi hm=>AP_g1_l.out i (by simp at hi;subst hi;exact List.mem_cons_self ..) hm)
 replace og1:=og1.chg c12 (fun i hi hm=>AP_g1_l.out i (List.mem_cons_of_mem _ hi) hm)
 replace mkxa:=mkxa.chg c12 (fun i hi hm=>AP_xa_l.out i (List.mem_cons_of_mem _ hi) hm)
 have hk:decide (((1+mkT a+mkML l):Int) < 0) = false:=decide_eq_false (by omega)
 have kg0_c0:=kg0.here.cell 0 _ rfl
 have kg0_c1:=kg0.here.cell 1 _ rfl
 have kg0_c2:=kg0.here.cell 2 _ rfl
 have kw0_c0:=kw0.here.cell 0 _ rfl
 have kw0_c1:=kw0.here.cell 1 _ rfl
 have kw0_c2:=kw0.here.cell 2 _ rfl
 go_wp2_with fail
 clear kg0_c0 kg0_c1 kg0_c2 kw0_c0 kw0_c1 kw0_c2
 refine (eqM_cal _ _ R0 R0 _ (capM_of (by omega)) (OwnM.rd og0.here) (OwnM.rd ow0.here)).mono ?_
 rintro e w13 ⟨rfl,b13⟩
 rw [decide_refl]
 have bb13:=Below.next bb12 b13
 replace ka:=ka.below b13
 replace kw0:=kw0.below b13
 replace ow0:=ow0.below b13
 replace kw1:=kw1.below b13
 replace ow1:=ow1.below b13
 replace kxa:=kxa.below b13
 replace kg0:=kg0.below b13
 replace og0:=og0.below b13
 replace kg1:=kg1.below b13
 replace og1:=og1.below b13
 replace mkxa:=mkxa.below b13
 have kg1_c0:=kg1.here.cell 0 _ rfl
 have kg1_c1:=kg1.here.cell 1 _ rfl
 have kg1_c2:=kg1.here.cell 2 _ rfl
 have kw1_c0:=kw1.here.cell 0 _ rfl
 have kw1_c1:=kw1.here.cell 1 _ rfl
 have kw1_c2:=kw1.here.cell 2 _ rfl
 go_wp2_with fail
 clear kg1_c0 kg1_c1 kg1_c2 kw1_c0 kw1_c1 kw1_c2
 refine (eqQ_cal _ _ R1 R1 _ (capQ_of (by omega)) (OwnQ.rd og1.here) (OwnQ.rd ow1.here)).mono ?_
 rintro e w14 ⟨rfl,b14⟩
 rw [decide_refl]
 have bb14:=Below.next bb13 b14
 replace ka:=ka.below b14
 replace kw0:=kw0.below b14
 replace ow0:=ow0.below b14
 replace kw1:=kw1.below b14
 replace ow1:=ow1.below b14
 replace kxa:=kxa.below b14
 replace kg0:=kg0.below b14
 replace og0:=og0.below b14
 replace kg1:=kg1.below b14
 replace og1:=og1.below b14
 replace mkxa:=mkxa.below b14
 clear hk
 have kg0_c0:=kg0.here.cell 0 _ rfl
 have kg0_c1:=kg0.here.cell 1 _ rfl
 have kg0_c2:=kg0.here.cell 2 _ rfl
 go_wp2_with fail
 clear kg0_c0 kg0_c1 kg0_c2
 refine (markM_cal _ R0 _ (1) _ (by omega) (by omega) og0).mono ?_
 rintro e w15 ⟨rfl,mkg0,c15⟩
 clear og0
 have bb15:=below_chg bb14 c15 bb14.size (fun i hi=>F_g0.out i (List.mem_cons_of_mem _ hi))
 replace ka:=ka.chg c15 (fun i hi hm=>KX_a_g0.out i hi (List.mem_cons_of_mem _ hm))
 replace kw0:=kw0.chg c15 (fun i hi hm=>AP_w0_g0.out i (by simp at hi;subst hi;exact List.mem_cons_self ..) (List.mem_cons_of_mem _ hm))
 replace ow0:=ow0.chg c15 (fun i hi hm=>AP_w0_g0.out i (List.mem_cons_of_mem _ hi) (List.mem_cons_of_mem _ hm))
 replace kw1:=kw1.chg c15 (fun i hi hm=>AP_w1_g0.out i (by simp at hi;subst hi;exact List.mem_cons_self ..) (List.mem_cons_of_mem _ hm))
 replace ow1:=ow1.chg c15 (fun i hi hm=>AP_w1_g0.out i (List.mem_cons_of_mem _ hi) (List.mem_cons_of_mem _ hm))
 replace kxa:=kxa.chg c15 (fun i hi hm=>AP_xa_g0.out i (by simp at hi;subst hi;exact List.mem_cons_self ..) (List.mem_cons_of_mem _ hm))
 replace kg0:=kg0.chg c15 (fun i hi hm=>by simp at hi;subst hi;exact N_g0.out hm)
 replace kg1:=kg1.chg c15 (fun i hi hm=>(apart_symm AP_g0_g1.out) i (by simp at hi;subst hi;exact List.mem_cons_self ..) (List.mem_cons_of_mem _ hm))
 replace og1:=og1.chg c15 (fun i hi hm=>(apart_symm AP_g0_g1.out) i (List.mem_cons_of_mem _ hi) (List.mem_cons_of_mem _ hm))
 replace mkxa:=mkxa.chg c15 (fun i hi hm=>AP_xa_g0.out i (List.mem_cons_of_mem _ hi) (List.mem_cons_of_mem _ hm))
 have kg1_c0:=kg1.here.cell 0 _ rfl
 have kg1_c1:=kg1.here.cell 1 _ rfl
 have kg1_c2:=kg1.here.cell 2 _ rfl
 go_wp2_with fail
 clear kg1_c0 kg1_c1 kg1_c2
 refine (markQ_cal _ R1 _ (1+mkM R0) _ (by omega) (by omega) og1).mono ?_
 rintro e w16 ⟨rfl,mkg1,c16⟩
 clear og1
 have bb16:=below_chg bb15 c16 bb15.size (fun i hi=>F_g1.out i (List.mem_cons_of_mem _ hi))
 replace ka:=ka.chg c16 (fun i hi hm=>KX_a_g1.out i hi (List.mem_cons_of_mem _ hm))
 replace kw0:=kw0.chg c16 (fun i hi hm=>AP_w0_g1.out i (by simp at hi;subst hi;exact List.mem_cons_self ..) (List.mem_cons_of_mem _ hm))
 replace ow0:=ow0.chg c16 (fun i hi hm=>AP_w0_g1.out i (List.mem_cons_of_mem _ hi) (List.mem_cons_of_mem _ hm))
 replace kw1:=kw1.chg c16 (fun i hi hm=>AP_w1_g1.out i (by simp at hi;subst hi;exact List.mem_cons_self ..) (List.mem_cons_of_mem _ hm))
 replace ow1:=ow1.chg c16 (fun i hi hm=>AP_w1_g1.out i (List.mem_cons_of_mem _ hi) (List.mem_cons_of_mem _ hm))
 replace kxa:=kxa.chg c16 (fun i hi hm=>AP_xa_g1.out i (by simp at hi;subst hi;exact List.mem_cons_self ..) (List.mem_cons_of_mem _ hm))
 replace kg0:=kg0.chg c16 (fun i hi hm=>AP_g0_g1.out i (by simp at hi;subst hi;exact List.mem_cons_self ..) (List.mem_cons_of_mem _ hm))
 replace kg1:=kg1.chg c16 (fun i hi hm=>by simp at hi;subst hi;exact N_g1.out hm)
 replace mkxa:=mkxa.chg c16 (fun i hi hm=>AP_xa_g1.out i (List.mem_cons_of_mem _ hi) (List.mem_cons_of_mem _ hm))
 replace mkg0:=mkg0.chg c16 (fun i hi hm=>AP_g0_g1.out i (List.mem_cons_of_mem _ hi) (List.mem_cons_of_mem _ hm))
 have kg0_c0:=kg0.here.cell 0 _ rfl
 have kg0_c1:=kg0.here.cell 1 _ rfl
 have kg0_c2:=kg0.here.cell 2 _ rfl
 go_wp2_with fail
 clear kg0_c0 kg0_c1 kg0_c2
 refine (heldM_cal _ R0 (1) _ (by omega) (by omega) mkg0.here).mono ?_
 rintro e w17 ⟨rfl,b17⟩
 have bb17:=Below.next bb16 b17
 replace ka:=ka.below b17
 replace kw0:=kw0.below b17
 replace ow0:=ow0.below b17
 replace kw1:=kw1.below b17
 replace ow1:=ow1.below b17
 replace kxa:=kxa.below b17
 replace kg0:=kg0.below b17
 replace kg1:=kg1.below b17
 replace mkxa:=mkxa.below b17
 replace mkg0:=mkg0.below b17
 replace mkg1:=mkg1.below b17
 have hq17:decide ((1:Int)+mkM R0 < 0) = false:=decide_eq_false (by omega)
 have kg1_c0:=kg1.here.cell 0 _ rfl
 have kg1_c1:=kg1.here.cell 1 _ rfl
 have kg1_c2:=kg1.here.cell 2 _ rfl
 go_wp2_with fail
 clear kg1_c0 kg1_c1 kg1_c2
 refine (heldQ_cal _ R1 (1+mkM R0) _ (by omega) (by omega) mkg1.here).mono ?_
 rintro e w18 ⟨rfl,b18⟩
 have bb18:=Below.next bb17 b18
 replace ka:=ka.below b18
 replace kw0:=kw0.below b18
 replace ow0:=ow0.below b18
 replace kw1:=kw1.below b18
 replace ow1:=ow1.below b18
 replace kxa:=kxa.below b18
 replace kg0:=kg0.below b18
 replace kg1:=kg1.below b18
 replace mkxa:=mkxa.below b18
 replace mkg0:=mkg0.below b18
 replace mkg1:=mkg1.below b18
 have hq18:decide ((1+mkM R0:Int)+szQ R1 < 0) = false:=decide_eq_false (by omega)
 have ka_c0:=ka.here.cell 0 _ rfl
 have ka_c1:=ka.here.cell 1 _ rfl
 go_upto_region 37 with fail
 go_cut [21,22,23] (fun s t c2 wx=>NewLocP 32 36 (fun v=>OwnM v R0) (fun v=>OwnQ v R1) w18 s t wx∧c2 = .int .i64 R2)
 case first =>
  go_wp2_with fail
  refine (toT_new _ a _ hza (RFa.out _ bb18)).mono ?_
  rintro e wt ⟨ut,St,rfl,ot,lt,bt⟩
  have bbt:=Below.next bb18 bt
  go_wp2_with fail
  refine (toMoneyS_any _ l _ hll HLX.out (RFl.out _ bbt)).mono ?_
  rintro e wu ⟨uu,rfl,ou,bu⟩
  have HOU:=Lib.hid ou
  obtain ⟨gt_,et_,rfl,_⟩:=ou
  have bbu:=Below.next bbt bu
  have b2u:=Below.next bt bu
  go_wp2_with fail
  refine (HI.out _ _ _ _ _ (ot.below bu).here HOU.out (HT0.out.below bbu) (HT1.out.below bbu) (HT2.out.below bbu)).mono ?_
  rintro e wf ⟨uf,vf,Sf,Df,rfl,of,pf,hapf,lf,kf,bf⟩
  obtain ⟨Af,cf,rfl⟩:=ownM_form of.here
  obtain ⟨Ah,ch,Bh,dh,rfl⟩:=ownQ_form pf.here
  have RY:=ReadyP.of (BxP.nil_ b2u) bf of pf hapf lf kf
  go_wp2_with fail
  go_meet
  first | exact ⟨locP_late RY,rfl⟩ | exact ⟨locP_late2 RY,rfl⟩
 rename World=>w19
 clear ka_c0 ka_c1
 obtain ⟨⟨gh0,gh1,csh0,csh1,Sh0,Sh1,rfl,rfl,kh0,kh1,oh0,oh1,aph,nh0,nh1,lh0,lh1,b19⟩,rfl⟩:=hcut
 obtain ⟨Ah0,ch0,eh0⟩:=ownM_form oh0.here
 injection eh0 with eh0
 subst eh0
 obtain ⟨Ah1,ch1,Bh1,dh1,eh1⟩:=ownQ_form oh1.here
 injection eh1 with eh1
 subst eh1
 have HAPh:=Lib.hid aph
 clear aph
 have bb19:=Below.next bb18 b19
 replace ka:=ka.below b19
 replace kw0:=kw0.below b19
 replace ow0:=ow0.below b19
 replace kw1:=kw1.below b19
 replace ow1:=ow1.below b19
 replace kxa:=kxa.below b19
 replace kg0:=kg0.below b19
 replace kg1:=kg1.below b19
 replace mkxa:=mkxa.below b19
 replace mkg0:=mkg0.below b19
 replace mkg1:=mkg1.below b19
 have kh0_c0:=kh0.here.cell 0 _ rfl
 have kh0_c1:=kh0.here.cell 1 _ rfl
 have kh0_c2:=kh0.here.cell 2 _ rfl
 have kw0_c0:=kw0.here.cell 0 _ rfl
 have kw0_c1:=kw0.here.cell 1 _ rfl
 have kw0_c2:=kw0.here.cell 2 _ rfl
 go_wp2_with fail
 clear kh0_c0 kh0_c1 kh0_c2 kw0_c0 kw0_c1 kw0_c2
 refine (eqM_cal _ _ R0 R0 _ (capM_of (by omega)) (OwnM.rd oh0.here) (OwnM.rd ow0.here)).mono ?_
 rintro e w20 ⟨rfl,b20⟩
 rw [decide_refl]
 have bb20:=Below.next bb19 b20
 replace ka:=ka.below b20
 replace kw0:=kw0.below b20
 replace ow0:=ow0.below b20
 replace kw1:=kw1.below b20
 replace ow1:=ow1.below b20
 replace kxa:=kxa.below b20
 replace kg0:=kg0.below b20
 replace kg1:=kg1.below b20
 replace mkxa:=mkxa.below b20
 replace mkg0:=mkg0.below b20
 replace mkg1:=mkg1.below b20
 replace kh0:=kh0.below b20
 replace oh0:=oh0.below b20
 replace kh1:=kh1.below b20
 replace oh1:=oh1.below b20
 have kh1_c0:=kh1.here.cell 0 _ rfl
 have kh1_c1:=kh1.here.cell 1 _ rfl
 have kh1_c2:=kh1.here.cell 2 _ rfl
 have kw1_c0:=kw1.here.cell 0 _ rfl
 have kw1_c1:=kw1.here.cell 1 _ rfl
 have kw1_c2:=kw1.here.cell 2 _ rfl
 go_wp2_with fail
 clear kh1_c0 kh1_c1 kh1_c2 kw1_c0 kw1_c1 kw1_c2
 refine (eqQ_cal _ _ R1 R1 _ (capQ_of (by omega)) (OwnQ.rd oh1.here) (OwnQ.rd ow1.here)).mono ?_
 rintro e w21 ⟨rfl,b21⟩
 rw [decide_refl]
 have bb21:=Below.next bb20 b21
 replace ka:=ka.below b21
 replace kw0:=kw0.below b21
 replace ow0:=ow0.below b21
 replace kw1:=kw1.below b21
 replace ow1:=ow1.below b21
 replace kxa:=kxa.below b21
 replace kg0:=kg0.below b21
 replace kg1:=kg1.below b21
 replace mkxa:=mkxa.below b21
 replace mkg0:=mkg0.below b21
 replace mkg1:=mkg1.below b21
 replace kh0:=kh0.below b21
 replace oh0:=oh0.below b21
 replace kh1:=kh1.below b21
 replace oh1:=oh1.below b21
 have kg0_c0:=kg0.here.cell 0 _ rfl
 have kg0_c1:=kg0.here.cell 1 _ rfl
 have kg0_c2:=kg0.here.cell 2 _ rfl
 go_wp2_with fail
 clear kg0_c0 kg0_c1 kg0_c2
 refine (heldM_cal _ R0 (1) _ (by omega) (by omega) mkg0.here).mono ?_
 rintro e w22 ⟨rfl,b22⟩
 have bb22:=Below.next bb21 b22
 replace ka:=ka.below b22
 replace kw0:=kw0.below b22
 replace ow0:=ow0.below b22
 replace kw1:=kw1.below b22
 replace ow1:=ow1.below b22
 replace kxa:=kxa.below b22
 replace kg0:=kg0.below b22
 replace kg1:=kg1.below b22
 replace mkxa:=mkxa.below b22
 replace mkg0:=mkg0.below b22
 replace mkg1:=mkg1.below b22
 replace kh0:=kh0.below b22
 replace oh0:=oh0.below b22
 replace kh1:=kh1.below b22
 replace oh1:=oh1.below b22
 have hq22:decide ((1:Int)+mkM R0 < 0) = false:=decide_eq_false (by omega)
 have kg1_c0:=kg1.here.cell 0 _ rfl
 have kg1_c1:=kg1.here.cell 1 _ rfl
 have kg1_c2:=kg1.here.cell 2 _ rfl
 go_wp2_with fail
 clear kg1_c0 kg1_c1 kg1_c2
 refine (heldQ_cal _ R1 (1+mkM R0) _ (by omega) (by omega) mkg1.here).mono ?_
 rintro e w23 ⟨rfl,b23⟩
 have bb23:=Below.next bb22 b23
 replace ka:=ka.below b23
 replace kw0:=kw0.below b23
 replace ow0:=ow0.below b23
 replace kw1:=kw1.below b23
 replace ow1:=ow1.below b23
 replace kxa:=kxa.below b23
 replace kg0:=kg0.below b23
 replace kg1:=kg1.below b23
 replace mkxa:=mkxa.below b23
 replace mkg0:=mkg0.below b23
 replace mkg1:=mkg1.below b23
 replace kh0:=kh0.below b23
 replace oh0:=oh0.below b23
 replace kh1:=kh1.below b23
 replace oh1:=oh1.below b23
 have hq23:decide ((1+mkM R0:Int)+szQ R1 < 0) = false:=decide_eq_false (by omega)
 go_wp2
 go_ret
 exact ⟨rfl,bb23⟩
def errV (n:Int):Value:=if n = 0 then .nilIface else .iface 152 (.agg #[.int .i64 n])
theorem errV_pos {n:Int} (h:¬ n = 0):errV n = .iface 152 (.agg #[.int .i64 n]):=if_neg h
def PostE (n:Int) (w:World) (e:Ending) (w':World):Prop:=e = .returned (errV n)∧Below w.heap.size w w'
def chkN (t:TI) (l:List MI) (c:ByteArray) (k:Int):Int:=if formB t l c k = false then 1 else if noneB t l c = true then 2 else 0
theorem chk_form {t:TI} {l:List MI} {c:ByteArray} {k:Int} (h:formB t l c k = false):chkN t l c k = 1:=if_pos h
theorem chk_rate {t:TI} {l:List MI} {c:ByteArray} {k:Int} (h:formB t l c k = true) (h2:noneB t l c = true):chkN t l c k = 2:=by unfold chkN;rw [if_neg (by rw [h];decide),if_pos h2]
theorem chk_good {t:TI} {l:List MI} {c:ByteArray} {k:Int} (h:formB t l c k = true) (h2:noneB t l c = false):chkN t l c k = 0:=by unfold chkN;rw [if_neg (by rw [h];decide),if_neg (by rw [h2];decide)]
theorem any_not {l:List MI}:(l.any fun x=>!okM x) = !l.all okM:=by
 induction l with
 | nil=>rfl
 | cons x l ih=>simp only [List.any_cons,List.all_cons,ih,Bool.not_and]
theorem form_bad {t:TI} {l:List MI} {c:ByteArray} {k:Int} (h:okT t = false ∨ knownC c = false ∨ modeB k = false ∨ l.all okM = false):formB t l c k = false:=by
 unfold formB
 rcases h with h | h | h | h <;> rw [h] <;> simp
theorem form_good {t:TI} {l:List MI} {c:ByteArray} {k:Int} (h1:okT t = true) (h2:knownC c = true) (h3:modeB k = true) (h4:l.all okM = true):formB t l c k = true:=by
 unfold formB
 rw [h1,h2,h3,h4]
 rfl
def OwnMR (w:World) (v:Value) (l:List MI):Prop :=
 ∃ A c,v = .slice A l.length c∧∀ (j:Nat) x,l[j]? = some x→∃ a u,A = some a∧a.block < w.heap.size∧w.cell? (a.add (j * 3)) = some (.string x.1)∧w.cell? ⟨(a.add (j * 3)).block,(a.add (j * 3)).off+1,none⟩ = some (.bool x.2.1)∧w.cell? ⟨(a.add (j * 3)).block,(a.add (j * 3)).off+2,none⟩ = some u∧OwnI u x.2.2 w
theorem OwnML.ownR {v:Value} {l:List MI} {lo hi:Nat} {w:World} (h:OwnML v l lo hi w):OwnMR w v l:=by
 obtain ⟨g,e,rfl,h1,h2,h3,h4,h5⟩:=h
 refine ⟨_,_,rfl,fun j x hj=>?_⟩
 have hjl:=(List.getElem?_eq_some_iff.1 hj).1
 obtain ⟨u,he,ho⟩:=h5.at_ hj
 have hf:=flatM_get he
 refine ⟨⟨g,0,none⟩,u,rfl,by show g < _;omega,?_,?_,?_,ho⟩
 ·have:=h4.cellAt (j * 3) (by omega)
  rw [hf.1] at this
  rw [add_ownM]
  exact this
 ·have:=h4.cellAt (j * 3+1) (by omega)
  rw [hf.2.1] at this
  rw [add_ownM]
  exact this
 ·have:=h4.cellAt (j * 3+2) (by omega)
  rw [hf.2.2] at this
  rw [add_ownM]
  exact this
theorem take_snocM {l:List MI} {k:Nat} {x:MI} (h:l[k]? = some x):l.take (k+1) = l.take k ++ [x]:=by
 have hj:=(List.getElem?_eq_some_iff.1 h).1
 rw [List.take_succ_eq_append_getElem hj,(List.getElem?_eq_some_iff.1 h).2]
def PostMQe (R0:MI) (R1:QI) (n:Int) (w:World) (e:Ending) (w':World):Prop :=
 ∃ (v u:Value) (S T:List Nat),e = .returned (.tuple #[v,u,errV n])∧At S (OwnM v R0) w'∧At T (OwnQ u R1) w'∧(∀ g ∈ S,g ∉ T)∧Within S w.heap.size w'.heap.size∧Within T w.heap.size w'.heap.size∧Below w.heap.size w w'
theorem postE_nil {n:Int} (h:n = 0) {w w':World} {e:Ending} (k:PostE n w e w'):e = .returned .nilIface∧Below w.heap.size w w':=by subst h;exact k
theorem postE_err {n m:Int} (h:n = m) (hm:¬ m = 0) {w w':World} {e:Ending} (k:PostE n w e w'):e = .returned (.iface 152 (.agg #[.int .i64 m]))∧Below w.heap.size w w':=by
 subst h
 obtain ⟨h1,h2⟩:=k
 rw [errV_pos hm] at h1
 exact ⟨h1,h2⟩
theorem postMQb_is3 {c:ByteArray} {Y:QI} {k:Int} {R:MI} {Q:QI} {r:Bool} (e1:rmM c Y k = R) (e2:rmQ c Y k = Q) (e3:rmB c Y k = r) {w w':World} {n:Ending} (h:PostMQb (rmM c Y k) (rmQ c Y k) (rmB c Y k) w n w'):PostMQb R Q r w n w':=by subst e1 e2 e3;exact h
theorem newMQe_chg {R0:MI} {R1:QI} {R2:Int} {ev:Value} {S D T:List Nat} {v u:Value} {w W:World} (he:errV R2 = ev) (o:At S (OwnM v R0) W) (q:At D (OwnQ u R1) W) (hap:∀ g ∈ S,g ∉ D) (hd:∀ i ∈ S,i ∉ T) (hd2:∀ i ∈ D,i ∉ T) (hT:∀ i ∈ T,w.heap.size ≤ i) (l:∀ i ∈ S,w.heap.size ≤ i) (l2:∀ i ∈ D,w.heap.size ≤ i) (hW:Below w.heap.size w W) :
 ∀ W',Chg T W W'→PostMQe R0 R1 R2 w (.returned (.tuple #[v,u,ev])) W' :=
 fun _ hc=>⟨v,u,S,D,by rw [he],o.chg hc hd,q.chg hc hd2,hap,fun i hi=>⟨l i hi,Nat.lt_of_lt_of_le (o.lt i hi) hc.size⟩,fun i hi=>⟨l2 i hi,Nat.lt_of_lt_of_le (q.lt i hi) hc.size⟩,below_chg hW hc hW.size hT⟩
theorem newMQe_zero {n:Int} {ev:Value} {T:List Nat} {w W:World} (he:errV n = ev) (hT:∀ i ∈ T,w.heap.size ≤ i) (hW:Below w.heap.size w W):∀ W',Chg T W W'→PostMQe zeroM zeroQ n w (.returned (.tuple #[.agg #[.string ⟨#[]⟩,.bool false,.slice none 0 0],.agg #[.bool false,.slice none 0 0,.slice none 0 0],ev])) W' :=
 fun _ hc=>⟨_,_,[],[],by rw [he],atM_zero _,⟨ownQ_zero _,fun _ hg=>absurd hg List.not_mem_nil,fun _ _=>ownQ_zero _⟩,fun _ hg=>absurd hg List.not_mem_nil,fun _ hg=>absurd hg List.not_mem_nil,fun _ hg=>absurd hg List.not_mem_nil,below_chg hW hc hW.size hT⟩
theorem as_store {n:Int} {b:Nat} {old:Value} {w:World} (hg:ErrTy w) (kb:At [b] (BoxAt b #[old] 152) w) :
 Calls Tryz.prog 110 #[.iface 152 (.agg #[.int .i64 n]),.iface 154 (.pointer (some ⟨b,0,none⟩))] w fun e w'=>e = .returned (.bool true)∧At [b] (BoxAt b #[.int .i64 n] 152) w'∧Chg [b] w w'∧w.heap.size+1 ≤ w'.heap.size:=by
 refine (as_hit n ⟨b,0,none⟩ old w hg (kb.here.cell 0 _ rfl) (Lib.frozen_of_heap kb.here 0)).mono ?_
 rintro e w' ⟨rfl,rfl⟩
 have al:Below w.heap.size w ((((w.alloc (.cells #[.pointer (some ⟨b,0,none⟩)] 154)).alloc (.cells #[.pointer (some ⟨11,154,none⟩),.pointer (some ⟨w.heap.size,0,none⟩),.int .u64 150] 215)).alloc (.cells #[.pointer (some ⟨11,154,none⟩),.pointer (some ⟨w.heap.size,0,none⟩),.int .u64 150] 215)).alloc (.cells #[.int .i64 n] 152)):=Below.next (Below.next (Below.next (below_al (Below.refl _ _) _) (below_al (Below.refl _ _) _)) (below_al (Below.refl _ _) _)) (below_al (Below.refl _ _) _)
 have kb2:=kb.below al
 have hz:((((w.alloc (.cells #[.pointer (some ⟨b,0,none⟩)] 154)).alloc (.cells #[.pointer (some ⟨11,154,none⟩),.pointer (some ⟨w.heap.size,0,none⟩),.int .u64 150] 215)).alloc (.cells #[.pointer (some ⟨11,154,none⟩),.pointer (some ⟨w.heap.size,0,none⟩),.int .u64 150] 215)).alloc (.cells #[.int .i64 n] 152)).heap.size = w.heap.size+1+1+1+1:=by simp
 generalize ((((w.alloc (.cells #[.pointer (some ⟨b,0,none⟩)] 154)).alloc (.cells #[.pointer (some ⟨11,154,none⟩),.pointer (some ⟨w.heap.size,0,none⟩),.int .u64 150] 215)).alloc (.cells #[.pointer (some ⟨11,154,none⟩),.pointer (some ⟨w.heap.size,0,none⟩),.int .u64 150] 215)).alloc (.cells #[.int .i64 n] 152)) = X at *
 have hb':X.heap[b]? = some (.cells #[old] 152 (0,0)):=kb2.here
 refine ⟨rfl,box_at (by simp [BoxAt,World.setCell,Array.getElem?_modify,hb']),(Chg.of_below al).trans ((Chg.refl _ _).setCell (by simp) _),by simp;omega⟩
theorem as_nilB (t:Value) (w:World):Calls Tryz.prog 110 #[.nilIface,t] w fun e w'=>e = .returned (.bool false)∧Below w.heap.size w w' :=
 (as_nil t w).mono fun _ _ h=>⟨h.1,by rw [h.2];exact Below.refl _ _⟩
theorem cv_zero {t:TI} {l:List MI} {c:ByteArray} {k:Int} (h:¬ cvN t l c k = 0):cvM t l c k = zeroM∧cvQ t l c k = zeroQ:=by
 unfold cvM cvQ
 rw [if_neg h,if_neg h]
 exact ⟨rfl,rfl⟩
set_option maxHeartbeats 2000000 in
theorem specRateOk_any (vr:Value) (r:EI) (w:World) (hl:r.2.2.1.2.length ≤ 1048576) (hr:OwnE vr r w) :
 Calls Tryz.prog 179 #[vr] w (Postb (okE r) w):=by
 have Hr:=Lib.hid hr
 obtain ⟨Ar,cr,rfl⟩:=ownE_form hr
 have OEr:=Lib.hid (show ∀ W,Below w.heap.size w W→OwnE (.agg #[.string r.1,.string r.2.1,.bool r.2.2.1.1,.slice Ar r.2.2.1.2.length cr,.int .i64 r.2.2.2]) r W from fun W hb=>OwnE.below Hr.out hb)
 have OIr:=Lib.hid (show ∀ W,Below w.heap.size w W→OwnI (.slice Ar r.2.2.1.2.length cr) r.2.2.1.2 W from fun W hb=>ownE_open (OEr.out W hb))
 have ODr:=Lib.hid (show ∀ W,Below w.heap.size w W→OwnD (.agg #[.bool r.2.2.1.1,.slice Ar r.2.2.1.2.length cr,.int .i64 r.2.2.2]) r.2.2 W from fun W hb=>OwnD.mk (OIr.out W hb))
 have OSr:=Lib.hid (show ∀ W,Below w.heap.size w W→OwnS (.agg #[.bool r.2.2.1.1,.slice Ar r.2.2.1.2.length cr]) r.2.2.1 W from fun W hb=>OwnS.mk (OIr.out W hb))
 clear hr
 have bb0:Below w.heap.size w (w.alloc (.cells #[.string r.1,.string r.2.1,.bool r.2.2.1.1,.slice Ar r.2.2.1.2.length cr,.int .i64 r.2.2.2] 54)):=below_al (Below.refl _ _) _
 have kr:=(box_new w #[.string r.1,.string r.2.1,.bool r.2.2.1.1,.slice Ar r.2.2.1.2.length cr,.int .i64 r.2.2.2] 54)
 go_enter Tryz.func179,Tryz.ntmps179
 have kr_c0:=kr.here.cell 0 _ rfl
 have kr_c1:=kr.here.cell 1 _ rfl
 have kr_c2:=kr.here.cell 2 _ rfl
 have kr_c3:=kr.here.cell 3 _ rfl
 have kr_c4:=kr.here.cell 4 _ rfl
 go_wp2_with fail
 clear kr_c0 kr_c1 kr_c2 kr_c3 kr_c4
 refine (specCurKnown_any r.1 _).mono ?_
 rintro e w1 ⟨rfl,b1⟩
 have bb1:=Below.next bb0 b1
 replace kr:=kr.below b1
 by_cases ok0:knownC r.1 = true
 ·rw [ok0]
  have HOok0:=Lib.hid ok0
  clear ok0
  have kr_c0:=kr.here.cell 0 _ rfl
  have kr_c1:=kr.here.cell 1 _ rfl
  have kr_c2:=kr.here.cell 2 _ rfl
  have kr_c3:=kr.here.cell 3 _ rfl
  have kr_c4:=kr.here.cell 4 _ rfl
  go_wp2_with fail
  clear kr_c0 kr_c1 kr_c2 kr_c3 kr_c4
  refine (specCurKnown_any r.2.1 _).mono ?_
  rintro e w2 ⟨rfl,b2⟩
  have bb2:=Below.next bb1 b2
  replace kr:=kr.below b2
  by_cases ok1:knownC r.2.1 = true
  ·rw [ok1]
   have HOok1:=Lib.hid ok1
   clear ok1
   by_cases ne:r.1 = r.2.1
   ·have HV:=Lib.hid (show okE r = false by unfold okE;rw [HOok0.out,HOok1.out,decide_eq_false (fun h=>h ne:¬ ¬ r.1 = r.2.1)] <;> rfl)
    have kr_c0:=kr.here.cell 0 _ rfl
    have kr_c1:=kr.here.cell 1 _ rfl
    have kr_c2:=kr.here.cell 2 _ rfl
    have kr_c3:=kr.here.cell 3 _ rfl
    have kr_c4:=kr.here.cell 4 _ rfl
    rw [← ne] at kr_c1
    clear ne hl kr
    have hne1:(r.1.toList == r.1.toList) = true:=beq_self_eq_true _
    have hne2:(r.1.toList != r.1.toList) = false:=by rw [bne,hne1];rfl
    go_wp2
    go_ret
    exact ⟨ret_bool HV.out.symm,bb2⟩
   ·have hne1:=bytes_neC ne
    have hne2:(r.1.toList != r.2.1.toList) = true:=by rw [bne,hne1];rfl
    have HNE:=Lib.hid ne
    clear ne
    have kr_c0:=kr.here.cell 0 _ rfl
    have kr_c1:=kr.here.cell 1 _ rfl
    have kr_c2:=kr.here.cell 2 _ rfl
    have kr_c3:=kr.here.cell 3 _ rfl
    have kr_c4:=kr.here.cell 4 _ rfl
    go_wp2_with fail
    clear kr_c0 kr_c1 kr_c2 kr_c3 kr_c4
    refine (specDecOk_any _ r.2.2 _ hl (ODr.out _ bb2)).mono ?_
    rintro e w3 ⟨rfl,b3⟩
    have bb3:=Below.next bb2 b3
    replace kr:=kr.below b3
    clear hne1 hne2
    by_cases ok2:okD r.2.2 = true
    ·rw [ok2]
     have HOok2:=Lib.hid ok2
     clear ok2
     have kr_c0:=kr.here.cell 0 _ rfl
     have kr_c1:=kr.here.cell 1 _ rfl
     have kr_c2:=kr.here.cell 2 _ rfl
     have kr_c3:=kr.here.cell 3 _ rfl
     have kr_c4:=kr.here.cell 4 _ rfl
     go_wp2_with fail
     clear kr_c0 kr_c1 kr_c2 kr_c3 kr_c4
     refine (specIntSign_any _ r.2.2.1 _ hl (OSr.out _ bb3)).mono ?_
     rintro e w4 ⟨rfl,b4⟩
     have bb4:=Below.next bb3 b4
     replace kr:=kr.below b4
     have HZ:Hid (okE r = (decide (0 < cmpS r.2.2.1 zeroS) && decide (r.2.2.1.2.length ≤ 2))):=Lib.hid (by unfold okE;rw [HOok0.out,HOok1.out,HOok2.out,decide_eq_true HNE.out] <;> rfl)
     generalize cmpS r.2.2.1 zeroS = z at *
     by_cases ps:0 < z
     ·have HV:=Lib.hid (show okE r = decide ((r.2.2.1.2.length:Int) ≤ 2) by rw [HZ.out,decide_eq_true ps,Bool.true_and,decide_eq_decide];omega)
      have ps1:decide (0 < z) = true:=decide_eq_true ps
      have kr_c0:=kr.here.cell 0 _ rfl
      have kr_c1:=kr.here.cell 1 _ rfl
      have kr_c2:=kr.here.cell 2 _ rfl
      have kr_c3:=kr.here.cell 3 _ rfl
      have kr_c4:=kr.here.cell 4 _ rfl
      clear hl
      go_wp2
      go_ret
      exact ⟨ret_bool HV.out.symm,bb4⟩
     ·have HV:=Lib.hid (show okE r = false by rw [HZ.out,decide_eq_false ps,Bool.false_and])
      have ps1:decide (0 < z) = false:=decide_eq_false ps
      clear hl kr
      go_wp2
      go_ret
      exact ⟨ret_bool HV.out.symm,bb4⟩
    ·have ok2':okD r.2.2 = false:=by simpa using ok2
     have HV:=Lib.hid (show okE r = false by unfold okE;rw [HOok0.out,HOok1.out,decide_eq_true HNE.out,ok2'] <;> rfl)
     rw [ok2']
     clear ok2 ok2'
     go_wp2
     go_ret
     exact ⟨ret_bool HV.out.symm,bb3⟩
  ·have ok1':knownC r.2.1 = false:=by simpa using ok1
   have HV:=Lib.hid (show okE r = false by unfold okE;rw [HOok0.out,ok1'] <;> rfl)
   rw [ok1']
   clear ok1 ok1'
   go_wp2
   go_ret
   exact ⟨ret_bool HV.out.symm,bb2⟩
 ·have ok0':knownC r.1 = false:=by simpa using ok0
  have HV:=Lib.hid (show okE r = false by unfold okE;rw [ok0'] <;> rfl)
  rw [ok0']
  clear ok0 ok0'
  go_wp2
  go_ret
  exact ⟨ret_bool HV.out.symm,bb1⟩
set_option maxHeartbeats 2000000 in
theorem l10At_any (v:Value) (l:List EI) (p q:ByteArray) (w:World) (hl:l.length ≤ 140737488355328) (h:OwnER w v l) :
 Calls Tryz.prog 180 #[v,.string p,.string q] w (Postn (posE l p q) w):=by
 obtain ⟨A,c,rfl,hc⟩:=h
 have HC:=Lib.hid hc
 clear hc
 go_enter Tryz.func180,Tryz.ntmps180
 go_wp2
 go_loopw [11] (fun i wr=>∃ k:Nat,k ≤ l.length∧i = .int .i64 k∧Hid (k ≤ atE l p q)∧Below w.heap.size w wr) (fun i _=>l.length - (intOf i).toNat)
 case atStart=>exact ⟨0,Nat.zero_le _,rfl,Lib.hid (Nat.zero_le _),Below.refl _ _⟩
 case round =>
  obtain ⟨k,hk,rfl,HK,hb⟩:=hrel
  by_cases hlt:k < l.length
  ·obtain ⟨x,hxk⟩:∃ x,l[k]? = some x:=⟨_,List.getElem?_eq_getElem hlt⟩
   obtain ⟨a,u,rfl,ha,hc0,hc1,hc2,hc3,hc4,hr⟩:=HC.out k x hxk
   obtain ⟨A1,c1,rfl⟩:=own_len hr
   have k0:=(cell_keep5' hb ha k).trans hc0
   have k1:=(cell_keep5 hb ha k 1).trans hc1
   have k2:=(cell_keep5 hb ha k 2).trans hc2
   have k3:=(cell_keep5 hb ha k 3).trans hc3
   have k4:=(cell_keep5 hb ha k 4).trans hc4
   have hbx:=below_al (Below.refl wr.heap.size wr) (.cells #[.string x.1,.string x.2.1,.bool x.2.2.1.1,.slice A1 x.2.2.1.2.length c1,.int .i64 x.2.2.2] 54)
   have kx:=box_new wr #[.string x.1,.string x.2.1,.bool x.2.2.1.1,.slice A1 x.2.2.1.2.length c1,.int .i64 x.2.2.2] 54
   have cx0:=kx.here.cell 0 _ rfl
   have cx1:=kx.here.cell 1 _ rfl
   have HB:=Lib.hid (Below.next hb hbx)
   clear kx hbx hb hc0 hc1 hc2 hc3 hc4 hr
   by_cases h1:x.1 = p
   ·by_cases h2:x.2.1 = q
    ·have HV:=Lib.hid (posE_hit HK.out hxk ⟨h1,h2⟩)
     have e1:(x.1.toList == p.toList) = true:=by rw [h1];exact beq_self_eq_true _
     have e2:(x.2.1.toList == q.toList) = true:=by rw [h2];exact beq_self_eq_true _
     clear h1 h2 hxk
     go_wp2
     go_ret
     exact ⟨ret_int HV.out.symm,HB.out⟩
    ·have HN:=Lib.hid (atE_next HK.out hxk (fun e=>h2 e.2))
     have e1:(x.1.toList == p.toList) = true:=by rw [h1];exact beq_self_eq_true _
     have e2:=bytes_neC h2
     clear h1 h2 hxk
     go_wp2
     go_roundw
     case rel=>exact ⟨k+1,by omega,by go_num,HN,HB.out⟩
     case measure=>simp [intOf];omega
   ·have HN:=Lib.hid (atE_next HK.out hxk (fun e=>h1 e.1))
    have e1:=bytes_neC h1
    clear h1 hxk
    go_wp2
    go_roundw
    case rel=>exact ⟨k+1,by omega,by go_num,HN,HB.out⟩
    case measure=>simp [intOf];omega
  ·obtain rfl:k = l.length:=by omega
   have HV:=Lib.hid (posE_none HK.out)
   go_wp2
   go_ret
   exact ⟨ret_int HV.out.symm,hb⟩
def OwnTR (w:World) (v:Value) (t:TI):Prop:=∃ u,v = .agg #[.string t.1,u]∧OwnER w u t.2
theorem OwnT.ownR {v:Value} {t:TI} {w:World} (h:OwnT v t w):OwnTR w v t:=by
 obtain ⟨u,rfl,o⟩:=h
 exact ⟨u,rfl,o.ownR⟩
theorem ownTR_form {v:Value} {t:TI} {w:World} (h:OwnTR w v t):∃ A c,v = .agg #[.string t.1,.slice A t.2.length c]∧OwnER w (.slice A t.2.length c) t.2:=by
 obtain ⟨u,rfl,o⟩:=h
 obtain ⟨A,c,rfl,hc⟩:=o
 exact ⟨A,c,rfl,A,c,rfl,hc⟩
set_option maxHeartbeats 4000000 in
theorem specRatesOk_any (v:Value) (t:TI) (w:World) (hl:t.2.length ≤ 1099511627776) (hx:∀ x ∈ t.2,x.2.2.1.2.length ≤ 1048576) (h:OwnTR w v t) :
 Calls Tryz.prog 104 #[v] w (Postb (okT t) w):=by
 obtain ⟨A,c,rfl,hr⟩:=ownTR_form h
 have HR:=Lib.hid hr
 clear h hr
 have bb0:Below w.heap.size w (w.alloc (.cells #[.string t.1,.slice A t.2.length c] 25)):=below_al (Below.refl _ _) _
 have kt:=box_new w #[.string t.1,.slice A t.2.length c] 25
 go_enter Tryz.func104,Tryz.ntmps104
 have kt_c0:=kt.here.cell 0 _ rfl
 have kt_c1:=kt.here.cell 1 _ rfl
 go_wp2_with fail
 clear kt_c0 kt_c1
 refine (specCurKnown_any t.1 _).mono ?_
 rintro e w1 ⟨rfl,b1⟩
 have bb1:=Below.next bb0 b1
 replace kt:=kt.below b1
 by_cases ok0:knownC t.1 = true
 ·rw [ok0]
  have HO0:=Lib.hid ok0
  clear ok0
  by_cases hn:t.2.length ≤ 12
  ·have hn1:¬ (12:Int) < (t.2.length:Int):=by omega
   have HN:=Lib.hid hn
   have HREL:=Lib.hid (show ∃ k:Nat,k ≤ t.2.length∧Value.int .i64 0 = .int .i64 k∧Hid ((List.range k).all (rowT t.2) = true)∧At [w.heap.size] (BoxAt w.heap.size #[.string t.1,.slice A t.2.length c] 25) w1∧Below w.heap.size w w1 from ⟨0,Nat.zero_le _,rfl,Lib.hid rfl,kt,bb1⟩)
   have kt_c0:=kt.here.cell 0 _ rfl
   have kt_c1:=kt.here.cell 1 _ rfl
   clear kt bb0 bb1 b1 hn
   go_wp2
   clear kt_c0 kt_c1
   go_loopw [18] (fun i wr=>∃ k:Nat,k ≤ t.2.length∧i = .int .i64 k∧Hid ((List.range k).all (rowT t.2) = true)∧At [w.heap.size] (BoxAt w.heap.size #[.string t.1,.slice A t.2.length c] 25) wr∧Below w.heap.size w wr) (fun i _=>t.2.length - (intOf i).toNat)
   case atStart=>exact HREL.out
   case round =>
    clear HREL
    obtain ⟨k,hk,rfl,HK,kt,hb⟩:=hrel
    by_cases hlt:k < t.2.length
    ·obtain ⟨x,hxk⟩:∃ x,t.2[k]? = some x:=⟨_,List.getElem?_eq_getElem hlt⟩
     have hrb:=HR.out.below hb
     obtain ⟨A',c',e',hc'⟩:=hrb
     obtain ⟨a,u,ea,ha,hc0,hc1,hc2,hc3,hc4,hr⟩:=hc' k x hxk
     have e0:A = A':=by injection e' with e1 e2 e3
     subst e0
     subst ea
     obtain ⟨A1,c1,rfl⟩:=own_len hr
     have hxl:=hx x (List.mem_of_getElem? hxk)
     have HRX:=Lib.hid (rowT_at hxk)
     have hbx:=below_al (Below.refl wr.heap.size wr) (.cells #[.string x.1,.string x.2.1,.bool x.2.2.1.1,.slice A1 x.2.2.1.2.length c1,.int .i64 x.2.2.2] 54)
     have kx:=box_new wr #[.string x.1,.string x.2.1,.bool x.2.2.1.1,.slice A1 x.2.2.1.2.length c1,.int .i64 x.2.2.2] 54
     have OX:=Lib.hid (show ∀ W,Below (wr.alloc (.cells #[.string x.1,.string x.2.1,.bool x.2.2.1.1,.slice A1 x.2.2.1.2.length c1,.int .i64 x.2.2.2] 54)).heap.size (wr.alloc (.cells #[.string x.1,.string x.2.1,.bool x.2.2.1.1,.slice A1 x.2.2.1.2.length c1,.int .i64 x.2.2.2] 54)) W→OwnE (.agg #[.string x.1,.string x.2.1,.bool x.2.2.1.1,.slice A1 x.2.2.1.2.length c1,.int .i64 x.2.2.2]) x W from fun W h=>OwnE.mk (own_below (own_below hr hbx) h))
     have bb:=Below.next hb hbx
     have HRB:=Lib.hid (show ∀ W,Below w.heap.size w W→OwnER W (.slice (some a) t.2.length c) t.2 from fun W h=>HR.out.below h)
     replace kt:=kt.below hbx
     have cx0:=kx.here.cell 0 _ rfl
     have cx1:=kx.here.cell 1 _ rfl
     have cx2:=kx.here.cell 2 _ rfl
     have cx3:=kx.here.cell 3 _ rfl
     have cx4:=kx.here.cell 4 _ rfl
     clear hb hbx hr hc' e' ha
     have hlt':=hlt
     go_wp2_with fail
     clear cx0 cx1 cx2 cx3 cx4 hc0 hc1 hc2 hc3 hc4
     refine (specRateOk_any _ x _ hxl (OX.out _ (Below.refl _ _))).mono ?_
     rintro e w2 ⟨rfl,b2⟩
     have bb2:=Below.next bb b2
     replace kx:=kx.below b2
     replace kt:=kt.below b2
     by_cases okx:okE x = true
     ·rw [okx]
      have HOX:=Lib.hid okx
      have cx0:=kx.here.cell 0 _ rfl
      have cx1:=kx.here.cell 1 _ rfl
      have kt_c0:=kt.here.cell 0 _ rfl
      have kt_c1:=kt.here.cell 1 _ rfl
      have HB2:=Lib.hid bb2
      clear okx b2 bb bb2 kx
      go_wp2_with fail
      clear cx0 cx1 kt_c0 kt_c1
      refine (l10At_any _ t.2 x.1 x.2.1 _ (by omega) (HRB.out _ HB2.out)).mono ?_
      rintro e w3 ⟨rfl,b3⟩
      have bb3:=Lib.hid (Below.next HB2.out b3)
      have KT:=Lib.hid (kt.below b3)
      clear kt b3
      by_cases hp:posE t.2 x.1 x.2.1 = k
      ·have HNX:=Lib.hid (rows_next HK.out (by rw [HRX.out,HOX.out,decide_eq_true hp];rfl))
       rw [hp]
       clear hp
       go_wp2
       go_roundw
       case rel=>exact ⟨k+1,by omega,by go_num,HNX,KT.out,bb3.out⟩
       case measure=>simp [intOf];omega
      ·have HV:=Lib.hid (show okT t = false by rw [okT_rows,rows_bad hlt (by rw [HRX.out,decide_eq_false hp,Bool.and_false];simp),Bool.and_false,Bool.and_false])
       have hne:(posE t.2 x.1 x.2.1 != (k:Int)) = true:=by simpa using hp
       clear hp HRX
       generalize posE t.2 x.1 x.2.1 = z at *
       go_wp2
       go_ret
       exact ⟨ret_bool HV.out.symm,bb3.out⟩
     ·have okx':okE x = false:=by simpa using okx
      have HV:=Lib.hid (show okT t = false by rw [okT_rows,rows_bad hlt (by rw [HRX.out,okx',Bool.false_and];simp),Bool.and_false,Bool.and_false])
      rw [okx']
      clear okx okx' kx kt b2 bb
      go_wp2
      go_ret
      exact ⟨ret_bool HV.out.symm,bb2⟩
    ·obtain rfl:k = t.2.length:=by omega
     have HV:=Lib.hid (show okT t = true by rw [okT_rows,HO0.out,decide_eq_true HN.out,HK.out];rfl)
     go_wp2
     go_ret
     exact ⟨ret_bool HV.out.symm,hb⟩
  ·have hn1:(12:Int) < (t.2.length:Int):=by omega
   have HV:=Lib.hid (show okT t = false by rw [okT_rows,decide_eq_false hn,Bool.false_and,Bool.and_false])
   have kt_c0:=kt.here.cell 0 _ rfl
   have kt_c1:=kt.here.cell 1 _ rfl
   clear kt bb0 b1 hn
   go_wp2
   go_ret
   exact ⟨ret_bool HV.out.symm,bb1⟩
 ·have ok0':knownC t.1 = false:=by simpa using ok0
  have HV:=Lib.hid (show okT t = false by rw [okT_rows,ok0',Bool.false_and])
  rw [ok0']
  clear ok0 ok0' kt
  go_wp2
  go_ret
  exact ⟨ret_bool HV.out.symm,bb1⟩
set_option maxHeartbeats 4000000 in
theorem specl11Form_any (v:Value) (t:TI) (q:ByteArray) (k:Int) (w:World) (hl:t.2.length ≤ 1099511627776) (hx:∀ x ∈ t.2,x.2.2.1.2.length ≤ 1048576) (h:OwnTR w v t) :
 Calls Tryz.prog 131 #[v,.string q,.int .i64 k] w (Postb (okT t && (knownC q && modeB k)) w):=by
 obtain ⟨A,c,rfl,hr⟩:=ownTR_form h
 have HR:=Lib.hid (show ∀ W,Below w.heap.size w W→OwnER W (.slice A t.2.length c) t.2 from fun W h=>hr.below h)
 have HTR:=Lib.hid (show ∀ W,Below w.heap.size w W→OwnTR W (.agg #[.string t.1,.slice A t.2.length c]) t from fun W h=>⟨_,rfl,hr.below h⟩)
 clear h hr
 have bb0:Below w.heap.size w (w.alloc (.cells #[.string t.1,.slice A t.2.length c] 25)):=below_al (Below.refl _ _) _
 have kt:=(box_new w #[.string t.1,.slice A t.2.length c] 25)
 go_enter Tryz.func131,Tryz.ntmps131
 have kt_c0:=kt.here.cell 0 _ rfl
 have kt_c1:=kt.here.cell 1 _ rfl
 go_wp2_with fail
 clear kt_c0 kt_c1
 refine (specRatesOk_any _ t _ hl hx (HTR.out _ bb0)).mono ?_
 rintro e w1 ⟨rfl,b1⟩
 have bb1:=Below.next bb0 b1
 replace kt:=kt.below b1
 clear kt
 obtain ⟨ok1,hok1⟩:∃ b,okT t = b:=⟨_,rfl⟩
 rw [hok1]
 have HOK1:=Lib.hid hok1
 clear hok1
 cases ok1 with
 | false =>
   go_wp2
   go_ret
   exact ⟨ret_bool (by rw [HOK1.out];rfl),bb1⟩
 | true =>
   go_wp2_with fail
   refine (specCurKnown_any q _).mono ?_
   rintro e w2 ⟨rfl,b2⟩
   have bb2:=Below.next bb1 b2
   obtain ⟨ok2,hok2⟩:∃ b,knownC q = b:=⟨_,rfl⟩
   rw [hok2]
   have HOK2:=Lib.hid hok2
   clear hok2
   cases ok2 with
   | false =>
     go_wp2
     go_ret
     exact ⟨ret_bool (by rw [HOK1.out,HOK2.out];rfl),bb2⟩
   | true =>
     go_wp2_with fail
     refine (l06Mode_any k _).mono ?_
     rintro e w3 ⟨rfl,b3⟩
     have bb3:=Below.next bb2 b3
     obtain ⟨ok3,hok3⟩:∃ b,modeB k = b:=⟨_,rfl⟩
     rw [hok3]
     go_wp2
     go_ret
     exact ⟨ret_bool (by rw [HOK1.out,HOK2.out,hok3];rfl),bb3⟩
theorem digB_true {d:Int} (h:digB d = true):0 ≤ d∧d ≤ 999999999:=of_decide_eq_true h
theorem digB_false {d:Int} (h:digB d = false):¬ (0 ≤ d∧d ≤ 999999999):=of_decide_eq_false h
set_option maxHeartbeats 400000 in
theorem implNatOk_same (v:Value) (xs:List Int) (lo hi:Nat) (w:World) (hl:xs.length ≤ 9223372036854775807) (hr:Row w lo hi v (intsV xs)) :
 Calls Tryz.prog 209 #[v] w fun e w'=>e = .returned (.bool (natOkB xs))∧w = w':=by
 obtain ⟨A,c,rfl,hA⟩:=hr
 have HA:=Lib.hid hA
 rw [intsV_length]
 clear hA
 by_cases h50:xs.length ≤ 50
 ·go_enter Tryz.func209,Tryz.ntmps209
  go_wp2
  go_loop [10] (fun i=>∃ k:Nat,k ≤ xs.length∧i = .int .i64 k∧Hid ((xs.take k).all digB = true)) (fun i=>xs.length - (intOf i).toNat)
  case atStart=>exact ⟨0,Nat.zero_le _,rfl,Lib.hid rfl⟩
  case round =>
   obtain ⟨k,hk,rfl,HD⟩:=hrel
   by_cases hlt:k < xs.length
   ·obtain ⟨a,rfl,_,_,hca⟩:=HA.out k _ (intsV_at xs k hlt)
    by_cases hd:digB xs[k] = true
    ·have HS:=Lib.hid (all_succ xs k hlt HD.out hd)
     have hd2:=digB_true hd
     have hd3:=hd2.1
     have hd4:=hd2.2
     clear hd2 hd
     go_wp2
     go_round
     case rel=>exact ⟨k+1,by omega,by go_num,HS⟩
     case measure=>simp [intOf];omega
    ·have hd':digB xs[k] = false:=by simpa using hd
     have HN:=Lib.hid (not_all xs k hlt hd')
     have hd2:=digB_false hd'
     by_cases hneg:xs[k] < 0
     ·go_wp2
      go_ret
      exact ⟨ret_bool HN.out.symm,rfl⟩
     ·have hbig:1000000000 ≤ xs[k]:=by omega
      go_wp2
      go_ret
      exact ⟨ret_bool HN.out.symm,rfl⟩
   ·have HF:=Lib.hid (all_upto xs k HD.out hlt)
    by_cases h0:xs.length = 0
    ·have hz:((xs.length:Int) == 0) = true:=by simp [h0]
     obtain rfl:xs = []:=List.eq_nil_of_length_eq_zero h0
     clear h0
     go_wp2
     go_ret
     exact ⟨rfl,rfl⟩
    ·have hz:((xs.length:Int) == 0) = false:=by rw [beq_eq_false_iff_ne];omega
     have hlt2:xs.length - 1 < xs.length:=by omega
     obtain ⟨a,rfl,_,_,hca⟩:=HA.out (xs.length - 1) _ (intsV_at xs (xs.length - 1) hlt2)
     have HL:=Lib.hid (ok_last xs HF.out h50 hlt2)
     clear h0
     go_wp2
     go_ret
     exact ⟨ret_bool HL.out,rfl⟩
 ·have HN:=Lib.hid (ok_long xs h50)
  go_enter Tryz.func209,Tryz.ntmps209
  go_wp2
  go_ret
  exact ⟨ret_bool HN.out.symm,rfl⟩
set_option maxHeartbeats 400000 in
theorem implNatOf_any (n:Int) (w:World) (h1:n ≤ 9223372036854775807) :
 Calls Tryz.prog 166 #[.int .i64 n] w (NewInts (limbs n.toNat) w):=by
 obtain ⟨i0,hi,hz0,hz1,hz2⟩:=info_parts intInfo
 go_enter Tryz.func166,Tryz.ntmps166
 go_wp2
 go_loopw [0,3] (fun a v wr=>∃ (m:Int) (out:List Int) (f:Nat),m ≤ 9223372036854775807∧out.length+f ≤ 3∧m < 1000000000 ^ f∧a = .int .i64 m∧Hid (out ++ limbs m.toNat = limbs n.toNat)∧wr.ownsRow w.heap.size 3 1 v out.length (intsV out)∧Below w.heap.size w wr) (fun a _ _=>(intOf a).toNat)
 case atStart=>exact ⟨n,[],3,h1,by simp,by omega,rfl,Lib.hid rfl,World.ownsRow_nil _ _ _ _,Below.refl _ _⟩
 case round =>
  obtain ⟨m,out,f,hm,hol,hmf,rfl,HE,hown,hb1⟩:=hrel
  by_cases h0:0 < m
  ·obtain ⟨g,rfl⟩:∃ g,f = g+1:=by
    cases f with
    | zero=>simp at hmf;omega
    | succ g=>exact ⟨g,rfl⟩
   have hmg:m / 1000000000 < 1000000000 ^ g:=by
    rw [Int.pow_succ] at hmf
    exact Int.ediv_lt_of_lt_mul (by omega) hmf
   have HS:Hid (out ++ [m % 1000000000] ++ limbs (m / 1000000000).toNat = limbs n.toNat):=Lib.hid (by
    have e:=HE.out
    rw [limbs_pos m.toNat (by omega)] at e
    rw [List.append_assoc,← e,show ((m.toNat % 1000000000:Nat):Int) = m % 1000000000 from by omega,show m.toNat / 1000000000 = (m / 1000000000).toNat from by omega]
    rfl)
   clear hmf
   go_wp2_with (at_builtin;refine wpList_append_own _ rfl (.tmp 8) (.tmp 11) 28 rfl w.heap.size 3 i0 (.int .i64 0) 1 8 Tryz.underlying28 hi hz0 hz1 hz2 rfl (by decide) _ _ _ rfl (own_alloc hown _) ⟨wr.heap.size,0,none⟩ 1 1 [.int .i64 (m % 1000000000)] rfl rfl (one_new _ _ _) ?c2 ?c3 ?c4 ?c5 ?_)
   case c2=>first | (intro u hu;simp at hu;subst hu;rfl) | rfl
   case c3=>unfold maxLen;omega
   case c4=>omega
   case c5=>have:=hb1.size;simp;omega
   intro v1 w1 hown1 hg1 _
   have hb2:=below_push hb1 (Nat.le_refl _) hown hg1
   go_wp2
   exact ⟨⟨m / 1000000000,out ++ [m % 1000000000],g,by omega,by simp;omega,hmg,rfl,HS,by simpa [intsV] using hown1,hb2⟩,by simp [intOf];omega⟩
  ·have HF:Hid (out = limbs n.toNat):=Lib.hid (by have e:=HE.out;rwa [show m.toNat = 0 from by omega,limbs_none,List.append_nil] at e)
   go_wp2
   go_ret
   exact ⟨_,rfl,by rw [← HF.out];exact hown,hb1⟩
theorem quiet_at {P:Program} {f:FuncId} {args:Array Value} {W:World} {X:Nat→World} {n:Nat} {v:Value} (hX:X n = W)
 (h:Calls P f args W fun e w'=>e = .returned v∧W = w'):Calls P f args W fun e w''=>e = .returned v∧∃ m,w'' = X m :=
 h.mono fun _ _ ⟨he,hm⟩=>⟨he,n,hm.symm.trans hX.symm⟩
set_option maxHeartbeats 400000 in
theorem isNaN_any (x:Int) (w:World):Calls Tryz.prog 261 #[.int .i64 x] w fun e w'=>e = .returned (.bool false)∧w = w':=by
 go_enter Tryz.func261,Tryz.ntmps261
 go_wp2
 go_ret
 exact ⟨by simp,rfl⟩
set_option maxHeartbeats 400000 in
theorem compare_any (x y:Int) (w:World):Calls Tryz.prog 214 #[.int .i64 x,.int .i64 y] w fun e w'=>e = .returned (.int .i64 (cmpI x y))∧w = w':=by
 go_enter Tryz.func214,Tryz.ntmps214
 go_wp2_with (go_at_call 261;refine (isNaN_any _ _).mono ?_;rintro e w' ⟨rfl,rfl⟩)
 all_goals (go_ret;refine ⟨?_,rfl⟩;unfold cmpI;(repeat' split) <;> first | rfl | (exfalso;omega))
set_option maxHeartbeats 1000000 in
theorem compareLimbs_any (va vb:Value) (a b:List Int) (la ha lb hb:Nat) (w:World) (hal:a.length ≤ 9223372036854775807) (_hbl:b.length ≤ 9223372036854775807) (oa:DigN a∧a.getLastD 1 ≠ 0) (ob:DigN b∧b.getLastD 1 ≠ 0)
 (hra:Row w la ha va (intsV a)) (hrb:Row w lb hb vb (intsV b)) :
 Calls Tryz.prog 154 #[va,vb] w fun e w'=>e = .returned (.int .i64 (cmpI (nval a) (nval b)))∧∃ q,w.drewN q = w':=by
 have OA:=Lib.hid oa
 have OB:=Lib.hid ob
 obtain ⟨A,c,rfl,hA⟩:=hra
 obtain ⟨B,d,rfl,hB⟩:=hrb
 rw [intsV_length]
 rw [intsV_length]
 have HA:=Lib.hid hA
 have HB:=Lib.hid hB
 clear hA hB oa ob
 by_cases hlen:a.length = b.length
 ·have HL:=Lib.hid hlen
  have hbe:((a.length:Int) != (b.length:Int)) = false:=by simp [hlen]
  clear hlen
  go_enter Tryz.func154,Tryz.ntmps154
  go_wp2
  go_loopw [5] (fun i wr=>∃ k q:Nat,k ≤ a.length∧i = .int .i64 ((k:Int) - 1)∧wr = w.drewN q∧Hid (a.drop k = b.drop k)) (fun i _=>(intOf i+1).toNat)
  case atStart=>exact ⟨a.length,0,Nat.le_refl _,rfl,rfl,Lib.hid (by rw [List.drop_of_length_le (Nat.le_refl _),List.drop_of_length_le (by have:=HL.out;omega)])⟩
  case round =>
   obtain ⟨k,q,hk,rfl,rfl,HT⟩:=hrel
   by_cases hz:0 < k
   ·obtain ⟨m,rfl⟩:∃ m,k = m+1:=⟨k - 1,by omega⟩
    have hlt:m < a.length:=by omega
    have hlt2:m < b.length:=by have:=HL.out;omega
    obtain ⟨p,rfl,_,_,hca⟩:=HA.out m _ (intsV_at a m hlt)
    obtain ⟨r,rfl,_,_,hcb⟩:=HB.out m _ (intsV_at b m hlt2)
    have hm1:((m+1:Nat):Int) - 1 = (m:Int):=by omega
    rw [hm1]
    clear hm1 hz
    by_cases he:a[m] = b[m]
    ·have hne:(a[m] != b[m]) = false:=by simp [he]
     have HS:=Lib.hid (drop_same a b m hlt hlt2 HT.out he)
     clear he
     go_wp2
     go_quiet (fail)
     go_wp2
     go_roundw
     case rel=>exact ⟨m,_,by omega,rfl,rfl,HS⟩
     case measure=>simp [intOf]
    ·have hne:(a[m] != b[m]) = true:=by rw [bne_iff_ne];exact he
     have HV:Hid (cmpI a[m] b[m] = cmpI (nval a) (nval b)):=Lib.hid (by
      by_cases h1:a[m] < b[m]
      ·rw [cmp_lt h1,cmp_lt (nval_lt_down a b OA.out.1 OB.out.1 HL.out m (by rw [nval_drop a m hlt,nval_drop b m hlt2,HT.out];omega))]
      ·rw [cmp_gt (show b[m] < a[m] by omega),cmp_gt (nval_lt_down b a OB.out.1 OA.out.1 HL.out.symm m (by rw [nval_drop a m hlt,nval_drop b m hlt2,HT.out];omega))])
     clear he
     go_wp2
     go_quiet (fail)
     go_wp2
     go_quiet ((go_at_call 214;exact quiet_at rfl (compare_any _ _ _)))
     go_wp2
     go_ret
     exact ⟨ret_int HV.out,drew_three _ _ _ _⟩
   ·obtain rfl:k = 0:=by omega
    go_wp2
    go_ret
    exact ⟨ret_int (cmp_eq (by have:=HT.out;rw [List.drop_zero,List.drop_zero] at this;rw [this])).symm,q,rfl⟩
 ·have hbe:((a.length:Int) != (b.length:Int)) = true:=by simp;omega
  have HV:Hid (cmpI (a.length:Int) (b.length:Int) = cmpI (nval a) (nval b)):=Lib.hid (by
   by_cases hs:a.length < b.length
   ·rw [cmp_lt (by omega),cmp_lt (nval_short a b OA.out.1 OB.out.1 hs OB.out.2)]
   ·rw [cmp_gt (by omega),cmp_gt (nval_short b a OB.out.1 OA.out.1 (by omega) OA.out.2)])
  clear hlen
  go_enter Tryz.func154,Tryz.ntmps154
  go_wp2_with (go_at_call 214;refine (compare_any _ _ _).mono ?_;rintro e w' ⟨rfl,rfl⟩)
  go_ret
  exact ⟨ret_int HV.out,0,rfl⟩
set_option maxHeartbeats 1000000 in
theorem implNatCmp_drew (va vb:Value) (a b:List Int) (la ha lb hb:Nat) (w:World) (hal:a.length ≤ 9223372036854775807) (hbl:b.length ≤ 9223372036854775807)
 (hra:Row w la ha va (intsV a)) (hrb:Row w lb hb vb (intsV b)) :
 Calls Tryz.prog 213 #[va,vb] w fun e w'=>e = .returned (.int .i64 (cmpN a b))∧∃ q,w.drewN q = w':=by
 by_cases oa:natOkB a = true
 ·by_cases ob:natOkB b = true
  ·have HC:=Lib.hid (show cmpN a b = cmpI (nval a) (nval b) by unfold cmpN;rw [if_pos ⟨oa,ob⟩])
   have OA:=Lib.hid (ok_dig oa)
   have OB:=Lib.hid (ok_dig ob)
   go_enter Tryz.func213,Tryz.ntmps213
   go_wp2_with fail
   refine (implNatOk_same va a la ha _ hal hra).mono ?_
   rintro e w' ⟨rfl,rfl⟩
   rw [oa]
   go_wp2_with fail
   refine (implNatOk_same vb b lb hb _ hbl hrb).mono ?_
   rintro e w' ⟨rfl,rfl⟩
   rw [ob]
   clear oa ob
   go_wp2_with fail
   refine (compareLimbs_any va vb a b la ha lb hb _ hal hbl OA.out OB.out hra hrb).mono ?_
   rintro e w' ⟨rfl,q,rfl⟩
   go_wp2
   go_ret
   exact ⟨ret_int HC.out.symm,q,rfl⟩
  ·have ob':natOkB b = false:=by simpa using ob
   have HC:=Lib.hid (show cmpN a b = 0 by unfold cmpN;rw [if_neg (fun h=>ob h.2)])
   clear ob
   go_enter Tryz.func213,Tryz.ntmps213
   go_wp2_with fail
   refine (implNatOk_same va a la ha _ hal hra).mono ?_
   rintro e w' ⟨rfl,rfl⟩
   rw [oa]
   go_wp2_with fail
   refine (implNatOk_same vb b lb hb _ hbl hrb).mono ?_
   rintro e w' ⟨rfl,rfl⟩
   rw [ob']
   go_wp2
   go_ret
   exact ⟨ret_int HC.out.symm,0,rfl⟩
 ·have oa':natOkB a = false:=by simpa using oa
  have HC:=Lib.hid (show cmpN a b = 0 by unfold cmpN;rw [if_neg (fun h=>oa h.1)])
  clear oa
  go_enter Tryz.func213,Tryz.ntmps213
  go_wp2_with fail
  refine (implNatOk_same va a la ha _ hal hra).mono ?_
  rintro e w' ⟨rfl,rfl⟩
  rw [oa']
  go_wp2
  go_ret
  exact ⟨ret_int HC.out.symm,0,rfl⟩
theorem implNatCmp_any (va vb:Value) (a b:List Int) (la ha lb hb:Nat) (w:World) (hal:a.length ≤ 1048576) (hbl:b.length ≤ 1048576) (_:ha ≤ w.heap.size) (_:hb ≤ w.heap.size)
 (hra:Row w la ha va (intsV a)) (hrb:Row w lb hb vb (intsV b)) :
 Calls Tryz.prog 213 #[va,vb] w fun e w'=>e = .returned (.int .i64 (cmpN a b))∧Below w.heap.size w w':=by
 refine (implNatCmp_drew va vb a b la ha lb hb w (by omega) (by omega) hra hrb).mono ?_
 rintro e w' ⟨rfl,q,rfl⟩
 exact ⟨rfl,below_drewN (Below.refl _ _) q⟩
structure NatK where
 rest:List Value
 ty:TypeId
 ne:ty ≠ 3
@[reducible] def natK:NatK:=⟨[],125,by decide⟩
def NatX (K:NatK) (B b:Nat) (xs:List Int) (w:World):Prop :=
 B ≤ b∧∃ v,w.heap[b]? = some (.cells (v :: K.rest).toArray K.ty (0,0))∧w.ownsRow B 3 1 v xs.length (intsV xs)∧v.ownBlock ≠ some b
abbrev NatAt (B b:Nat) (xs:List Int) (w:World):Prop:=NatX natK B b xs w
theorem NatX.lt {K:NatK} {B b:Nat} {xs:List Int} {w:World} (h:NatX K B b xs w):b < w.heap.size:=by
 obtain ⟨_,v,hb,_⟩:=h
 exact (Array.getElem?_eq_some_iff.1 hb).1
theorem NatX.cell {K:NatK} {v:Value} {b:Nat} {w:World} (hb:w.heap[b]? = some (.cells (v :: K.rest).toArray K.ty (0,0))):w.cell? ⟨b,0,none⟩ = some v:=by
 rw [Lib.cell_of_heap hb];simp
theorem NatX.cell1 {K:NatK} {v u:Value} {b:Nat} {w:World} (hb:w.heap[b]? = some (.cells (v :: K.rest).toArray K.ty (0,0))) (j:Nat) (hj:K.rest[j]? = some u):w.cell? ⟨b,j+1,none⟩ = some u:=by
 rw [Lib.cell_of_heap hb];simpa using hj
theorem NatX.put {K:NatK} {B b:Nat} {v v':Value} {ys:List Int} {w:World} (hB:B ≤ b) (hb:w.heap[b]? = some (.cells (v :: K.rest).toArray K.ty (0,0))) (hown:w.ownsRow B 3 1 v' ys.length (intsV ys)) :
 NatX K B b ys (w.setCell ⟨b,0,none⟩ v'):=by
 have hne:=Lib.ownBlock_ne hown hb K.ne
 refine ⟨hB,v',?_,?_,hne⟩
 ·simp [World.setCell,Array.getElem?_modify,hb]
 ·exact hown.kept (row:=some b) ⟨rfl,rfl,rfl,by simp [World.setCell],fun k _ hk=>Below.heap_setCell _ _ _ _ (fun e=>hk (by simp [e]))⟩ (Or.inr hne)
theorem NatX.new {K:NatK} {B:Nat} {v:Value} {xs:List Int} {w:World} (hB:B ≤ w.heap.size) (hown:w.ownsRow B 3 1 v xs.length (intsV xs)):NatX K B w.heap.size xs (w.alloc (.cells (v :: K.rest).toArray K.ty)):=by
 refine ⟨hB,v,heap_alloc_new w _,own_alloc hown _,fun h=>?_⟩
 have:=(own_lt hown h).2
 omega
theorem NatAt.new {B:Nat} {v:Value} {xs:List Int} {w:World} (hB:B ≤ w.heap.size) (hown:w.ownsRow B 3 1 v xs.length (intsV xs)):NatAt B w.heap.size xs (w.alloc (.cells #[v] 125)) :=
 NatX.new (K:=natK) hB hown
set_option maxHeartbeats 1000000 in
theorem cloneI_any (v:Value) (xs:List Int) (lo hi:Nat) (w:World) (hl:xs.length ≤ 1048576) (hr:Row w lo hi v (intsV xs)) :
 Calls Tryz.prog 169 #[v] w (NewInts xs w):=by
 obtain ⟨i0,hi0,hz0,hz1,hz2⟩:=info_parts intInfo
 obtain ⟨A,c,rfl,hA⟩:=hr
 have q22:∀ (w:World) (a:Option Addr) (n c n' c':Nat),(binOp .eql 28 (.slice a n c) (.slice none n' c')).run Tryz.prog w = .ok (.bool a.isNone) w:=fun w a n c n' c'=>Lib.run_eql_slice_nil w _ _ a n c n' c' Tryz.underlying28
 cases A with
 | none =>
   obtain rfl:xs = []:=by
    cases xs with
    | nil=>rfl
    | cons x r =>
      obtain ⟨a,e,_⟩:=hA 0 _ rfl
      cases e
   clear hA
   go_enter Tryz.func169,Tryz.ntmps169
   go_wp2
   go_ret
   exact ⟨_,rfl,World.ownsRow_nil _ _ _ _,Below.refl _ _⟩
 | some a =>
   have HA:=Lib.hid hA
   clear hA
   rw [intsV_length]
   go_enter Tryz.func169,Tryz.ntmps169
   go_wp2_with (at_builtin;refine wpList_append_own _ rfl _ _ 28 rfl w.heap.size 3 i0 (.int .i64 0) 1 8 Tryz.underlying28 hi0 hz0 hz1 hz2 rfl (by decide) _ _ _ rfl (World.ownsRow_made w #[] 0 (Nat.le_refl _) (Nat.zero_le _) rfl) a xs.length c (intsV xs) rfl ?qc1 ?qc2 ?qc3 ?qc4 ?qc5 ?qc6 ?_)
   case qc1=>simp [intsV_length]
   case qc2 =>
    intro j u hj
    obtain ⟨p,e,h1,h2,h3⟩:=HA.out j u hj
    cases e
    exact Lib.cell?_alloc_some _ h3
   case qc3=>intro u hu;obtain ⟨x,_,rfl⟩:=List.mem_map.1 hu;rfl
   case qc4=>unfold maxLen;omega
   case qc5=>omega
   case qc6=>simp
   intro v' w1 hown hgrow hnil
   go_wp2
   go_ret
   exact ⟨v',rfl,by simpa using hown,((Below.refl _ w).alloc (Nat.le_refl _) _).grown hgrow (by simp) (by intro k hk;simp [Value.ownBlock] at hk;omega)⟩
def NewNat (xs:List Int) (w:World) (e:Ending) (w':World):Prop :=
 ∃ b,e = .returned (.pointer (some ⟨b,0,none⟩))∧NatAt w.heap.size b xs w'∧Below w.heap.size w w'
set_option maxHeartbeats 400000 in
theorem copyNat_any (v:Value) (xs:List Int) (lo hi:Nat) (w:World) (hl:xs.length ≤ 1048576) (hr:Row w lo hi v (intsV xs)) :
 Calls Tryz.prog 218 #[v] w (NewNat xs w):=by
 go_enter Tryz.func218,Tryz.ntmps218
 go_wp2_with fail
 refine (cloneI_any v xs lo hi _ hl hr).mono ?_
 rintro e w1 ⟨v1,rfl,o1,b1⟩
 obtain ⟨A1,c1,rfl⟩:=own_len o1
 go_wp2
 go_ret
 exact ⟨_,rfl,NatAt.new b1.size o1,b1.alloc b1.size _⟩
set_option maxHeartbeats 400000 in
theorem natResult_any {K:NatK} (B b:Nat) (xs:List Int) (w:World) (hl:xs.length ≤ 1048576) (h:NatX K B b xs w) :
 Calls Tryz.prog 165 #[.pointer (some ⟨b,0,none⟩)] w (OwnPost B (capL xs) w):=by
 obtain ⟨hB,v,hb,hown,hne⟩:=h
 have hc:w.cell? ⟨b,0,none⟩ = some v:=NatX.cell hb
 obtain ⟨A,c,rfl⟩:=own_len hown
 have HB:=Lib.hid hb
 have HO:=Lib.hid hown
 clear hb hown hne
 by_cases h50:50 < xs.length
 ·have HR:=Lib.hid (show capL xs = [] by unfold capL;rw [if_pos h50])
  go_enter Tryz.func165,Tryz.ntmps165
  go_wp2
  go_ret
  exact ⟨rfl,_,rfl,by rw [HR.out];exact World.ownsRow_nil _ _ _ _⟩
 ·have HR:=Lib.hid (show capL xs = xs by unfold capL;rw [if_neg h50])
  go_enter Tryz.func165,Tryz.ntmps165
  go_wp2
  go_ret
  exact ⟨rfl,_,rfl,by rw [HR.out];exact HO.out⟩
end Go.Proofs.YtehkknphcflofaaGreatDoor
