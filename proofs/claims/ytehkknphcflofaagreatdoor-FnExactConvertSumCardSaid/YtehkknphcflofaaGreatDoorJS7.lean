import Derived.Test.YtehkknphcflofaaGreatDoorJS6
set_option maxRecDepth 100000
namespace Go.Proofs.YtehkknphcflofaaGreatDoor
open Go.RowKit
theorem postn_isE {a b:Int} (h:a = b) {w w':World} {e:Ending} (k:Postn a w e w'):Postn b w e w':=h ▸ k
theorem step_hit {l:List EI} {a b:ByteArray} {n:Nat} {x:EI} (h0:0 ≤ posE l a b) (h2:l[n]? = some x) (h3:atE l a b = n):stepT l a b = ratD x.2.2:=by
 unfold stepT
 rw [if_pos h0,h3,h2]
theorem step_inv {l:List EI} {a b:ByteArray} {n:Nat} {x:EI} (hn:¬ 0 ≤ posE l a b) (h2:l[n]? = some x) (h3:atE l b a = n):stepT l a b = (divQ unitQ.1 (ratD x.2.2)).1:=by
 unfold stepT
 rw [if_neg hn,h3,h2]
theorem leg_inv {l:List EI} {a b:ByteArray} (hn:¬ 0 ≤ posE l a b) (h:¬ legT l a b = 0):0 ≤ posE l b a:=by
 unfold legT at h
 rw [if_neg hn] at h
 split at h
 ·assumption
 ·exact absurd rfl h
theorem unitQ_szS:szQ unitQ.1 ≤ 1048576:=by unfold unitQ makeQ;split;exact lowQ_sz _ _ _;decide
theorem newVQ_chgS {R0:QI} {S T:List Nat} {v:Value} {w W:World} (o:At S (OwnQ v R0) W) (hd:∀ i ∈ S,i ∉ T) (hT:∀ i ∈ T,w.heap.size ≤ i) (l:∀ i ∈ S,w.heap.size ≤ i) (hW:Below w.heap.size w W) :
 ∀ W',Chg T W W'→NewV (fun u=>OwnQ u R0) w (.returned v) W' :=
 fun _ hc=>⟨v,S,rfl,o.chg hc hd,fun i hi=>⟨l i hi,Nat.lt_of_lt_of_le (o.lt i hi) hc.size⟩,below_chg hW hc hW.size hT⟩
set_option maxHeartbeats 8000000 in
theorem l10Step_any (v:Value) (t:TI) (p q:ByteArray) (w:World) (hl:t.2.length ≤ 1099511627776) (hx:∀ x ∈ t.2,x.2.2.1.2.length ≤ 1048576) (hg:¬ legT t.2 p q = 0) (h:OwnTR w v t) :
 Calls Tryz.prog 191 #[v,.string p,.string q] w (NewV (fun u=>OwnQ u (stepT t.2 p q)) w):=by
 obtain ⟨A,c,rfl,hr⟩:=ownTR_form h
 have HR:=Lib.hid (show ∀ W,Below w.heap.size w W→OwnER W (.slice A t.2.length c) t.2 from fun W h=>hr.below h)
 have HTR:=Lib.hid (show ∀ W,Below w.heap.size w W→OwnTR W (.agg #[.string t.1,.slice A t.2.length c]) t from fun W h=>⟨_,rfl,hr.below h⟩)
 clear h hr
 obtain ⟨A',c',e',hc⟩:=HR.out w (Below.refl _ _)
 injection e' with e1 e2 e3
 subst e1
 clear e2 e3 c'
 have HC:=Lib.hid hc
 clear hc
 have bb0:Below w.heap.size w ((w.alloc (.cells #[.string t.1,.slice A t.2.length c] 25)).alloc (.cells #[.bool false,.slice none 0 0,.slice none 0 0] 36)):=below_al (below_al (Below.refl _ _) _) _
 have kt:=(box_new w #[.string t.1,.slice A t.2.length c] 25).below (below_al (Below.refl _ _) (.cells #[.bool false,.slice none 0 0,.slice none 0 0] 36))
 have ko:=(box_new (w.alloc (.cells #[.string t.1,.slice A t.2.length c] 25)) #[.bool false,.slice none 0 0,.slice none 0 0] 36)
 rw [show (w.alloc (.cells #[.string t.1,.slice A t.2.length c] 25)).heap.size = w.heap.size+1 by simp] at ko
 obtain ⟨R,hR⟩:∃ R,stepT t.2 p q = R:=⟨_,rfl⟩
 have EQ:=Lib.hid hR
 rw [hR]
 clear hR
 go_enter Tryz.func191,Tryz.ntmps191
 have kt_c0:=kt.here.cell 0 _ rfl
 have kt_c1:=kt.here.cell 1 _ rfl
 go_wp2_with fail
 clear kt_c0 kt_c1
 refine (l10At_any _ t.2 p q _ (by omega) (HR.out _ bb0)).mono ?_
 rintro e w1 ⟨rfl,b1⟩
 have hz1:w.heap.size+1+1 ≤ w1.heap.size:=by have:=b1.size;simp at this;omega
 have bb1:=Below.next bb0 b1
 replace kt:=kt.below b1
 replace ko:=ko.below b1
 by_cases h0:0 ≤ posE t.2 p q
 ·obtain ⟨n,x,hpn,hxn,han⟩:=posE_at h0
  have HV:=Lib.hid (EQ.out.symm.trans (step_hit h0 hxn han))
  rw [hpn]
  clear h0 hpn han EQ hg
  obtain ⟨a,ux,rfl,ha,hc0,hc1,hc2,hc3,hc4,hox⟩:=HC.out n x hxn
  obtain ⟨A1,c1,rfl⟩:=own_len hox
  have HOX:=Lib.hid hox
  have hxl:=hx x (List.mem_of_getElem? hxn)
  have HCC:=Lib.hid (show ∀ W,Below w.heap.size w W→W.cell? ⟨(a.add (n * 5)).block,(a.add (n * 5)).off+2,none⟩ = some (.bool x.2.2.1.1)∧W.cell? ⟨(a.add (n * 5)).block,(a.add (n * 5)).off+3,none⟩ = some (.slice A1 x.2.2.1.2.length c1)∧W.cell? ⟨(a.add (n * 5)).block,(a.add (n * 5)).off+4,none⟩ = some (.int .i64 x.2.2.2) from fun W hW=>⟨(cell_keep5 hW ha n 2).trans hc2,(cell_keep5 hW ha n 3).trans hc3,(cell_keep5 hW ha n 4).trans hc4⟩)
  have HOD:=Lib.hid (show ∀ W,Below w.heap.size w W→OwnD (.agg #[.bool x.2.2.1.1,.slice A1 x.2.2.1.2.length c1,.int .i64 x.2.2.2]) x.2.2 W from fun W hW=>OwnD.mk (own_below HOX.out hW))
  have hn0:(0:Int) ≤ (n:Int):=by omega
  have hnl:=(List.getElem?_eq_some_iff.1 hxn).1
  have hn1:(n:Int) < (t.2.length:Int):=by omega
  clear hc0 hc1 hc2 hc3 hc4 hox ha hxn hx
  have hd0:decide ((0:Int) ≤ (n:Int)) = true:=decide_eq_true hn0
  obtain ⟨k2,k3,k4⟩:=HCC.out _ bb1
  have kt_c0:=kt.here.cell 0 _ rfl
  have kt_c1:=kt.here.cell 1 _ rfl
  go_wp2_with fail
  clear kt_c0 kt_c1
  refine (specDecRat_any _ x.2.2 _ hxl (HOD.out _ bb1)).mono ?_
  rintro e w2 ⟨uq,Sq,rfl,oq,lq,b2⟩
  obtain ⟨Aq,cq,Bq,dq,rfl⟩:=ownQ_form oq.here
  have bb2:=Below.next bb1 b2
  replace kt:=kt.below b2
  replace ko:=ko.below b2
  have HW:=Lib.hid (newVQ_chgS (R0:=ratD x.2.2) (v:=.agg #[.bool (ratD x.2.2).1.1,.slice Aq (ratD x.2.2).1.2.length cq,.slice Bq (ratD x.2.2).2.length dq]) (T:=[w.heap.size+1]) oq (fun i hi hm=>by have:=(lq i hi).1;simp at hm;omega) (fun i hi=>by simp at hi;omega) (fun i hi=>by have:=(lq i hi).1;omega) bb2)
  have cz0:=ko.here.cell 0 _ rfl
  have fz0:=Lib.frozen_of_heap ko.here 0
  have cz1:=ko.here.cell 1 _ rfl
  have fz1:=Lib.frozen_of_heap ko.here 1
  have cz2:=ko.here.cell 2 _ rfl
  have fz2:=Lib.frozen_of_heap ko.here 2
  clear ko oq lq k2 k3 k4 kt
  go_wp2
  refine bodyPost_ret (v:=.agg #[.bool (ratD x.2.2).1.1,.slice Aq (ratD x.2.2).1.2.length cq,.slice Bq (ratD x.2.2).2.length dq]) (by simp [results,Tryz.results191,go_sem,cz0,cz1,cz2]) rfl ?_
  rw [HV.out]
  refine HW.out _ ?_
  repeat (first | with_reducible exact Chg.refl _ _ | with_reducible refine Chg.setCell ?_ (by simp) _ | with_reducible refine Chg.trans ?_ (Chg.of_below (below_al (Below.refl _ _) _)))
 ·have hd0:decide (0 ≤ posE t.2 p q) = false:=decide_eq_false h0
  obtain ⟨n,x,hpn,hxn,han⟩:=posE_at (leg_inv h0 hg)
  have HV:=Lib.hid (EQ.out.symm.trans (step_inv h0 hxn han))
  have HPN:=Lib.hid hpn
  clear hpn han EQ hg h0
  generalize posE t.2 p q = z at *
  obtain ⟨a,ux,rfl,ha,hc0,hc1,hc2,hc3,hc4,hox⟩:=HC.out n x hxn
  obtain ⟨A1,c1,rfl⟩:=own_len hox
  have HOX:=Lib.hid hox
  have hxl:=hx x (List.mem_of_getElem? hxn)
  have HCC:=Lib.hid (show ∀ W,Below w.heap.size w W→W.cell? ⟨(a.add (n * 5)).block,(a.add (n * 5)).off+2,none⟩ = some (.bool x.2.2.1.1)∧W.cell? ⟨(a.add (n * 5)).block,(a.add (n * 5)).off+3,none⟩ = some (.slice A1 x.2.2.1.2.length c1)∧W.cell? ⟨(a.add (n * 5)).block,(a.add (n * 5)).off+4,none⟩ = some (.int .i64 x.2.2.2) from fun W hW=>⟨(cell_keep5 hW ha n 2).trans hc2,(cell_keep5 hW ha n 3).trans hc3,(cell_keep5 hW ha n 4).trans hc4⟩)
  have HOD:=Lib.hid (show ∀ W,Below w.heap.size w W→OwnD (.agg #[.bool x.2.2.1.1,.slice A1 x.2.2.1.2.length c1,.int .i64 x.2.2.2]) x.2.2 W from fun W hW=>OwnD.mk (own_below HOX.out hW))
  have hn0:(0:Int) ≤ (n:Int):=by omega
  have hnl:=(List.getElem?_eq_some_iff.1 hxn).1
  have hn1:(n:Int) < (t.2.length:Int):=by omega
  clear hc0 hc1 hc2 hc3 hc4 hox ha hxn hx
  go_wp2_with fail
  refine ((specIntOf_any 1 _ (by decide) (by decide)).mono fun _ _ h=>NewS.newV h).mono ?_
  rintro e w2 ⟨ux,Sx,rfl,ox,lx,b2⟩
  obtain ⟨Ax,cx,rfl⟩:=ownS_form ox.here
  have hz2:=b2.size
  have bb2:=Below.next bb1 b2
  replace kt:=kt.below b2
  replace ko:=ko.below b2
  go_wp2_with fail
  refine (specRatInt_any _ (ofZ 1) _ one_szR ox.here).mono ?_
  rintro e w3 ⟨uq,Sq,rfl,oq,lq,b3⟩
  obtain ⟨Aq,cq,Bq,dq,rfl⟩:=ownQ_form oq.here
  have hz3:=b3.size
  have bb3:=Below.next bb2 b3
  replace kt:=kt.below b3
  replace ko:=ko.below b3
  replace ox:=ox.below b3
  clear ox lx hd0
  have ku:=box_new (w3) #[.bool (makeQ (ofZ 1) (ofZ 1)).1.1.1,.slice Aq (makeQ (ofZ 1) (ofZ 1)).1.1.2.length cq,.slice Bq (makeQ (ofZ 1) (ofZ 1)).1.2.length dq] 36
  have alu:=below_al (Below.refl (w3).heap.size (w3)) (.cells #[.bool (makeQ (ofZ 1) (ofZ 1)).1.1.1,.slice Aq (makeQ (ofZ 1) (ofZ 1)).1.1.2.length cq,.slice Bq (makeQ (ofZ 1) (ofZ 1)).1.2.length dq] 36)
  have bbu:=Below.next bb3 alu
  replace kt:=kt.below alu
  replace ko:=ko.below alu
  replace oq:=oq.below alu
  go_upto_region 5 with fail
  obtain ⟨w4,hw4⟩:∃ W,W = (w3.alloc (.cells #[.bool (makeQ (ofZ 1) (ofZ 1)).1.1.1,.slice Aq (makeQ (ofZ 1) (ofZ 1)).1.1.2.length cq,.slice Bq (makeQ (ofZ 1) (ofZ 1)).1.2.length dq] 36)):=⟨_,rfl⟩
  have hz4:w3.heap.size+1 = w4.heap.size:=by rw [hw4];simp
  rw [← hw4] at kt ko ku oq bbu ⊢
  clear hw4
  have HB2:=Lib.hid bbu
  obtain ⟨k2,k3,k4⟩:=HCC.out _ bbu
  have kt_c0:=kt.here.cell 0 _ rfl
  have kt_c1:=kt.here.cell 1 _ rfl
  have ku_c0:=ku.here.cell 0 _ rfl
  have ku_c1:=ku.here.cell 1 _ rfl
  have ku_c2:=ku.here.cell 2 _ rfl
  go_cut [10] (fun s wx=>NewLocV 36 (fun v=>OwnQ v (divQ unitQ.1 (ratD x.2.2)).1) w4 s wx)
  case first =>
   have HC0:=Lib.hid (show Chg [] w4 w4.drew from (Chg.refl _ _).drew1)
   have HCr:=Lib.hid (show Chg [] w4 w4 from Chg.refl _ _)
   have KL:=Lib.hid (show ∀ W,Chg [] w4 W→W.cell? ⟨w.heap.size,0,none⟩ = some (.string t.1)∧W.cell? ⟨w.heap.size,1,none⟩ = some (.slice (some a) t.2.length c)∧W.cell? ⟨w3.heap.size,0,none⟩ = some (.bool (makeQ (ofZ 1) (ofZ 1)).1.1.1)∧W.cell? ⟨w3.heap.size,1,none⟩ = some (.slice Aq (makeQ (ofZ 1) (ofZ 1)).1.1.2.length cq)∧W.cell? ⟨w3.heap.size,2,none⟩ = some (.slice Bq (makeQ (ofZ 1) (ofZ 1)).1.2.length dq)∧W.cell? ⟨(a.add (n * 5)).block,(a.add (n * 5)).off+2,none⟩ = some (.bool x.2.2.1.1)∧W.cell? ⟨(a.add (n * 5)).block,(a.add (n * 5)).off+3,none⟩ = some (.slice A1 x.2.2.1.2.length c1)∧W.cell? ⟨(a.add (n * 5)).block,(a.add (n * 5)).off+4,none⟩ = some (.int .i64 x.2.2.2)∧Hid (Chg [] w4 W) from fun W hc=>⟨(kt.chg hc (fun i hi hm=>by simp at hm)).here.cell 0 _ rfl,(kt.chg hc (fun i hi hm=>by simp at hm)).here.cell 1 _ rfl,(ku.chg hc (fun i hi hm=>by simp at hm)).here.cell 0 _ rfl,(ku.chg hc (fun i hi hm=>by simp at hm)).here.cell 1 _ rfl,(ku.chg hc (fun i hi hm=>by simp at hm)).here.cell 2 _ rfl,(HCC.out W (below_chg HB2.out hc HB2.out.size (fun i hi=>by simp at hi))).1,(HCC.out W (below_chg HB2.out hc HB2.out.size (fun i hi=>by simp at hi))).2.1,(HCC.out W (below_chg HB2.out hc HB2.out.size (fun i hi=>by simp at hi))).2.2,Lib.hid hc⟩)
   have BBF:=Lib.hid (show ∀ W,Chg [] w4 W→Below w.heap.size w W from fun W hc=>below_chg bbu hc bbu.size (fun i hi=>by simp at hi))
   clear kt_c0 kt_c1 ku_c0 ku_c1 ku_c2
   go_region_held3 (fun W=>W.cell? ⟨w.heap.size,0,none⟩ = some (.string t.1)∧W.cell? ⟨w.heap.size,1,none⟩ = some (.slice (some a) t.2.length c)∧W.cell? ⟨w3.heap.size,0,none⟩ = some (.bool (makeQ (ofZ 1) (ofZ 1)).1.1.1)∧W.cell? ⟨w3.heap.size,1,none⟩ = some (.slice Aq (makeQ (ofZ 1) (ofZ 1)).1.1.2.length cq)∧W.cell? ⟨w3.heap.size,2,none⟩ = some (.slice Bq (makeQ (ofZ 1) (ofZ 1)).1.2.length dq)∧W.cell? ⟨(a.add (n * 5)).block,(a.add (n * 5)).off+2,none⟩ = some (.bool x.2.2.1.1)∧W.cell? ⟨(a.add (n * 5)).block,(a.add (n * 5)).off+3,none⟩ = some (.slice A1 x.2.2.1.2.length c1)∧W.cell? ⟨(a.add (n * 5)).block,(a.add (n * 5)).off+4,none⟩ = some (.int .i64 x.2.2.2)∧Hid (Chg [] w4 W))
    ((refine KL.out _ ?_;(first | exact HC7.out | exact HC6.out | exact HC5.out | exact HCr.out | exact HC0.out | exact HC7.out.drew1 | exact HC6.out.drew1 | exact HC5.out.drew1 | exact HCr.out.drew1 | exact HC0.out.drew1 | exact HC7.out.trans (Chg.of_below (below_al (Below.refl _ _) _)) | exact HC6.out.trans (Chg.of_below (below_al (Below.refl _ _) _)) | exact HC5.out.trans (Chg.of_below (below_al (Below.refl _ _) _)) | exact HCr.out.trans (Chg.of_below (below_al (Below.refl _ _) _)) | exact HC0.out.trans (Chg.of_below (below_al (Below.refl _ _) _)) | exact (Chg.setNew HC7.out (by first | exact HC7.out.size | exact HC6.out.size | exact HC5.out.size | exact HCr.out.size | exact HC0.out.size) _) | exact (Chg.setNew (Chg.setNew HC7.out (by first | exact HC7.out.size | exact HC6.out.size | exact HC5.out.size | exact HCr.out.size | exact HC0.out.size) _) (by first | exact HC7.out.size | exact HC6.out.size | exact HC5.out.size | exact HCr.out.size | exact HC0.out.size) _) | exact (Chg.setNew (Chg.setNew (Chg.setNew HC7.out (by first | exact HC7.out.size | exact HC6.out.size | exact HC5.out.size | exact HCr.out.size | exact HC0.out.size) _) (by first | exact HC7.out.size | exact HC6.out.size | exact HC5.out.size | exact HCr.out.size | exact HC0.out.size) _) (by first | exact HC7.out.size | exact HC6.out.size | exact HC5.out.size | exact HCr.out.size | exact HC0.out.size) _) | fail)))
    (first
      | (go_at_call 180;(have hBB:=(‹_∧_∧_∧_∧_∧_∧_∧_∧Hid (Chg [] w4 _)›).2.2.2.2.2.2.2.2);(with_reducible refine ((l10At_any _ t.2 q p _ (by omega) (HR.out _ (BBF.out _ hBB.out))).mono fun _ _ h=>postn_isE HPN.out h).mono ?_);rintro e w5 ⟨rfl,b5⟩;have HC5:=Lib.hid (hBB.out.trans (Chg.of_below b5));(have oq_5:=At.below (by first | exact oq | exact At.below oq (below_al (Below.refl _ _) _) | exact At.below (At.below oq (below_al (Below.refl _ _) _)) (below_al (Below.refl _ _) _) | exact At.move oq (fun _ _=>rfl) (Nat.le_refl _) | exact At.below (At.move (w':=w4.drew) oq (fun _ _=>rfl) (Nat.le_refl _)) (below_al (Below.refl _ _) _)) b5);(first | (have early5:At [w4.heap.size] (BoxAt w4.heap.size #[.bool false,.slice none 0 0,.slice none 0 0] 36) w5:=At.below (box_new w4.drew _ _) b5) | (have early5:=At.below (box_new _ #[.bool false,.slice none 0 0,.slice none 0 0] 36) b5) | (have early5:=At.below early4 b5) | skip);have HBZ5:=Lib.hid hBB.out.size;clear hBB)
      | (go_at_call 249;(have hBB:=(‹_∧_∧_∧_∧_∧_∧_∧_∧Hid (Chg [] w4 _)›).2.2.2.2.2.2.2.2);(with_reducible refine (specDecRat_any _ x.2.2 _ hxl (HOD.out _ (BBF.out _ hBB.out))).mono ?_);rintro e w6 ⟨ud,Sd,rfl,od,ld,b6⟩;have HC6:=Lib.hid (hBB.out.trans (Chg.of_below b6));(have oq_6:=At.below (by first | exact oq_5 | exact At.below oq_5 (below_al (Below.refl _ _) _) | exact At.below (At.below oq_5 (below_al (Below.refl _ _) _)) (below_al (Below.refl _ _) _) | exact At.move oq_5 (fun _ _=>rfl) (Nat.le_refl _) | exact At.below (At.move (w':=w4.drew) oq_5 (fun _ _=>rfl) (Nat.le_refl _)) (below_al (Below.refl _ _) _)) b6);obtain ⟨Ad,cd,Bd_,dd,rfl⟩:=ownQ_form od.here;(first | (have early6:At [w4.heap.size] (BoxAt w4.heap.size #[.bool false,.slice none 0 0,.slice none 0 0] 36) w6:=At.below (box_new w4.drew _ _) b6) | (have early6:=At.below (box_new _ #[.bool false,.slice none 0 0,.slice none 0 0] 36) b6) | (have early6:=At.below early5 b6) | skip);have HBZ6:=Lib.hid hBB.out.size;clear hBB)
      | (go_at_call 115;(have hBB:=(‹_∧_∧_∧_∧_∧_∧_∧_∧Hid (Chg [] w4 _)›).2.2.2.2.2.2.2.2);(with_reducible refine (specRatDiv_any _ _ unitQ.1 (ratD x.2.2) _ unitQ_szS (ratD_sz _) (At.here (by first | exact oq_6 | exact At.below oq_6 (below_al (Below.refl _ _) _) | exact At.below (At.below oq_6 (below_al (Below.refl _ _) _)) (below_al (Below.refl _ _) _) | exact At.move oq_6 (fun _ _=>rfl) (Nat.le_refl _) | exact At.below (At.move (w':=w4.drew) oq_6 (fun _ _=>rfl) (Nat.le_refl _)) (below_al (Below.refl _ _) _))) (At.here (by first | exact od | exact At.below od (below_al (Below.refl _ _) _) | exact At.below (At.below od (below_al (Below.refl _ _) _)) (below_al (Below.refl _ _) _) | exact At.move od (fun _ _=>rfl) (Nat.le_refl _) | exact At.below (At.move (w':=w4.drew) od (fun _ _=>rfl) (Nat.le_refl _)) (below_al (Below.refl _ _) _)))).mono ?_);rintro e w7 ⟨uv,Sv,rfl,ov,lv,b7⟩;have HC7:=Lib.hid (hBB.out.trans (Chg.of_below b7));(have oq_7:=At.below (by first | exact oq_6 | exact At.below oq_6 (below_al (Below.refl _ _) _) | exact At.below (At.below oq_6 (below_al (Below.refl _ _) _)) (below_al (Below.refl _ _) _) | exact At.move oq_6 (fun _ _=>rfl) (Nat.le_refl _) | exact At.below (At.move (w':=w4.drew) oq_6 (fun _ _=>rfl) (Nat.le_refl _)) (below_al (Below.refl _ _) _)) b7);(have od_7:=At.below (by first | exact od | exact At.below od (below_al (Below.refl _ _) _) | exact At.below (At.below od (below_al (Below.refl _ _) _)) (below_al (Below.refl _ _) _) | exact At.move od (fun _ _=>rfl) (Nat.le_refl _) | exact At.below (At.move (w':=w4.drew) od (fun _ _=>rfl) (Nat.le_refl _)) (below_al (Below.refl _ _) _)) b7);obtain ⟨Av,cv,Bv,dv,rfl⟩:=ownQ_form ov.here;(first | have hbxg:=At.below_lt (box_new _ #[.bool false,.slice none 0 0,.slice none 0 0] 36) b7 | have hbxg:=At.below_lt early6 b7 | skip);(try (have hbxf:=hbxg.1;have HGB:=Lib.hid hbxg.2;clear hbxg));(try (have cz0:=hbxf.here.cell 0 _ rfl;have fz0:=Lib.frozen_of_heap hbxf.here 0;have cz1:=hbxf.here.cell 1 _ rfl;have fz1:=Lib.frozen_of_heap hbxf.here 1;have cz2:=hbxf.here.cell 2 _ rfl;have fz2:=Lib.frozen_of_heap hbxf.here 2));have HBZ7:=Lib.hid hBB.out.size;clear hBB))
   all_goals (go_wp2_with fail;go_meet;first | exact newLocV_last ov lv HBZ7.out (below_of_chg HC7.out) | exact newLocV_early3 hbxf.here ov lv (by first | exact HC6.out.size | exact HC5.out.size | exact HCr.out.size | exact HC0.out.size) HGB.out (below_of_chg HC7.out))
  rename World=>w5
  clear kt_c0 kt_c1 ku_c0 ku_c1 ku_c2
  obtain ⟨gv,csv,Sv,rfl,kv,ov,nv,lv,b5⟩:=hcut
  obtain ⟨Av,cv,Bv,dv,ev⟩:=ownQ_form ov.here
  injection ev with ev
  subst ev
  have bb5:=Below.next bbu b5
  replace kt:=kt.below b5
  replace ko:=ko.below b5
  replace oq:=oq.below b5
  replace ku:=ku.below b5
  have hzl:=b5.size
  have HW:=Lib.hid (newVQ_chgS (R0:=(divQ unitQ.1 (ratD x.2.2)).1) (v:=.agg #[.bool (divQ unitQ.1 (ratD x.2.2)).1.1.1,.slice Av (divQ unitQ.1 (ratD x.2.2)).1.1.2.length cv,.slice Bv (divQ unitQ.1 (ratD x.2.2)).1.2.length dv]) (T:=[w.heap.size+1]) ov (fun i hi hm=>by have:=(lv i (List.mem_cons_of_mem _ hi)).1;simp at hm;omega) (fun i hi=>by simp at hi;omega) (fun i hi=>by have:=(lv i (List.mem_cons_of_mem _ hi)).1;omega) bb5)
  have cz0:=ko.here.cell 0 _ rfl
  have fz0:=Lib.frozen_of_heap ko.here 0
  have cz1:=ko.here.cell 1 _ rfl
  have fz1:=Lib.frozen_of_heap ko.here 1
  have cz2:=ko.here.cell 2 _ rfl
  have fz2:=Lib.frozen_of_heap ko.here 2
  have cp0:=kv.here.cell 0 _ rfl
  have cp1:=kv.here.cell 1 _ rfl
  have cp2:=kv.here.cell 2 _ rfl
  clear kv k2 k3 k4
  clear ko ov lv oq kt ku
  go_wp2
  refine bodyPost_ret (v:=.agg #[.bool (divQ unitQ.1 (ratD x.2.2)).1.1.1,.slice Av (divQ unitQ.1 (ratD x.2.2)).1.1.2.length cv,.slice Bv (divQ unitQ.1 (ratD x.2.2)).1.2.length dv]) (by simp [results,Tryz.results191,go_sem,cz0,cz1,cz2]) rfl ?_
  rw [HV.out]
  refine HW.out _ ?_
  repeat (first | with_reducible exact Chg.refl _ _ | with_reducible refine Chg.setCell ?_ (by simp) _ | with_reducible refine Chg.trans ?_ (Chg.of_below (below_al (Below.refl _ _) _)))
set_option maxHeartbeats 2000000 in
theorem l10Leg_any (v:Value) (t:TI) (p q:ByteArray) (w:World) (hl:t.2.length ≤ 1099511627776) (h:OwnTR w v t) :
 Calls Tryz.prog 105 #[v,.string p,.string q] w (Postn (legT t.2 p q) w):=by
 obtain ⟨A,c,rfl,hr⟩:=ownTR_form h
 have HR:=Lib.hid (show ∀ W,Below w.heap.size w W→OwnER W (.slice A t.2.length c) t.2 from fun W h=>hr.below h)
 have HTR:=Lib.hid (show ∀ W,Below w.heap.size w W→OwnTR W (.agg #[.string t.1,.slice A t.2.length c]) t from fun W h=>⟨_,rfl,hr.below h⟩)
 clear h hr
 have bb0:Below w.heap.size w (w.alloc (.cells #[.string t.1,.slice A t.2.length c] 25)):=below_al (Below.refl _ _) _
 have kt:=(box_new w #[.string t.1,.slice A t.2.length c] 25)
 go_enter Tryz.func105,Tryz.ntmps105
 have kt_c0:=kt.here.cell 0 _ rfl
 have kt_c1:=kt.here.cell 1 _ rfl
 go_wp2_with fail
 clear kt_c0 kt_c1
 refine (l10At_any _ t.2 p q _ (by omega) (HR.out _ bb0)).mono ?_
 rintro e w1 ⟨rfl,b1⟩
 have bb1:=Below.next bb0 b1
 replace kt:=kt.below b1
 have HE:=Lib.hid (show legT t.2 p q = if 0 ≤ posE t.2 p q then 2 else if 0 ≤ posE t.2 q p then 3 else 0 from rfl)
 generalize posE t.2 p q = z at *
 by_cases h0:0 ≤ z
 ·have HV:=Lib.hid (show legT t.2 p q = 2 by rw [HE.out,if_pos h0])
  have hz:decide (0 ≤ z) = true:=decide_eq_true h0
  clear kt
  go_wp2
  go_ret
  exact ⟨ret_int HV.out.symm,bb1⟩
 ·have HE2:=Lib.hid (show legT t.2 p q = if 0 ≤ posE t.2 q p then 3 else 0 by rw [HE.out,if_neg h0])
  have hz:decide (0 ≤ z) = false:=decide_eq_false h0
  clear HE
  have kt_c0:=kt.here.cell 0 _ rfl
  have kt_c1:=kt.here.cell 1 _ rfl
  go_wp2_with fail
  clear kt_c0 kt_c1
  refine (l10At_any _ t.2 q p _ (by omega) (HR.out _ bb1)).mono ?_
  rintro e w2 ⟨rfl,b2⟩
  have bb2:=Below.next bb1 b2
  replace kt:=kt.below b2
  clear hz h0
  generalize posE t.2 q p = y at *
  by_cases h1:0 ≤ y
  ·have HV:=Lib.hid (show legT t.2 p q = 3 by rw [HE2.out,if_pos h1])
   have hz:decide (0 ≤ y) = true:=decide_eq_true h1
   clear kt
   go_wp2
   go_ret
   exact ⟨ret_int HV.out.symm,bb2⟩
  ·have HV:=Lib.hid (show legT t.2 p q = 0 by rw [HE2.out,if_neg h1])
   have hz:decide (0 ≤ y) = false:=decide_eq_false h1
   clear kt
   go_wp2
   go_ret
   exact ⟨ret_int HV.out.symm,bb2⟩
set_option maxHeartbeats 4000000 in
theorem specRateHow_any (v:Value) (t:TI) (p q:ByteArray) (w:World) (hl:t.2.length ≤ 1099511627776) (hx:∀ x ∈ t.2,x.2.2.1.2.length ≤ 1048576) (h:OwnTR w v t) :
 Calls Tryz.prog 39 #[v,.string p,.string q] w (Postn (howT t p q) w):=by
 obtain ⟨A,c,rfl,hr⟩:=ownTR_form h
 have HR:=Lib.hid (show ∀ W,Below w.heap.size w W→OwnER W (.slice A t.2.length c) t.2 from fun W h=>hr.below h)
 have HTR:=Lib.hid (show ∀ W,Below w.heap.size w W→OwnTR W (.agg #[.string t.1,.slice A t.2.length c]) t from fun W h=>⟨_,rfl,hr.below h⟩)
 clear h hr
 have bb0:Below w.heap.size w (w.alloc (.cells #[.string t.1,.slice A t.2.length c] 25)):=below_al (Below.refl _ _) _
 have kt:=(box_new w #[.string t.1,.slice A t.2.length c] 25)
 go_enter Tryz.func39,Tryz.ntmps39
 have kt_c0:=kt.here.cell 0 _ rfl
 have kt_c1:=kt.here.cell 1 _ rfl
 go_wp2_with fail
 clear kt_c0 kt_c1
 refine (specRatesOk_any _ t _ hl hx (HTR.out _ bb0)).mono ?_
 rintro e w1 ⟨rfl,b1⟩
 have bb1:=Below.next bb0 b1
 replace kt:=kt.below b1
 clear hx
 by_cases ok0:okT t = true
 ·rw [ok0]
  have HOok0:=Lib.hid ok0
  clear ok0
  have kt_c0:=kt.here.cell 0 _ rfl
  have kt_c1:=kt.here.cell 1 _ rfl
  go_wp2_with fail
  clear kt_c0 kt_c1
  refine (specCurKnown_any p _).mono ?_
  rintro e w2 ⟨rfl,b2⟩
  have bb2:=Below.next bb1 b2
  replace kt:=kt.below b2
  by_cases ok1:knownC p = true
  ·rw [ok1]
   have HOok1:=Lib.hid ok1
   clear ok1
   have kt_c0:=kt.here.cell 0 _ rfl
   have kt_c1:=kt.here.cell 1 _ rfl
   go_wp2_with fail
   clear kt_c0 kt_c1
   refine (specCurKnown_any q _).mono ?_
   rintro e w3 ⟨rfl,b3⟩
   have bb3:=Below.next bb2 b3
   replace kt:=kt.below b3
   by_cases ok2:knownC q = true
   ·rw [ok2]
    have HOok2:=Lib.hid ok2
    clear ok2
    have HE:=Lib.hid (show howT t p q = if p = q then 1 else if legT t.2 p q ≠ 0 then legT t.2 p q else if ¬ p = t.1∧¬ q = t.1∧legT t.2 p t.1 ≠ 0∧legT t.2 t.1 q ≠ 0 then 4 else 0 by unfold howT;rw [if_pos ⟨HOok0.out,HOok1.out,HOok2.out⟩])
    clear HOok0 HOok1 HOok2
    by_cases ab:p = q
    ·have HV:=Lib.hid (show howT t p q = 1 by rw [HE.out,if_pos ab])
     have e1:(p.toList == q.toList) = true:=by rw [ab];exact beq_self_eq_true _
     clear ab kt
     go_wp2
     go_ret
     exact ⟨ret_int HV.out.symm,bb3⟩
    ·have HE2:=Lib.hid (show howT t p q = _ from HE.out.trans (if_neg ab))
     have e1:=bytes_neC ab
     clear ab HE
     have kt_c0:=kt.here.cell 0 _ rfl
     have kt_c1:=kt.here.cell 1 _ rfl
     go_wp2_with fail
     clear kt_c0 kt_c1
     refine (l10Leg_any _ t p q _ hl (HTR.out _ bb3)).mono ?_
     rintro e w4 ⟨rfl,b4⟩
     have bb4:=Below.next bb3 b4
     replace kt:=kt.below b4
     clear e1
     generalize legT t.2 p q = z at *
     by_cases hz:z = 0
     ·have HE3:=Lib.hid (show howT t p q = _ from HE2.out.trans (if_neg (fun h=>h hz)))
      subst hz
      clear HE2
      by_cases pa:p = t.1
      ·have HV:=Lib.hid (show howT t p q = 0 from HE3.out.trans (if_neg (fun h=>h.1 pa)))
       have e1:(p.toList == t.1.toList) = true:=by rw [pa];exact beq_self_eq_true _
       have e2:(p.toList != t.1.toList) = false:=by rw [bne,e1];rfl
       have kt_c0:=kt.here.cell 0 _ rfl
       have kt_c1:=kt.here.cell 1 _ rfl
       clear pa kt
       go_wp2
       go_ret
       exact ⟨ret_int HV.out.symm,bb4⟩
      ·have e1:=bytes_neC pa
       have e2:(p.toList != t.1.toList) = true:=by rw [bne,e1];rfl
       have PA:=Lib.hid pa
       clear pa
       by_cases qa:q = t.1
       ·have HV:=Lib.hid (show howT t p q = 0 from HE3.out.trans (if_neg (fun h=>h.2.1 qa)))
        have e3:(q.toList == t.1.toList) = true:=by rw [qa];exact beq_self_eq_true _
        have e4:(q.toList != t.1.toList) = false:=by rw [bne,e3];rfl
        have kt_c0:=kt.here.cell 0 _ rfl
        have kt_c1:=kt.here.cell 1 _ rfl
        clear qa kt
        go_wp2
        go_ret
        exact ⟨ret_int HV.out.symm,bb4⟩
       ·have e3:=bytes_neC qa
        have e4:(q.toList != t.1.toList) = true:=by rw [bne,e3];rfl
        have QA:=Lib.hid qa
        clear qa
        have kt_c0:=kt.here.cell 0 _ rfl
        have kt_c1:=kt.here.cell 1 _ rfl
        go_wp2_with fail
        clear kt_c0 kt_c1
        refine (l10Leg_any _ t p t.1 _ hl (HTR.out _ bb4)).mono ?_
        rintro e w5 ⟨rfl,b5⟩
        have bb5:=Below.next bb4 b5
        replace kt:=kt.below b5
        clear e1 e2 e3 e4
        generalize legT t.2 p t.1 = y at *
        by_cases hy:y = 0
        ·have HV:=Lib.hid (show howT t p q = 0 from HE3.out.trans (if_neg (fun h=>h.2.2.1 hy)))
         subst hy
         clear kt
         go_wp2
         go_ret
         exact ⟨ret_int HV.out.symm,bb5⟩
        ·have hy1:(y != 0) = true:=by simpa using hy
         have HY:=Lib.hid hy
         clear hy
         have kt_c0:=kt.here.cell 0 _ rfl
         have kt_c1:=kt.here.cell 1 _ rfl
         go_wp2_with fail
         clear kt_c0 kt_c1
         refine (l10Leg_any _ t t.1 q _ hl (HTR.out _ bb5)).mono ?_
         rintro e w6 ⟨rfl,b6⟩
         have bb6:=Below.next bb5 b6
         replace kt:=kt.below b6
         clear hy1
         generalize legT t.2 t.1 q = x at *
         by_cases hx:x = 0
         ·have HV:=Lib.hid (show howT t p q = 0 from HE3.out.trans (if_neg (fun h=>h.2.2.2 hx)))
          subst hx
          clear kt
          go_wp2
          go_ret
          exact ⟨ret_int HV.out.symm,bb6⟩
         ·have HV:=Lib.hid (show howT t p q = 4 from HE3.out.trans (if_pos ⟨PA.out,QA.out,HY.out,hx⟩))
          have hx1:(x != 0) = true:=by simpa using hx
          clear hx kt
          go_wp2
          go_ret
          exact ⟨ret_int HV.out.symm,bb6⟩
     ·have HV:=Lib.hid (show howT t p q = z from HE2.out.trans (if_pos hz))
      have hz1:(z != 0) = true:=by simpa using hz
      clear hz kt
      go_wp2
      go_ret
      exact ⟨ret_int HV.out.symm,bb4⟩
   ·have ok2':knownC q = false:=by simpa using ok2
    have HV:=Lib.hid (show howT t p q = 0 by unfold howT;rw [if_neg (fun h=>ok2 h.2.2)])
    rw [ok2']
    clear ok2 ok2' kt
    go_wp2
    go_ret
    exact ⟨ret_int HV.out.symm,bb3⟩
  ·have ok1':knownC p = false:=by simpa using ok1
   have HV:=Lib.hid (show howT t p q = 0 by unfold howT;rw [if_neg (fun h=>ok1 h.2.1)])
   rw [ok1']
   clear ok1 ok1' kt
   go_wp2
   go_ret
   exact ⟨ret_int HV.out.symm,bb2⟩
 ·have ok0':okT t = false:=by simpa using ok0
  have HV:=Lib.hid (show howT t p q = 0 by unfold howT;rw [if_neg (fun h=>ok0 h.1)])
  rw [ok0']
  clear ok0 ok0' kt
  go_wp2
  go_ret
  exact ⟨ret_int HV.out.symm,bb1⟩
set_option maxHeartbeats 4000000 in
theorem specRateOf_any (v:Value) (t:TI) (p q:ByteArray) (w:World) (hl:t.2.length ≤ 1099511627776) (hx:∀ x ∈ t.2,x.2.2.1.2.length ≤ 1048576) (h:OwnTR w v t)
 (HST:∀ (va:Value) (a b:ByteArray) (W:World),¬ legT t.2 a b = 0→OwnTR W va t→Calls Tryz.prog 191 #[va,.string a,.string b] W (NewV (fun u=>OwnQ u (stepT t.2 a b)) W)) :
 Calls Tryz.prog 114 #[v,.string p,.string q] w (PostQb (rateT t p q).1 (rateT t p q).2 w):=by
 have HS:=Lib.hid HST
 clear HST
 obtain ⟨A,c,rfl,hr⟩:=ownTR_form h
 have HR:=Lib.hid (show ∀ W,Below w.heap.size w W→OwnER W (.slice A t.2.length c) t.2 from fun W h=>hr.below h)
 have HTR:=Lib.hid (show ∀ W,Below w.heap.size w W→OwnTR W (.agg #[.string t.1,.slice A t.2.length c]) t from fun W h=>⟨_,rfl,hr.below h⟩)
 clear h hr
 have bb0:Below w.heap.size w ((w.alloc (.cells #[.string t.1,.slice A t.2.length c] 25)).alloc (.cells #[.bool false,.slice none 0 0,.slice none 0 0] 36)):=below_al (below_al (Below.refl _ _) _) _
 have kt:=(box_new w #[.string t.1,.slice A t.2.length c] 25).below (below_al (Below.refl _ _) (.cells #[.bool false,.slice none 0 0,.slice none 0 0] 36))
 have ko:=(box_new (w.alloc (.cells #[.string t.1,.slice A t.2.length c] 25)) #[.bool false,.slice none 0 0,.slice none 0 0] 36)
 rw [show (w.alloc (.cells #[.string t.1,.slice A t.2.length c] 25)).heap.size = w.heap.size+1 by simp] at ko
 go_enter Tryz.func114,Tryz.ntmps114
 have kt_c0:=kt.here.cell 0 _ rfl
 have kt_c1:=kt.here.cell 1 _ rfl
 go_wp2_with fail
 clear kt_c0 kt_c1
 refine (specRateHow_any _ t p q _ hl hx (HTR.out _ bb0)).mono ?_
 rintro e w1 ⟨rfl,b1⟩
 have bb1:=Below.next bb0 b1
 replace kt:=kt.below b1
 replace ko:=ko.below b1
 have HE:=Lib.hid (show rateT t p q = (if howT t p q = 1 then unitQ else if howT t p q = 2 ∨ howT t p q = 3 then (stepT t.2 p q,true) else if howT t p q = 4 then mulQ (stepT t.2 p t.1) (stepT t.2 t.1 q) else (zeroQ,false)) from rfl)
 have HLE:=Lib.hid (howT_leg t p q)
 have HPI:=Lib.hid (howT_piv t p q)
 clear hx
 generalize howT t p q = z at *
 by_cases z1:z = 1
 ·subst z1
  have HV:=Lib.hid (show rateT t p q = unitQ from HE.out)
  clear HE kt
  go_wp2_with fail
  refine ((specIntOf_any 1 _ (by decide) (by decide)).mono fun _ _ h=>NewS.newV h).mono ?_
  rintro e w2 ⟨ui,Si,rfl,oi,li,b2⟩
  have bb2:=Below.next bb1 b2
  replace ko:=ko.below b2
  obtain ⟨Ai,ci,rfl⟩:=ownS_form oi.here
  go_wp2_with fail
  refine (specRatInt_any _ (ofZ 1) _ one_szR oi.here).mono ?_
  rintro e w3 ⟨uf,Sf,rfl,of,lf,b3⟩
  have bb3:=Below.next bb2 b3
  replace ko:=ko.below b3
  replace oi:=oi.below b3
  obtain ⟨Af,cf,Bf,df,rfl⟩:=ownQ_form of.here
  have HW:=Lib.hid (newQb_at (r:=w.heap.size+1) (b:=(makeQ (ofZ 1) (ofZ 1)).2) of lf (by have:=b2.size;have:=b2.size;have:=(show w.heap.size+2 ≤ w1.heap.size by have:=ko.lt (w.heap.size+1) (by simp);have:=b1.size;simp at this;omega);omega) (by omega) bb3)
  have cz0:=ko.here.cell 0 _ rfl
  have fz0:=Lib.frozen_of_heap ko.here 0
  have cz1:=ko.here.cell 1 _ rfl
  have fz1:=Lib.frozen_of_heap ko.here 1
  have cz2:=ko.here.cell 2 _ rfl
  have fz2:=Lib.frozen_of_heap ko.here 2
  clear of ko oi
  go_wp2
  refine bodyPost_ret (v:=.tuple #[.agg #[.bool _,.slice Af _ cf,.slice Bf _ df],.bool _]) (by simp [results,Tryz.results114,go_sem,cz0,cz1,cz2];exact ⟨⟨rfl,rfl,rfl⟩,rfl⟩) rfl ?_
  rw [HV.out]
  exact HW.out
 have y1:(z == (1:Int)) = false:=by simpa using z1
 by_cases z2:z = 2
 ·subst z2
  have HV:=Lib.hid (show rateT t p q = (stepT t.2 p q,true) from HE.out)
  have HG:=Lib.hid (HLE.out (.inl rfl))
  clear HE HLE HPI
  have kt_c0:=kt.here.cell 0 _ rfl
  have kt_c1:=kt.here.cell 1 _ rfl
  go_wp2_with fail
  clear kt_c0 kt_c1
  refine (HS.out _ p q _ HG.out (HTR.out _ bb1)).mono ?_
  rintro e w2 ⟨uf,Sf,rfl,of,lf,b2⟩
  have bb2:=Below.next bb1 b2
  replace kt:=kt.below b2
  replace ko:=ko.below b2
  obtain ⟨Af,cf,Bf,df,rfl⟩:=ownQ_form of.here
  have HW:=Lib.hid (newQb_at (r:=w.heap.size+1) (b:=true) of lf (by have:=(show w.heap.size+2 ≤ w1.heap.size by have:=b1.size;simp at this;omega);omega) (by omega) bb2)
  have cz0:=ko.here.cell 0 _ rfl
  have fz0:=Lib.frozen_of_heap ko.here 0
  have cz1:=ko.here.cell 1 _ rfl
  have fz1:=Lib.frozen_of_heap ko.here 1
  have cz2:=ko.here.cell 2 _ rfl
  have fz2:=Lib.frozen_of_heap ko.here 2
  clear of ko kt
  go_wp2
  refine bodyPost_ret (v:=.tuple #[.agg #[.bool _,.slice Af _ cf,.slice Bf _ df],.bool true]) (by simp [results,Tryz.results114,go_sem,cz0,cz1,cz2];try exact ⟨rfl,rfl,rfl⟩) rfl ?_
  rw [HV.out]
  exact HW.out
 have y2:(z == (2:Int)) = false:=by simpa using z2
 by_cases z3:z = 3
 ·subst z3
  have HV:=Lib.hid (show rateT t p q = (stepT t.2 p q,true) from HE.out)
  have HG:=Lib.hid (HLE.out (.inr rfl))
  clear HE HLE HPI
  have kt_c0:=kt.here.cell 0 _ rfl
  have kt_c1:=kt.here.cell 1 _ rfl
  go_wp2_with fail
  clear kt_c0 kt_c1
  refine (HS.out _ p q _ HG.out (HTR.out _ bb1)).mono ?_
  rintro e w2 ⟨uf,Sf,rfl,of,lf,b2⟩
  have bb2:=Below.next bb1 b2
  replace kt:=kt.below b2
  replace ko:=ko.below b2
  obtain ⟨Af,cf,Bf,df,rfl⟩:=ownQ_form of.here
  have HW:=Lib.hid (newQb_at (r:=w.heap.size+1) (b:=true) of lf (by have:=(show w.heap.size+2 ≤ w1.heap.size by have:=b1.size;simp at this;omega);omega) (by omega) bb2)
  have cz0:=ko.here.cell 0 _ rfl
  have fz0:=Lib.frozen_of_heap ko.here 0
  have cz1:=ko.here.cell 1 _ rfl
  have fz1:=Lib.frozen_of_heap ko.here 1
  have cz2:=ko.here.cell 2 _ rfl
  have fz2:=Lib.frozen_of_heap ko.here 2
  clear of ko kt
  go_wp2
  refine bodyPost_ret (v:=.tuple #[.agg #[.bool _,.slice Af _ cf,.slice Bf _ df],.bool true]) (by simp [results,Tryz.results114,go_sem,cz0,cz1,cz2];try exact ⟨rfl,rfl,rfl⟩) rfl ?_
  rw [HV.out]
  exact HW.out
 have y3:(z == (3:Int)) = false:=by simpa using z3
 by_cases z4:z = 4
 ·subst z4
  have HV:=Lib.hid (show rateT t p q = mulQ (stepT t.2 p t.1) (stepT t.2 t.1 q) from HE.out)
  have HG:=Lib.hid (HPI.out rfl)
  clear HE HLE HPI
  have HQ1:=Lib.hid (stepT_sz t.2 p t.1)
  have HQ2:=Lib.hid (stepT_sz t.2 t.1 q)
  have HK:=Lib.hid (show w.heap.size+2 ≤ w1.heap.size by have:=b1.size;simp at this;omega)
  clear z1 z2 z3 y1 y2 y3
  have kt_c0:=kt.here.cell 0 _ rfl
  have kt_c1:=kt.here.cell 1 _ rfl
  go_wp2_with fail
  have HC0:=Lib.hid (show Chg [w.heap.size+1] w1 w1.drew from (Chg.refl _ _).drew1)
  have HCr:=Lib.hid (show Chg [w.heap.size+1] w1 w1 from Chg.refl _ _)
  have KL:=Lib.hid (show ∀ W,Chg [w.heap.size+1] w1 W→W.cell? ⟨w.heap.size,0,none⟩ = some (.string t.1)∧W.cell? ⟨w.heap.size,1,none⟩ = some (.slice A t.2.length c)∧Hid (Chg [w.heap.size+1] w1 W) from fun W hc=>⟨(kt.chg hc (fun i hi hm=>by simp at hi hm;omega)).here.cell 0 _ rfl,(kt.chg hc (fun i hi hm=>by simp at hi hm;omega)).here.cell 1 _ rfl,Lib.hid hc⟩)
  have BBF:=Lib.hid (show ∀ W,Chg [w.heap.size+1] w1 W→Below w.heap.size w W from fun W hc=>below_chg bb1 hc bb1.size (fun i hi=>by simp at hi;omega))
  clear kt_c0 kt_c1
  go_region_held3 (fun W=>W.cell? ⟨w.heap.size,0,none⟩ = some (.string t.1)∧W.cell? ⟨w.heap.size,1,none⟩ = some (.slice A t.2.length c)∧Hid (Chg [w.heap.size+1] w1 W))
   ((refine KL.out _ ?_;(first | exact HC4.out | exact HC3.out | exact HC2.out | exact HCr.out | exact HC0.out | exact HC4.out.drew1 | exact HC3.out.drew1 | exact HC2.out.drew1 | exact HCr.out.drew1 | exact HC0.out.drew1 | exact HC4.out.trans (Chg.of_below (below_al (Below.refl _ _) _)) | exact HC3.out.trans (Chg.of_below (below_al (Below.refl _ _) _)) | exact HC2.out.trans (Chg.of_below (below_al (Below.refl _ _) _)) | exact HCr.out.trans (Chg.of_below (below_al (Below.refl _ _) _)) | exact HC0.out.trans (Chg.of_below (below_al (Below.refl _ _) _)) | exact (Chg.setCell HC4.out (by simp) _) | exact (Chg.setCell (Chg.setCell HC4.out (by simp) _) (by simp) _) | exact (Chg.setCell (Chg.setCell (Chg.setCell HC4.out (by simp) _) (by simp) _) (by simp) _) | fail)))
   (first
     | (go_at_call 191;(have hBB:=(‹_∧_∧Hid (Chg [w.heap.size+1] w1 _)›).2.2);(with_reducible refine (HS.out _ p t.1 _ HG.out.1 (HTR.out _ (BBF.out _ hBB.out))).mono ?_);rintro e w2 ⟨ux,Sx,rfl,ox,lx,b2⟩;have HC2:=Lib.hid (hBB.out.trans (Chg.of_below b2));(have ko_2:=At.below (by first | exact ko | exact At.below ko (below_al (Below.refl _ _) _) | exact At.below (At.below ko (below_al (Below.refl _ _) _)) (below_al (Below.refl _ _) _) | exact At.move ko (fun _ _=>rfl) (Nat.le_refl _)) b2);obtain ⟨Ax,cx,Bx,dx,rfl⟩:=ownQ_form ox.here;have HBZ2:=Lib.hid hBB.out.size;clear hBB)
     | (go_at_call 191;(have hBB:=(‹_∧_∧Hid (Chg [w.heap.size+1] w1 _)›).2.2);(with_reducible refine (HS.out _ t.1 q _ HG.out.2 (HTR.out _ (BBF.out _ hBB.out))).mono ?_);rintro e w3 ⟨uy,Sy,rfl,oy,ly,b3⟩;have HC3:=Lib.hid (hBB.out.trans (Chg.of_below b3));(have ko_3:=At.below (by first | exact ko_2 | exact At.below ko_2 (below_al (Below.refl _ _) _) | exact At.below (At.below ko_2 (below_al (Below.refl _ _) _)) (below_al (Below.refl _ _) _) | exact At.move ko_2 (fun _ _=>rfl) (Nat.le_refl _)) b3);(have ox_3:=At.below (by first | exact ox | exact At.below ox (below_al (Below.refl _ _) _) | exact At.below (At.below ox (below_al (Below.refl _ _) _)) (below_al (Below.refl _ _) _) | exact At.move ox (fun _ _=>rfl) (Nat.le_refl _)) b3);obtain ⟨Ay,cy,By,dy,rfl⟩:=ownQ_form oy.here;have HBZ3:=Lib.hid hBB.out.size;clear hBB)
     | (go_at_call 117;(have hBB:=(‹_∧_∧Hid (Chg [w.heap.size+1] w1 _)›).2.2);(with_reducible refine (specRatMul_any _ _ (stepT t.2 p t.1) (stepT t.2 t.1 q) _ HQ1.out HQ2.out (At.here (by first | exact ox_3 | exact At.below ox_3 (below_al (Below.refl _ _) _) | exact At.below (At.below ox_3 (below_al (Below.refl _ _) _)) (below_al (Below.refl _ _) _) | exact At.move ox_3 (fun _ _=>rfl) (Nat.le_refl _))) (At.here (by first | exact oy | exact At.below oy (below_al (Below.refl _ _) _) | exact At.below (At.below oy (below_al (Below.refl _ _) _)) (below_al (Below.refl _ _) _) | exact At.move oy (fun _ _=>rfl) (Nat.le_refl _)))).mono ?_);rintro e w4 ⟨uf,Sf,rfl,of,lf,b4⟩;have HC4:=Lib.hid (hBB.out.trans (Chg.of_below b4));(have ko_4:=At.below (by first | exact ko_3 | exact At.below ko_3 (below_al (Below.refl _ _) _) | exact At.below (At.below ko_3 (below_al (Below.refl _ _) _)) (below_al (Below.refl _ _) _) | exact At.move ko_3 (fun _ _=>rfl) (Nat.le_refl _)) b4);(have ox_4:=At.below (by first | exact ox_3 | exact At.below ox_3 (below_al (Below.refl _ _) _) | exact At.below (At.below ox_3 (below_al (Below.refl _ _) _)) (below_al (Below.refl _ _) _) | exact At.move ox_3 (fun _ _=>rfl) (Nat.le_refl _)) b4);(have oy_4:=At.below (by first | exact oy | exact At.below oy (below_al (Below.refl _ _) _) | exact At.below (At.below oy (below_al (Below.refl _ _) _)) (below_al (Below.refl _ _) _) | exact At.move oy (fun _ _=>rfl) (Nat.le_refl _)) b4);obtain ⟨Af,cf,Bf,df,rfl⟩:=ownQ_form of.here;have cz0:=ko_4.here.cell 0 _ rfl;have fz0:=Lib.frozen_of_heap ko_4.here 0;have cz1:=ko_4.here.cell 1 _ rfl;have fz1:=Lib.frozen_of_heap ko_4.here 1;have cz2:=ko_4.here.cell 2 _ rfl;have fz2:=Lib.frozen_of_heap ko_4.here 2;have HBZ4:=Lib.hid hBB.out.size;clear hBB))
  all_goals
   have bb4:=BBF.out _ HC4.out
   replace kt:=kt.chg HC4.out (fun i hi hm=>by simp at hi hm;omega)
   replace ko:=ko_4
   have ox:=ox_4
   have oy:=oy_4
   have HW:=Lib.hid (newQb_at (r:=w.heap.size+1) (b:=(mulQ (stepT t.2 p t.1) (stepT t.2 t.1 q)).2) of lf (by have:=HBZ4.out;have:=HK.out;omega) (by omega) bb4)
   clear of ko kt ox oy
   go_wp2
   refine bodyPost_ret (v:=.tuple #[.agg #[.bool _,.slice Af _ cf,.slice Bf _ df],.bool _]) (by simp [results,Tryz.results114,go_sem,cz0,cz1,cz2];exact ⟨⟨rfl,rfl,rfl⟩,rfl⟩) rfl ?_
   rw [HV.out]
   exact HW.out
 have y4:(z == (4:Int)) = false:=by simpa using z4
 have HV:=Lib.hid (show rateT t p q = (zeroQ,false) by rw [HE.out,if_neg z1,if_neg (by omega),if_neg z4])
 clear HE kt z1 z2 z3 z4
 have cz0:=ko.here.cell 0 _ rfl
 have fz0:=Lib.frozen_of_heap ko.here 0
 have cz1:=ko.here.cell 1 _ rfl
 have fz1:=Lib.frozen_of_heap ko.here 1
 have cz2:=ko.here.cell 2 _ rfl
 have fz2:=Lib.frozen_of_heap ko.here 2
 clear ko
 go_wp2
 refine bodyPost_ret (v:=.tuple #[.agg #[.bool false,.slice none 0 0,.slice none 0 0],.bool false]) (by simp [results,Tryz.results114,go_sem,cz0,cz1,cz2]) rfl ?_
 rw [HV.out]
 first | exact newQb_zero _ bb1 | exact newQb_zero _ (below_set3 bb1 (by omega))
theorem specRateOf_all (v:Value) (t:TI) (p q:ByteArray) (w:World) (hl:t.2.length ≤ 1099511627776) (hx:∀ x ∈ t.2,x.2.2.1.2.length ≤ 1048576) (h:OwnTR w v t) :
 Calls Tryz.prog 114 #[v,.string p,.string q] w (PostQb (rateT t p q).1 (rateT t p q).2 w) :=
 specRateOf_any v t p q w hl hx h fun va a b W hg ho=>l10Step_any va t a b W hl hx hg ho
set_option maxHeartbeats 4000000 in
theorem specUnitRate_any (v:Value) (t:TI) (p q:ByteArray) (w:World) (hl:t.2.length ≤ 1099511627776) (hx:∀ x ∈ t.2,x.2.2.1.2.length ≤ 1048576) (h:OwnTR w v t) :
 Calls Tryz.prog 47 #[v,.string p,.string q] w (PostQb (unitR t p q).1 (unitR t p q).2 w):=by
 obtain ⟨A,c,rfl,hr⟩:=ownTR_form h
 have HR:=Lib.hid (show ∀ W,Below w.heap.size w W→OwnER W (.slice A t.2.length c) t.2 from fun W h=>hr.below h)
 have HTR:=Lib.hid (show ∀ W,Below w.heap.size w W→OwnTR W (.agg #[.string t.1,.slice A t.2.length c]) t from fun W h=>⟨_,rfl,hr.below h⟩)
 clear h hr
 have bb0:Below w.heap.size w ((w.alloc (.cells #[.string t.1,.slice A t.2.length c] 25)).alloc (.cells #[.bool false,.slice none 0 0,.slice none 0 0] 36)):=below_al (below_al (Below.refl _ _) _) _
 have kt:=(box_new w #[.string t.1,.slice A t.2.length c] 25).below (below_al (Below.refl _ _) (.cells #[.bool false,.slice none 0 0,.slice none 0 0] 36))
 have ko:=(box_new (w.alloc (.cells #[.string t.1,.slice A t.2.length c] 25)) #[.bool false,.slice none 0 0,.slice none 0 0] 36)
 rw [show (w.alloc (.cells #[.string t.1,.slice A t.2.length c] 25)).heap.size = w.heap.size+1 by simp] at ko
 obtain ⟨⟨X,x⟩,hHX⟩:∃ r,rateT t p q = r:=⟨_,rfl⟩
 have HX:=Lib.hid hHX
 obtain ⟨⟨Y,y⟩,hHY⟩:∃ r,divQ (unitC q) (unitC p) = r:=⟨_,rfl⟩
 have HY:=Lib.hid hHY
 obtain ⟨⟨R,r⟩,hHR2⟩:∃ r,unitR t p q = r:=⟨_,rfl⟩
 have HR2:=Lib.hid hHR2
 have hsX:szQ X ≤ 1048576:=by have:=rateT_szC t p q;rw [hHX] at this;exact this
 have hsY:szQ Y ≤ 1048576:=by have:=divQ_szC (unitC q) (unitC p);rw [hHY] at this;exact this
 have EV:=Lib.hid (show mulQ X Y = (R,r) by rw [← hHR2,← unit_impl];unfold facU;rw [hHX,hHY])
 have EN:=Lib.hid (show x = false→(R,r) = (zeroQ,false) from fun h=>by rw [← hHR2];unfold unitR;rw [hHX,if_neg (fun hh=>by have h2:x = true:=hh;rw [h] at h2;cases h2)])
 rw [hHR2]
 clear hHX hHY hHR2
 go_enter Tryz.func47,Tryz.ntmps47
 have kt_c0:=kt.here.cell 0 _ rfl
 have kt_c1:=kt.here.cell 1 _ rfl
 go_wp2_with fail
 clear kt_c0 kt_c1
 refine ((specRateOf_all _ t p q _ hl hx (HTR.out _ bb0)).mono fun _ _ h=>postQb_isC HX.out h).mono ?_
 rintro e w1 ⟨u1,S1,rfl,o1,l1,b1⟩
 obtain ⟨A1,c1,B1,d1,rfl⟩:=ownQ_form o1.here
 have hz1:w.heap.size+2 ≤ w1.heap.size:=by have:=b1.size;(try simp at this);omega
 have bb1:=Below.next bb0 b1
 replace kt:=kt.below b1
 replace ko:=ko.below b1
 have kx:=box_new (w1) #[.bool X.1.1,.slice A1 X.1.2.length c1,.slice B1 X.2.length d1] 36
 have alx:=below_al (Below.refl (w1).heap.size (w1)) (.cells #[.bool X.1.1,.slice A1 X.1.2.length c1,.slice B1 X.2.length d1] 36)
 have bbx:=Below.next bb1 alx
 replace kt:=kt.below alx
 replace ko:=ko.below alx
 replace o1:=o1.below alx
 clear kt
 cases x with
 | false =>
   obtain ⟨rfl,rfl⟩:R = zeroQ∧r = false:=by have h:=EN.out rfl;injection h with h1 h2;exact ⟨h1,h2⟩
   have HW:=Lib.hid (newQb_zeroC (T:=[w.heap.size+1]) (fun i hi=>by simp at hi;omega) bbx)
   have cz0:=ko.here.cell 0 _ rfl
   have fz0:=Lib.frozen_of_heap ko.here 0
   have cz1:=ko.here.cell 1 _ rfl
   have fz1:=Lib.frozen_of_heap ko.here 1
   have cz2:=ko.here.cell 2 _ rfl
   have fz2:=Lib.frozen_of_heap ko.here 2
   clear ko o1 l1 kx
   go_wp2
   refine bodyPost_ret (v:=.tuple #[.agg #[.bool false,.slice none 0 0,.slice none 0 0],.bool false]) (by simp [results,Tryz.results47,go_sem,cz0,cz1,cz2]) rfl ?_
   refine HW.out _ ?_
   repeat (first | with_reducible exact Chg.refl _ _ | with_reducible refine Chg.setCell ?_ (by simp) _ | with_reducible refine Chg.drew1 ?_ | with_reducible refine Chg.trans ?_ (Chg.of_below (below_al (Below.refl _ _) _)))
 | true =>
   go_wp2_with fail
   refine (specCurUnit_any q _).mono ?_
   rintro e w2 ⟨u2,S2,rfl,o2,l2,b2⟩
   obtain ⟨A2,c2,B2,d2,rfl⟩:=ownQ_form o2.here
   have hz2:w.heap.size+2 ≤ w2.heap.size:=by have:=b2.size;(try simp at this);omega
   have bb2:=Below.next bbx b2
   replace ko:=ko.below b2
   replace o1:=o1.below b2
   replace kx:=kx.below b2
   go_wp2_with fail
   refine (specCurUnit_any p _).mono ?_
   rintro e w3 ⟨u3,S3,rfl,o3,l3,b3⟩
   obtain ⟨A3,c3,B3,d3,rfl⟩:=ownQ_form o3.here
   have hz3:w.heap.size+2 ≤ w3.heap.size:=by have:=b3.size;(try simp at this);omega
   have bb3:=Below.next bb2 b3
   replace ko:=ko.below b3
   replace o1:=o1.below b3
   replace kx:=kx.below b3
   replace o2:=o2.below b3
   go_wp2_with fail
   refine ((specRatDiv_any _ _ (unitC q) (unitC p) _ (unitC_szC q) (unitC_szC p) o2.here o3.here).mono fun _ _ h=>postQb_isC HY.out h).mono ?_
   rintro e w4 ⟨u4,S4,rfl,o4,l4,b4⟩
   obtain ⟨A4,c4,B4,d4,rfl⟩:=ownQ_form o4.here
   have hz4:w.heap.size+2 ≤ w4.heap.size:=by have:=b4.size;(try simp at this);omega
   have bb4:=Below.next bb3 b4
   replace ko:=ko.below b4
   replace o1:=o1.below b4
   replace kx:=kx.below b4
   replace o2:=o2.below b4
   replace o3:=o3.below b4
   clear o2 o3
   have ky:=box_new (w4) #[.bool Y.1.1,.slice A4 Y.1.2.length c4,.slice B4 Y.2.length d4] 36
   have aly:=below_al (Below.refl (w4).heap.size (w4)) (.cells #[.bool Y.1.1,.slice A4 Y.1.2.length c4,.slice B4 Y.2.length d4] 36)
   have bby:=Below.next bb4 aly
   replace ko:=ko.below aly
   replace o1:=o1.below aly
   replace kx:=kx.below aly
   replace o4:=o4.below aly
   have kx_c0:=kx.here.cell 0 _ rfl
   have kx_c1:=kx.here.cell 1 _ rfl
   have kx_c2:=kx.here.cell 2 _ rfl
   have ky_c0:=ky.here.cell 0 _ rfl
   have ky_c1:=ky.here.cell 1 _ rfl
   have ky_c2:=ky.here.cell 2 _ rfl
   go_wp2_with fail
   clear kx_c0 kx_c1 kx_c2 ky_c0 ky_c1 ky_c2
   refine ((specRatMul_any _ _ X Y _ hsX hsY o1.here o4.here).mono fun _ _ h=>postQb_isC EV.out h).mono ?_
   rintro e w5 ⟨u5,S5,rfl,o5,l5,b5⟩
   obtain ⟨A5,c5,B5,d5,rfl⟩:=ownQ_form o5.here
   have hz5:w.heap.size+2 ≤ w5.heap.size:=by have:=b5.size;(try simp at this);omega
   have bb5:=Below.next bby b5
   replace ko:=ko.below b5
   replace o1:=o1.below b5
   replace kx:=kx.below b5
   replace o4:=o4.below b5
   replace ky:=ky.below b5
   have hlow:∀ i ∈ S5,w.heap.size+1 < i:=fun i hi=>by have:=(l5 i hi).1;(try simp at this);omega
   have HW:=Lib.hid (newQb_chgC (R0:=R) (R1:=r) (v:=.agg #[.bool R.1.1,.slice A5 R.1.2.length c5,.slice B5 R.2.length d5]) (T:=[w.heap.size+1]) o5 (fun i hi hm=>by have:=hlow i hi;simp at hm;omega) (fun i hi=>by simp at hi;omega) (fun i hi=>by have:=hlow i hi;omega) bb5)
   have cz0:=ko.here.cell 0 _ rfl
   have fz0:=Lib.frozen_of_heap ko.here 0
   have cz1:=ko.here.cell 1 _ rfl
   have fz1:=Lib.frozen_of_heap ko.here 1
   have cz2:=ko.here.cell 2 _ rfl
   have fz2:=Lib.frozen_of_heap ko.here 2
   clear ko o1 o4 o5 l1 l2 l3 l4 l5 kx ky hlow
   go_wp2
   refine bodyPost_ret (v:=.tuple #[.agg #[.bool R.1.1,.slice A5 R.1.2.length c5,.slice B5 R.2.length d5],.bool r]) (by simp [results,Tryz.results47,go_sem,cz0,cz1,cz2]) rfl ?_
   refine HW.out _ ?_
   repeat (first | with_reducible exact Chg.refl _ _ | with_reducible refine Chg.setCell ?_ (by simp) _ | with_reducible refine Chg.drew1 ?_ | with_reducible refine Chg.trans ?_ (Chg.of_below (below_al (Below.refl _ _) _)))
set_option maxHeartbeats 4000000 in
theorem specExact_any (v vm:Value) (t:TI) (m:MI) (q:ByteArray) (w:World) (hl:t.2.length ≤ 1099511627776) (hx:∀ x ∈ t.2,x.2.2.1.2.length ≤ 1048576) (hzm:szS m.2 ≤ 1048576) (h:OwnTR w v t) (hm:OwnM vm m w) :
 Calls Tryz.prog 55 #[v,vm,.string q] w (PostQb (exactR t m q).1 (exactR t m q).2 w):=by
 obtain ⟨A,c,rfl,hr⟩:=ownTR_form h
 have HR:=Lib.hid (show ∀ W,Below w.heap.size w W→OwnER W (.slice A t.2.length c) t.2 from fun W h=>hr.below h)
 have HTR:=Lib.hid (show ∀ W,Below w.heap.size w W→OwnTR W (.agg #[.string t.1,.slice A t.2.length c]) t from fun W h=>⟨_,rfl,hr.below h⟩)
 clear h hr
 have Hm:=Lib.hid hm
 obtain ⟨Am,cm,rfl⟩:=ownM_form hm
 have OMm:=Lib.hid (show ∀ W,Below w.heap.size w W→OwnM (.agg #[.string m.1,.bool m.2.1,.slice Am m.2.2.length cm]) m W from fun W hb=>OwnM.below Hm.out hb)
 have OIm:=Lib.hid (show ∀ W,Below w.heap.size w W→OwnI (.slice Am m.2.2.length cm) m.2.2 W from fun W hb=>ownM_open (OMm.out W hb))
 have OSm:=Lib.hid (show ∀ W,Below w.heap.size w W→OwnS (.agg #[.bool m.2.1,.slice Am m.2.2.length cm]) m.2 W from fun W hb=>OwnS.mk (OIm.out W hb))
 clear hm
 have bb0:Below w.heap.size w (((w.alloc (.cells #[.string t.1,.slice A t.2.length c] 25)).alloc (.cells #[.string m.1,.bool m.2.1,.slice Am m.2.2.length cm] 32)).alloc (.cells #[.bool false,.slice none 0 0,.slice none 0 0] 36)):=below_al (below_al (below_al (Below.refl _ _) _) _) _
 have kt:=(box_new w #[.string t.1,.slice A t.2.length c] 25).below (below_al (below_al (Below.refl _ _) (.cells #[.string m.1,.bool m.2.1,.slice Am m.2.2.length cm] 32)) (.cells #[.bool false,.slice none 0 0,.slice none 0 0] 36))
 have km:=(box_new (w.alloc (.cells #[.string t.1,.slice A t.2.length c] 25)) #[.string m.1,.bool m.2.1,.slice Am m.2.2.length cm] 32).below (below_al (Below.refl _ _) (.cells #[.bool false,.slice none 0 0,.slice none 0 0] 36))
 rw [show (w.alloc (.cells #[.string t.1,.slice A t.2.length c] 25)).heap.size = w.heap.size+1 by simp] at km
 have ko:=(box_new ((w.alloc (.cells #[.string t.1,.slice A t.2.length c] 25)).alloc (.cells #[.string m.1,.bool m.2.1,.slice Am m.2.2.length cm] 32)) #[.bool false,.slice none 0 0,.slice none 0 0] 36)
 rw [show ((w.alloc (.cells #[.string t.1,.slice A t.2.length c] 25)).alloc (.cells #[.string m.1,.bool m.2.1,.slice Am m.2.2.length cm] 32)).heap.size = w.heap.size+1+1 by simp] at ko
 have hlm:m.2.2.length ≤ 1048576:=by unfold szS szI at hzm;omega
 obtain ⟨⟨X,x⟩,hHX⟩:∃ r,unitR t m.1 q = r:=⟨_,rfl⟩
 have HX:=Lib.hid hHX
 obtain ⟨⟨Y,y⟩,hHY⟩:∃ r,exactR t m q = r:=⟨_,rfl⟩
 have HY:=Lib.hid hHY
 have hsX:szQ X ≤ 1048576:=by have:=unitR_sz t m.1 q;rw [hHX] at this;exact this
 have hsM:=ratM_szC m
 have EV:=Lib.hid (show mulQ (ratM m) X = (Y,y) by rw [← hHY,← exact_impl,hHX])
 have EN:=Lib.hid (show x = false→(Y,y) = (zeroQ,false) from fun h=>by rw [← hHY];unfold exactR;rw [if_neg (fun hh=>by have:=hh.1;rw [hHX,h] at this;cases this)])
 have EM:=Lib.hid (show okM m = false→(Y,y) = (zeroQ,false) from fun h=>by rw [← hHY];unfold exactR;rw [if_neg (fun hh=>by have:=hh.2;rw [h] at this;cases this)])
 rw [hHY]
 clear hHX hHY
 go_enter Tryz.func55,Tryz.ntmps55
 have kt_c0:=kt.here.cell 0 _ rfl
 have kt_c1:=kt.here.cell 1 _ rfl
 have km_c0:=km.here.cell 0 _ rfl
 have km_c1:=km.here.cell 1 _ rfl
 have km_c2:=km.here.cell 2 _ rfl
 go_wp2_with fail
 clear kt_c0 kt_c1 km_c0 km_c1 km_c2
 refine ((specUnitRate_any _ t m.1 q _ hl hx (HTR.out _ bb0)).mono fun _ _ h=>postQb_isC HX.out h).mono ?_
 rintro e w1 ⟨u1,S1,rfl,o1,l1,b1⟩
 obtain ⟨A1,c1,B1,d1,rfl⟩:=ownQ_form o1.here
 have hz1:w.heap.size+3 ≤ w1.heap.size:=by have:=b1.size;(try simp at this);omega
 have bb1:=Below.next bb0 b1
 replace kt:=kt.below b1
 replace km:=km.below b1
 replace ko:=ko.below b1
 have kx:=box_new (w1) #[.bool X.1.1,.slice A1 X.1.2.length c1,.slice B1 X.2.length d1] 36
 have alx:=below_al (Below.refl (w1).heap.size (w1)) (.cells #[.bool X.1.1,.slice A1 X.1.2.length c1,.slice B1 X.2.length d1] 36)
 have bbx:=Below.next bb1 alx
 replace kt:=kt.below alx
 replace km:=km.below alx
 replace ko:=ko.below alx
 replace o1:=o1.below alx
 clear kt
 cases x with
 | false =>
   obtain ⟨rfl,rfl⟩:Y = zeroQ∧y = false:=by have h:=EN.out rfl;injection h with h1 h2;exact ⟨h1,h2⟩
   have HW:=Lib.hid (newQb_zeroC (T:=[w.heap.size+1+1]) (fun i hi=>by simp at hi;omega) bbx)
   have cz0:=ko.here.cell 0 _ rfl
   have fz0:=Lib.frozen_of_heap ko.here 0
   have cz1:=ko.here.cell 1 _ rfl
   have fz1:=Lib.frozen_of_heap ko.here 1
   have cz2:=ko.here.cell 2 _ rfl
   have fz2:=Lib.frozen_of_heap ko.here 2
   clear ko o1 l1 kx km
   go_wp2
   refine bodyPost_ret (v:=.tuple #[.agg #[.bool false,.slice none 0 0,.slice none 0 0],.bool false]) (by simp [results,Tryz.results55,go_sem,cz0,cz1,cz2]) rfl ?_
   refine HW.out _ ?_
   repeat (first | with_reducible exact Chg.refl _ _ | with_reducible refine Chg.setCell ?_ (by simp) _ | with_reducible refine Chg.drew1 ?_ | with_reducible refine Chg.trans ?_ (Chg.of_below (below_al (Below.refl _ _) _)))
 | true =>
   have km_c0:=km.here.cell 0 _ rfl
   have km_c1:=km.here.cell 1 _ rfl
   have km_c2:=km.here.cell 2 _ rfl
   go_wp2_with fail
   clear km_c0 km_c1 km_c2
   refine (specMoneyOk_any _ m _ hlm (OMm.out _ bbx)).mono ?_
   rintro e w2 ⟨rfl,b2⟩
   have hz2:w.heap.size+3 ≤ w2.heap.size:=by have:=b2.size;(try simp at this);omega
   have bb2:=Below.next bbx b2
   replace km:=km.below b2
   replace ko:=ko.below b2
   replace o1:=o1.below b2
   replace kx:=kx.below b2
   obtain ⟨ok,hok⟩:∃ b,okM m = b:=⟨_,rfl⟩
   rw [hok]
   have HOK:=Lib.hid hok
   clear hok
   cases ok with
   | false =>
     obtain ⟨rfl,rfl⟩:Y = zeroQ∧y = false:=by have h:=EM.out HOK.out;injection h with h1 h2;exact ⟨h1,h2⟩
     have HW:=Lib.hid (newQb_zeroC (T:=[w.heap.size+1+1]) (fun i hi=>by simp at hi;omega) bb2)
     have cz0:=ko.here.cell 0 _ rfl
     have fz0:=Lib.frozen_of_heap ko.here 0
     have cz1:=ko.here.cell 1 _ rfl
     have fz1:=Lib.frozen_of_heap ko.here 1
     have cz2:=ko.here.cell 2 _ rfl
     have fz2:=Lib.frozen_of_heap ko.here 2
     clear ko o1 l1 kx km
     go_wp2
     refine bodyPost_ret (v:=.tuple #[.agg #[.bool false,.slice none 0 0,.slice none 0 0],.bool false]) (by simp [results,Tryz.results55,go_sem,cz0,cz1,cz2]) rfl ?_
     refine HW.out _ ?_
     repeat (first | with_reducible exact Chg.refl _ _ | with_reducible refine Chg.setCell ?_ (by simp) _ | with_reducible refine Chg.drew1 ?_ | with_reducible refine Chg.trans ?_ (Chg.of_below (below_al (Below.refl _ _) _)))
   | true =>
     have km_c0:=km.here.cell 0 _ rfl
     have km_c1:=km.here.cell 1 _ rfl
     have km_c2:=km.here.cell 2 _ rfl
     have kx_c0:=kx.here.cell 0 _ rfl
     have kx_c1:=kx.here.cell 1 _ rfl
     have kx_c2:=kx.here.cell 2 _ rfl
     go_upto_region 4 with fail
     have hz2b:=hz2
     have HC0:=Lib.hid (show Chg [w.heap.size+1+1] w2 w2.drew from (Chg.refl _ _).drew1)
     have HCr:=Lib.hid (show Chg [w.heap.size+1+1] w2 w2 from Chg.refl _ _)
     have KL:=Lib.hid (show ∀ W,Chg [w.heap.size+1+1] w2 W→W.cell? ⟨w.heap.size+1,0,none⟩ = some (.string m.1)∧W.cell? ⟨w.heap.size+1,1,none⟩ = some (.bool m.2.1)∧W.cell? ⟨w.heap.size+1,2,none⟩ = some (.slice Am m.2.2.length cm)∧W.cell? ⟨w1.heap.size,0,none⟩ = some (.bool X.1.1)∧W.cell? ⟨w1.heap.size,1,none⟩ = some (.slice A1 X.1.2.length c1)∧W.cell? ⟨w1.heap.size,2,none⟩ = some (.slice B1 X.2.length d1)∧Hid (Chg [w.heap.size+1+1] w2 W) from fun W hc=>⟨(km.chg hc (fun i hi hm=>by simp at hi hm;omega)).here.cell 0 _ rfl,(km.chg hc (fun i hi hm=>by simp at hi hm;omega)).here.cell 1 _ rfl,(km.chg hc (fun i hi hm=>by simp at hi hm;omega)).here.cell 2 _ rfl,(kx.chg hc (fun i hi hm=>by simp at hi hm;omega)).here.cell 0 _ rfl,(kx.chg hc (fun i hi hm=>by simp at hi hm;omega)).here.cell 1 _ rfl,(kx.chg hc (fun i hi hm=>by simp at hi hm;omega)).here.cell 2 _ rfl,Lib.hid hc⟩)
     have BBF:=Lib.hid (show ∀ W,Chg [w.heap.size+1+1] w2 W→Below w.heap.size w W from fun W hc=>below_chg bb2 hc bb2.size (fun i hi=>by simp at hi;omega))
     clear km_c0 km_c1 km_c2 kx_c0 kx_c1 kx_c2
     go_region_held3 (fun W=>W.cell? ⟨w.heap.size+1,0,none⟩ = some (.string m.1)∧W.cell? ⟨w.heap.size+1,1,none⟩ = some (.bool m.2.1)∧W.cell? ⟨w.heap.size+1,2,none⟩ = some (.slice Am m.2.2.length cm)∧W.cell? ⟨w1.heap.size,0,none⟩ = some (.bool X.1.1)∧W.cell? ⟨w1.heap.size,1,none⟩ = some (.slice A1 X.1.2.length c1)∧W.cell? ⟨w1.heap.size,2,none⟩ = some (.slice B1 X.2.length d1)∧Hid (Chg [w.heap.size+1+1] w2 W))
      ((refine KL.out _ ?_;(first | exact HC4.out | exact HC3.out | exact HCr.out | exact HC0.out | exact HC4.out.drew1 | exact HC3.out.drew1 | exact HCr.out.drew1 | exact HC0.out.drew1 | exact HC4.out.trans (Chg.of_below (below_al (Below.refl _ _) _)) | exact HC3.out.trans (Chg.of_below (below_al (Below.refl _ _) _)) | exact HCr.out.trans (Chg.of_below (below_al (Below.refl _ _) _)) | exact HC0.out.trans (Chg.of_below (below_al (Below.refl _ _) _)) | exact (Chg.setCell HC4.out (by simp) _) | exact (Chg.setCell (Chg.setCell HC4.out (by simp) _) (by simp) _) | exact (Chg.setCell (Chg.setCell (Chg.setCell HC4.out (by simp) _) (by simp) _) (by simp) _) | fail)))
      (first
        | (go_at_call 129;(have hBB:=(‹_∧_∧_∧_∧_∧_∧Hid (Chg [w.heap.size+1+1] w2 _)›).2.2.2.2.2.2);(with_reducible refine (specMoneyRat_any _ m _ hzm (OMm.out _ (BBF.out _ hBB.out))).mono ?_);rintro e w3 ⟨u7,S7,rfl,o7,l7,b3⟩;have HC3:=Lib.hid (hBB.out.trans (Chg.of_below b3));(have ko_3:=At.below (by first | exact ko | exact At.below ko (below_al (Below.refl _ _) _) | exact At.below (At.below ko (below_al (Below.refl _ _) _)) (below_al (Below.refl _ _) _) | exact At.move ko (fun _ _=>rfl) (Nat.le_refl _) | exact At.below (At.move (w':=w2.drew) ko (fun _ _=>rfl) (Nat.le_refl _)) (below_al (Below.refl _ _) _)) b3);(have o1_3:=At.below (by first | exact o1 | exact At.below o1 (below_al (Below.refl _ _) _) | exact At.below (At.below o1 (below_al (Below.refl _ _) _)) (below_al (Below.refl _ _) _) | exact At.move o1 (fun _ _=>rfl) (Nat.le_refl _) | exact At.below (At.move (w':=w2.drew) o1 (fun _ _=>rfl) (Nat.le_refl _)) (below_al (Below.refl _ _) _)) b3);obtain ⟨A7,c7,B7,d7,rfl⟩:=ownQ_form o7.here;have HBZ3:=Lib.hid hBB.out.size;clear hBB)
        | (go_at_call 117;(have hBB:=(‹_∧_∧_∧_∧_∧_∧Hid (Chg [w.heap.size+1+1] w2 _)›).2.2.2.2.2.2);(with_reducible refine ((specRatMul_any _ _ (ratM m) X _ hsM hsX (At.here (by first | exact o7 | exact At.below o7 (below_al (Below.refl _ _) _) | exact At.below (At.below o7 (below_al (Below.refl _ _) _)) (below_al (Below.refl _ _) _) | exact At.move o7 (fun _ _=>rfl) (Nat.le_refl _) | exact At.below (At.move (w':=w2.drew) o7 (fun _ _=>rfl) (Nat.le_refl _)) (below_al (Below.refl _ _) _))) (At.here (by first | exact o1_3 | exact At.below o1_3 (below_al (Below.refl _ _) _) | exact At.below (At.below o1_3 (below_al (Below.refl _ _) _)) (below_al (Below.refl _ _) _) | exact At.move o1_3 (fun _ _=>rfl) (Nat.le_refl _) | exact At.below (At.move (w':=w2.drew) o1_3 (fun _ _=>rfl) (Nat.le_refl _)) (below_al (Below.refl _ _) _)))).mono fun _ _ h=>postQb_isC EV.out h).mono ?_);rintro e w4 ⟨u8,S8,rfl,o8,l8,b4⟩;have HC4:=Lib.hid (hBB.out.trans (Chg.of_below b4));(have ko_4:=At.below (by first | exact ko_3 | exact At.below ko_3 (below_al (Below.refl _ _) _) | exact At.below (At.below ko_3 (below_al (Below.refl _ _) _)) (below_al (Below.refl _ _) _) | exact At.move ko_3 (fun _ _=>rfl) (Nat.le_refl _) | exact At.below (At.move (w':=w2.drew) ko_3 (fun _ _=>rfl) (Nat.le_refl _)) (below_al (Below.refl _ _) _)) b4);(have o1_4:=At.below (by first | exact o1_3 | exact At.below o1_3 (below_al (Below.refl _ _) _) | exact At.below (At.below o1_3 (below_al (Below.refl _ _) _)) (below_al (Below.refl _ _) _) | exact At.move o1_3 (fun _ _=>rfl) (Nat.le_refl _) | exact At.below (At.move (w':=w2.drew) o1_3 (fun _ _=>rfl) (Nat.le_refl _)) (below_al (Below.refl _ _) _)) b4);(have o7_4:=At.below (by first | exact o7 | exact At.below o7 (below_al (Below.refl _ _) _) | exact At.below (At.below o7 (below_al (Below.refl _ _) _)) (below_al (Below.refl _ _) _) | exact At.move o7 (fun _ _=>rfl) (Nat.le_refl _) | exact At.below (At.move (w':=w2.drew) o7 (fun _ _=>rfl) (Nat.le_refl _)) (below_al (Below.refl _ _) _)) b4);obtain ⟨A8,c8,B8,d8,rfl⟩:=ownQ_form o8.here;have cz0:=ko_4.here.cell 0 _ rfl;have fz0:=Lib.frozen_of_heap ko_4.here 0;have cz1:=ko_4.here.cell 1 _ rfl;have fz1:=Lib.frozen_of_heap ko_4.here 1;have cz2:=ko_4.here.cell 2 _ rfl;have fz2:=Lib.frozen_of_heap ko_4.here 2;have HBZ4:=Lib.hid hBB.out.size;clear hBB))
     all_goals
      have bb4:=BBF.out _ HC4.out
      replace km:=km.chg HC4.out (fun i hi hm=>by simp at hi hm;omega)
      replace kx:=kx.chg HC4.out (fun i hi hm=>by simp at hi hm;omega)
      replace ko:=ko_4
      replace o1:=o1_4
      have o7:=o7_4
      have HW:=Lib.hid (newQb_at (r:=w.heap.size+1+1) (b:=y) o8 l8 (by have:=HBZ4.out;omega) (by omega) bb4)
      clear o8 o7 o1 l8 l7 km kx ko
      go_wp2
      refine bodyPost_ret (v:=.tuple #[.agg #[.bool Y.1.1,.slice A8 Y.1.2.length c8,.slice B8 Y.2.length d8],.bool y]) (by simp [results,Tryz.results55,go_sem,cz0,cz1,cz2]) rfl ?_
      exact HW.out
theorem subN_sz {x N:QI} {b:Bool} (e:negQ x = (N,b)):szQ N ≤ 1048576:=by
 have e1:N = (negQ x).1:=by rw [e]
 rw [e1]
 unfold negQ
 split
 ·rename_i h
  have h1:=(parts_of h).d50
  have h2:(negS x.1).2.length ≤ 50:=by unfold negS;split;exact ofZ_len _;exact Nat.zero_le _
  unfold szQ szS szI
  simp only
  omega
 ·decide
set_option maxHeartbeats 2000000 in
theorem specRatSub_any (vr:Value) (vs:Value) (r s:QI) (w:World) (hzr:szQ r ≤ 1048576) (hzs:szQ s ≤ 1048576) (hr:OwnQ vr r w) (hs:OwnQ vs s w) :
 Calls Tryz.prog 256 #[vr,vs] w (PostQb (subQ r s).1 (subQ r s).2 w):=by
 have Hr:=Lib.hid hr
 obtain ⟨Ar,cr,Br,dr,rfl⟩:=ownQ_form hr
 have OQr:=Lib.hid (show ∀ W,Below w.heap.size w W→OwnQ (.agg #[.bool r.1.1,.slice Ar r.1.2.length cr,.slice Br r.2.length dr]) r W from fun W hb=>OwnQ.below Hr.out hb)
 have OUr:=Lib.hid (show ∀ W,Below w.heap.size w W→OwnI (.slice Ar r.1.2.length cr) r.1.2 W from fun W hb=>(ownQ_open (OQr.out W hb)).2.1)
 have ODr:=Lib.hid (show ∀ W,Below w.heap.size w W→OwnI (.slice Br r.2.length dr) r.2 W from fun W hb=>(ownQ_open (OQr.out W hb)).2.2.1)
 have OSr:=Lib.hid (show ∀ W,Below w.heap.size w W→OwnS (.agg #[.bool r.1.1,.slice Ar r.1.2.length cr]) r.1 W from fun W hb=>OwnS.mk (OUr.out W hb))
 clear hr
 have Hs:=Lib.hid hs
 obtain ⟨As,cs,Bs,ds,rfl⟩:=ownQ_form hs
 have OQs:=Lib.hid (show ∀ W,Below w.heap.size w W→OwnQ (.agg #[.bool s.1.1,.slice As s.1.2.length cs,.slice Bs s.2.length ds]) s W from fun W hb=>OwnQ.below Hs.out hb)
 have OUs:=Lib.hid (show ∀ W,Below w.heap.size w W→OwnI (.slice As s.1.2.length cs) s.1.2 W from fun W hb=>(ownQ_open (OQs.out W hb)).2.1)
 have ODs:=Lib.hid (show ∀ W,Below w.heap.size w W→OwnI (.slice Bs s.2.length ds) s.2 W from fun W hb=>(ownQ_open (OQs.out W hb)).2.2.1)
 have OSs:=Lib.hid (show ∀ W,Below w.heap.size w W→OwnS (.agg #[.bool s.1.1,.slice As s.1.2.length cs]) s.1 W from fun W hb=>OwnS.mk (OUs.out W hb))
 clear hs
 have bb0:Below w.heap.size w (((w.alloc (.cells #[.bool r.1.1,.slice Ar r.1.2.length cr,.slice Br r.2.length dr] 36)).alloc (.cells #[.bool s.1.1,.slice As s.1.2.length cs,.slice Bs s.2.length ds] 36)).alloc (.cells #[.bool false,.slice none 0 0,.slice none 0 0] 36)):=below_al (below_al (below_al (Below.refl _ _) _) _) _
 have kr:=(box_new w #[.bool r.1.1,.slice Ar r.1.2.length cr,.slice Br r.2.length dr] 36).below (below_al (below_al (Below.refl _ _) (.cells #[.bool s.1.1,.slice As s.1.2.length cs,.slice Bs s.2.length ds] 36)) (.cells #[.bool false,.slice none 0 0,.slice none 0 0] 36))
 have ks:=(box_new (w.alloc (.cells #[.bool r.1.1,.slice Ar r.1.2.length cr,.slice Br r.2.length dr] 36)) #[.bool s.1.1,.slice As s.1.2.length cs,.slice Bs s.2.length ds] 36).below (below_al (Below.refl _ _) (.cells #[.bool false,.slice none 0 0,.slice none 0 0] 36))
 rw [show (w.alloc (.cells #[.bool r.1.1,.slice Ar r.1.2.length cr,.slice Br r.2.length dr] 36)).heap.size = w.heap.size+1 by simp] at ks
 have ko:=(box_new ((w.alloc (.cells #[.bool r.1.1,.slice Ar r.1.2.length cr,.slice Br r.2.length dr] 36)).alloc (.cells #[.bool s.1.1,.slice As s.1.2.length cs,.slice Bs s.2.length ds] 36)) #[.bool false,.slice none 0 0,.slice none 0 0] 36)
 rw [show ((w.alloc (.cells #[.bool r.1.1,.slice Ar r.1.2.length cr,.slice Br r.2.length dr] 36)).alloc (.cells #[.bool s.1.1,.slice As s.1.2.length cs,.slice Bs s.2.length ds] 36)).heap.size = w.heap.size+1+1 by simp] at ko
 obtain ⟨⟨N,bo⟩,hQ⟩:∃ q,negQ s = q:=⟨_,rfl⟩
 have EQ:=Lib.hid hQ
 have hzN:=subN_sz hQ
 have HD:=Lib.hid (show subQ r s = if bo = true then addQ r N else (zeroQ,false) by unfold subQ;rw [hQ])
 obtain ⟨Q,hA⟩:∃ Q,addQ r N = Q:=⟨_,rfl⟩
 have EA:=Lib.hid hA
 rw [hA] at HD
 clear hQ hA
 have HKO:=Lib.hid (ko.lt (w.heap.size+1+1) (by simp))
 go_enter Tryz.func256,Tryz.ntmps256
 have ks_c0:=ks.here.cell 0 _ rfl
 have ks_c1:=ks.here.cell 1 _ rfl
 have ks_c2:=ks.here.cell 2 _ rfl
 go_wp2_with fail
 clear ks_c0 ks_c1 ks_c2
 refine (show Calls _ _ _ _ (PostQb N bo _) from (specRatNeg_any _ s _ hzs (OQs.out _ bb0)).mono fun _ _ h=>postQb_eq EQ.out h).mono ?_
 rintro e w1 ⟨un,Sn,rfl,on,ln,b1⟩
 obtain ⟨An,cn,Bn,dn,rfl⟩:=ownQ_form on.here
 have bb1:=Below.next bb0 b1
 replace kr:=kr.below b1
 replace ks:=ks.below b1
 replace ko:=ko.below b1
 cases bo with
 | true =>
   have HV:=Lib.hid (show subQ r s = Q by rw [HD.out];rfl)
   clear HD
   have kt:=box_new (w1) #[.bool N.1.1,.slice An N.1.2.length cn,.slice Bn N.2.length dn] 36
   have alt:=below_al (Below.refl (w1).heap.size (w1)) (.cells #[.bool N.1.1,.slice An N.1.2.length cn,.slice Bn N.2.length dn] 36)
   have bbt:=Below.next bb1 alt
   replace kr:=kr.below alt
   replace ks:=ks.below alt
   replace ko:=ko.below alt
   replace on:=on.below alt
   have kt_c0:=kt.here.cell 0 _ rfl
   have kt_c1:=kt.here.cell 1 _ rfl
   have kt_c2:=kt.here.cell 2 _ rfl
   have kr_c0:=kr.here.cell 0 _ rfl
   have kr_c1:=kr.here.cell 1 _ rfl
   have kr_c2:=kr.here.cell 2 _ rfl
   go_wp2_with fail
   clear kt_c0 kt_c1 kt_c2 kr_c0 kr_c1 kr_c2
   refine ((specRatAdd_any _ _ r N _ hzr hzN (OQr.out _ bbt) on.here).mono fun _ _ h=>postQb_eq EA.out h).mono ?_
   rintro e w2 ⟨uf,Sf,rfl,of,lf,b2⟩
   obtain ⟨Af,cf,Bf,df,rfl⟩:=ownQ_form of.here
   have bb2:=Below.next bbt b2
   replace kr:=kr.below b2
   replace ks:=ks.below b2
   replace ko:=ko.below b2
   replace on:=on.below b2
   replace kt:=kt.below b2
   clear on kt kr ks
   have HW:=Lib.hid (newQb_at (r:=w.heap.size+1+1) (b:=Q.2) of lf (by have h1:=HKO.out;have h2:=b1.size;have h3:=alt.size;omega) (by omega) bb2)
   have cz0:=ko.here.cell 0 _ rfl
   have fz0:=Lib.frozen_of_heap ko.here 0
   have cz1:=ko.here.cell 1 _ rfl
   have fz1:=Lib.frozen_of_heap ko.here 1
   have cz2:=ko.here.cell 2 _ rfl
   have fz2:=Lib.frozen_of_heap ko.here 2
   clear of ko
   go_wp2
   refine bodyPost_ret (v:=.tuple #[.agg #[.bool _,.slice Af _ cf,.slice Bf _ df],.bool _]) (by simp [results,Tryz.results256,go_sem,cz0,cz1,cz2];exact ⟨⟨rfl,rfl,rfl⟩,rfl⟩) rfl ?_
   rw [HV.out]
   exact HW.out
 | false =>
   have HV:=Lib.hid (show subQ r s = (zeroQ,false) by rw [HD.out];rfl)
   clear HD on
   have kt:=box_new (w1) #[.bool N.1.1,.slice An N.1.2.length cn,.slice Bn N.2.length dn] 36
   have alt:=below_al (Below.refl (w1).heap.size (w1)) (.cells #[.bool N.1.1,.slice An N.1.2.length cn,.slice Bn N.2.length dn] 36)
   have bbt:=Below.next bb1 alt
   replace kr:=kr.below alt
   replace ks:=ks.below alt
   replace ko:=ko.below alt
   have ko_c0:=ko.here.cell 0 _ rfl
   have ko_c1:=ko.here.cell 1 _ rfl
   have ko_c2:=ko.here.cell 2 _ rfl
   have cz0:=ko.here.cell 0 _ rfl
   have fz0:=Lib.frozen_of_heap ko.here 0
   have cz1:=ko.here.cell 1 _ rfl
   have fz1:=Lib.frozen_of_heap ko.here 1
   have cz2:=ko.here.cell 2 _ rfl
   have fz2:=Lib.frozen_of_heap ko.here 2
   go_wp2
   refine bodyPost_ret (v:=.tuple #[.agg #[.bool false,.slice none 0 0,.slice none 0 0],.bool false]) (by simp [results,Tryz.results256,go_sem,cz0,cz1,cz2]) rfl ?_
   rw [HV.out]
   first | exact newQb_zero _ bbt | exact newQb_zero _ (below_set3 bbt (by omega))
set_option maxHeartbeats 4000000 in
theorem specRatRest_any (vr:Value) (r:QI) (m:Int) (w:World) (hz:szQ r ≤ 1048576) (hr:OwnQ vr r w) :
 Calls Tryz.prog 201 #[vr,.int .i64 m] w (PostSQb (restS r m) (restQ r m) (restB r m) w):=by
 have Hr:=Lib.hid hr
 obtain ⟨Ar,cr,Br,dr,rfl⟩:=ownQ_form hr
 have OQr:=Lib.hid (show ∀ W,Below w.heap.size w W→OwnQ (.agg #[.bool r.1.1,.slice Ar r.1.2.length cr,.slice Br r.2.length dr]) r W from fun W hb=>OwnQ.below Hr.out hb)
 have OUr:=Lib.hid (show ∀ W,Below w.heap.size w W→OwnI (.slice Ar r.1.2.length cr) r.1.2 W from fun W hb=>(ownQ_open (OQr.out W hb)).2.1)
 have ODr:=Lib.hid (show ∀ W,Below w.heap.size w W→OwnI (.slice Br r.2.length dr) r.2 W from fun W hb=>(ownQ_open (OQr.out W hb)).2.2.1)
 have OSr:=Lib.hid (show ∀ W,Below w.heap.size w W→OwnS (.agg #[.bool r.1.1,.slice Ar r.1.2.length cr]) r.1 W from fun W hb=>OwnS.mk (OUr.out W hb))
 clear hr
 have bb0:Below w.heap.size w (((w.alloc (.cells #[.bool r.1.1,.slice Ar r.1.2.length cr,.slice Br r.2.length dr] 36)).alloc (.cells #[.bool false,.slice none 0 0] 30)).alloc (.cells #[.bool false,.slice none 0 0,.slice none 0 0] 36)):=below_al (below_al (below_al (Below.refl _ _) _) _) _
 have kr:=(box_new w #[.bool r.1.1,.slice Ar r.1.2.length cr,.slice Br r.2.length dr] 36).below (below_al (below_al (Below.refl _ _) (.cells #[.bool false,.slice none 0 0] 30)) (.cells #[.bool false,.slice none 0 0,.slice none 0 0] 36))
 have ko:=(box_new (w.alloc (.cells #[.bool r.1.1,.slice Ar r.1.2.length cr,.slice Br r.2.length dr] 36)) #[.bool false,.slice none 0 0] 30).below (below_al (Below.refl _ _) (.cells #[.bool false,.slice none 0 0,.slice none 0 0] 36))
 rw [show (w.alloc (.cells #[.bool r.1.1,.slice Ar r.1.2.length cr,.slice Br r.2.length dr] 36)).heap.size = w.heap.size+1 by simp] at ko
 have kp:=(box_new ((w.alloc (.cells #[.bool r.1.1,.slice Ar r.1.2.length cr,.slice Br r.2.length dr] 36)).alloc (.cells #[.bool false,.slice none 0 0] 30)) #[.bool false,.slice none 0 0,.slice none 0 0] 36)
 rw [show ((w.alloc (.cells #[.bool r.1.1,.slice Ar r.1.2.length cr,.slice Br r.2.length dr] 36)).alloc (.cells #[.bool false,.slice none 0 0] 30)).heap.size = w.heap.size+1+1 by simp] at kp
 have HKO:=Lib.hid (ko.lt (w.heap.size+1) (by simp))
 have HKP:=Lib.hid (kp.lt (w.heap.size+1+1) (by simp))
 obtain ⟨X,hX⟩:∃ X,(roundR r m).1 = X:=⟨_,rfl⟩
 obtain ⟨Y,hY⟩:∃ Y,(makeQ X (ofZ 1)).1 = Y:=⟨_,rfl⟩
 obtain ⟨Z,hZ⟩:∃ Z,(subQ r Y).1 = Z:=⟨_,rfl⟩
 have zX:szS X ≤ 1048576:=by rw [← hX];exact roundR_sz r m
 have zY:szQ Y ≤ 1048576:=by rw [← hY];exact makeQ_szQ _ _
 by_cases hb:okQ r = true∧modeB m = true
 ·obtain ⟨r1,r2,r3,r4⟩:=rest_all hb.1 hb.2
  have ER:=Lib.hid (show roundR r m = (X,true) by rw [r1,← hX,r1])
  have rp:=rest_parts hb.1 m
  have e0:roundS r m = X:=by rw [← hX,r1]
  rw [e0] at rp r3 r4
  rw [hY] at rp r4
  rw [hZ] at r4
  have EM:=Lib.hid (show makeQ X (ofZ 1) = (Y,true) by rw [← hY,← rp.1])
  have ES:=Lib.hid (show subQ r Y = (Z,true) by rw [← hZ,← rp.2])
  have HV:=Lib.hid (show restS r m = X∧restQ r m = Z∧restB r m = true from ⟨r3,r4,r2⟩)
  clear rp e0
  clear hX hY hZ r1 r2 r3 r4 hb
  go_enter Tryz.func201,Tryz.ntmps201
  have kr_c0:=kr.here.cell 0 _ rfl
  have kr_c1:=kr.here.cell 1 _ rfl
  have kr_c2:=kr.here.cell 2 _ rfl
  go_wp2_with fail
  clear kr_c0 kr_c1 kr_c2
  refine ((specRatRound_any _ r m _ hz (OQr.out _ bb0)).mono fun _ _ h=>postSb_is ER.out h).mono ?_
  rintro e w1 ⟨ux,Sx,rfl,ox,lx,b1⟩
  obtain ⟨Ax,cx,rfl⟩:=ownS_form ox.here
  have bb1:=Below.next bb0 b1
  replace kr:=kr.below b1
  replace ko:=ko.below b1
  replace kp:=kp.below b1
  have kx:=box_new (w1) #[.bool X.1,.slice Ax X.2.length cx] 30
  have alx:=below_al (Below.refl (w1).heap.size (w1)) (.cells #[.bool X.1,.slice Ax X.2.length cx] 30)
  have bbx:=Below.next bb1 alx
  replace kr:=kr.below alx
  replace ko:=ko.below alx
  replace kp:=kp.below alx
  replace ox:=ox.below alx
  have kx_c0:=kx.here.cell 0 _ rfl
  have kx_c1:=kx.here.cell 1 _ rfl
  go_wp2_with fail
  clear kx_c0 kx_c1
  refine ((specRatInt_any _ X _ zX ox.here).mono fun _ _ h=>postQb_is EM.out h).mono ?_
  rintro e w2 ⟨uy,Sy,rfl,oy,ly,b2⟩
  obtain ⟨Ay,cy,By,dy,rfl⟩:=ownQ_form oy.here
  have bb2:=Below.next bbx b2
  replace kr:=kr.below b2
  replace ko:=ko.below b2
  replace kp:=kp.below b2
  replace ox:=ox.below b2
  replace kx:=kx.below b2
  have ky:=box_new (w2) #[.bool Y.1.1,.slice Ay Y.1.2.length cy,.slice By Y.2.length dy] 36
  have aly:=below_al (Below.refl (w2).heap.size (w2)) (.cells #[.bool Y.1.1,.slice Ay Y.1.2.length cy,.slice By Y.2.length dy] 36)
  have bby:=Below.next bb2 aly
  replace kr:=kr.below aly
  replace ko:=ko.below aly
  replace kp:=kp.below aly
  replace ox:=ox.below aly
  replace kx:=kx.below aly
  replace oy:=oy.below aly
  have kr_c0:=kr.here.cell 0 _ rfl
  have kr_c1:=kr.here.cell 1 _ rfl
  have kr_c2:=kr.here.cell 2 _ rfl
  have ky_c0:=ky.here.cell 0 _ rfl
  have ky_c1:=ky.here.cell 1 _ rfl
  have ky_c2:=ky.here.cell 2 _ rfl
  go_wp2_with fail
  clear kr_c0 kr_c1 kr_c2 ky_c0 ky_c1 ky_c2
  refine ((specRatSub_any _ _ r Y _ hz zY (OQr.out _ bby) oy.here).mono fun _ _ h=>postQb_is ES.out h).mono ?_
  rintro e w3 ⟨uz,Sz,rfl,oz,lz,b3⟩
  obtain ⟨Az,cz,Bz,dz,rfl⟩:=ownQ_form oz.here
  have bb3:=Below.next bby b3
  replace kr:=kr.below b3
  replace ko:=ko.below b3
  replace kp:=kp.below b3
  replace ox:=ox.below b3
  replace kx:=kx.below b3
  replace oy:=oy.below b3
  replace ky:=ky.below b3
  have kz:=box_new (w3) #[.bool Z.1.1,.slice Az Z.1.2.length cz,.slice Bz Z.2.length dz] 36
  have alz:=below_al (Below.refl (w3).heap.size (w3)) (.cells #[.bool Z.1.1,.slice Az Z.1.2.length cz,.slice Bz Z.2.length dz] 36)
  have bbz:=Below.next bb3 alz
  replace kr:=kr.below alz
  replace ko:=ko.below alz
  replace kp:=kp.below alz
  replace ox:=ox.below alz
  replace kx:=kx.below alz
  replace oy:=oy.below alz
  replace ky:=ky.below alz
  replace oz:=oz.below alz
  have z1:=b1.size
  have z2:=b2.size
  have z3:=b3.size
  have zx:=alx.size
  have zy:=aly.size
  have zz:=alz.size
  have HKX:=Lib.hid (kx.lt _ (List.mem_singleton.2 rfl))
  have HW:=Lib.hid (newSQb_at (b:=true) (r:=w.heap.size+1) (p:=w.heap.size+1+1) ox oz (within_up lx (Nat.le_refl _) (Nat.le_trans zx (Nat.le_trans z2 (Nat.le_trans zy (Nat.le_trans z3 zz))))) (within_up lz (Nat.le_refl _) zz) (Within.apart lx lz (.inl (Nat.le_trans zx (Nat.le_trans z2 zy)))) HKP.out (Nat.lt_of_lt_of_le HKP.out (Nat.le_trans z1 (Nat.le_trans zx (Nat.le_trans z2 zy)))) (by omega) (by omega) (by omega) bbz)
  have hs1:=HKP.out
  have hs2:=Nat.lt_of_lt_of_le HKP.out z1
  have hs3:=Nat.lt_of_lt_of_le hs2 (Nat.le_trans zx (Nat.le_trans z2 (Nat.le_trans zy z3)))
  have hn_w1_1:¬ w1.heap.size = w.heap.size+1:=by omega
  have hn_w1_1':¬ w.heap.size+1 = w1.heap.size:=by omega
  have hn_w1_2:¬ w1.heap.size = w.heap.size+1+1:=by omega
  have hn_w1_2':¬ w.heap.size+1+1 = w1.heap.size:=by omega
  have hn_w3_1:¬ w3.heap.size = w.heap.size+1:=by omega
  have hn_w3_1':¬ w.heap.size+1 = w3.heap.size:=by omega
  have hn_w3_2:¬ w3.heap.size = w.heap.size+1+1:=by omega
  have hn_w3_2':¬ w.heap.size+1+1 = w3.heap.size:=by omega
  clear hs1 hs2 hs3
  have cko0:=ko.here.cell 0 _ rfl
  have cko1:=ko.here.cell 1 _ rfl
  have fko0:=Lib.frozen_of_heap ko.here 0
  have fko1:=Lib.frozen_of_heap ko.here 1
  have ckp0:=kp.here.cell 0 _ rfl
  have ckp1:=kp.here.cell 1 _ rfl
  have ckp2:=kp.here.cell 2 _ rfl
  have fkp0:=Lib.frozen_of_heap kp.here 0
  have fkp1:=Lib.frozen_of_heap kp.here 1
  have fkp2:=Lib.frozen_of_heap kp.here 2
  have ckx0:=kx.here.cell 0 _ rfl
  have ckx1:=kx.here.cell 1 _ rfl
  have ckz0:=kz.here.cell 0 _ rfl
  have ckz1:=kz.here.cell 1 _ rfl
  have ckz2:=kz.here.cell 2 _ rfl
  clear ox oy oz ko kp kr kx ky kz z1 z2 z3 zx zy zz lx ly lz
  go_wp2_with fail
  go_region
  all_goals (go_wp2;refine bodyPost_ret (v:=.tuple #[.agg #[.bool X.1,.slice Ax X.2.length cx],.agg #[.bool Z.1.1,.slice Az Z.1.2.length cz,.slice Bz Z.2.length dz],.bool true]) (by simp [results,Tryz.results201,go_sem,cko0,cko1,ckp0,ckp1,ckp2]) rfl ?_)
  all_goals (rw [HV.out.1,HV.out.2.1,HV.out.2.2];refine HW.out _ ?_;repeat (first | exact Chg.refl _ _ | refine Chg.setCell ?_ (by simp) _ | refine Chg.drew1 ?_))
 ·obtain ⟨r1,r2,r3,r4⟩:=rest_none hb
  have ER:=Lib.hid (show roundR r m = (X,false) by rw [r1,← hX,r1])
  have HV:=Lib.hid (show restS r m = zeroS∧restQ r m = zeroQ∧restB r m = false from ⟨r3,r4,r2⟩)
  obtain ⟨by_,hby⟩:∃ b,(makeQ X (ofZ 1)).2 = b:=⟨_,rfl⟩
  obtain ⟨bz_,hbz⟩:∃ b,(subQ r Y).2 = b:=⟨_,rfl⟩
  have EM:=Lib.hid (show makeQ X (ofZ 1) = (Y,by_) by rw [← hY,← hby])
  have ES:=Lib.hid (show subQ r Y = (Z,bz_) by rw [← hZ,← hbz])
  clear hby hbz
  clear hX hY hZ r1 r2 r3 r4 hb
  go_enter Tryz.func201,Tryz.ntmps201
  have kr_c0:=kr.here.cell 0 _ rfl
  have kr_c1:=kr.here.cell 1 _ rfl
  have kr_c2:=kr.here.cell 2 _ rfl
  go_wp2_with fail
  clear kr_c0 kr_c1 kr_c2
  refine ((specRatRound_any _ r m _ hz (OQr.out _ bb0)).mono fun _ _ h=>postSb_is ER.out h).mono ?_
  rintro e w1 ⟨ux,Sx,rfl,ox,lx,b1⟩
  obtain ⟨Ax,cx,rfl⟩:=ownS_form ox.here
  have bb1:=Below.next bb0 b1
  replace kr:=kr.below b1
  replace ko:=ko.below b1
  replace kp:=kp.below b1
  have kx:=box_new (w1) #[.bool X.1,.slice Ax X.2.length cx] 30
  have alx:=below_al (Below.refl (w1).heap.size (w1)) (.cells #[.bool X.1,.slice Ax X.2.length cx] 30)
  have bbx:=Below.next bb1 alx
  replace kr:=kr.below alx
  replace ko:=ko.below alx
  replace kp:=kp.below alx
  replace ox:=ox.below alx
  have kx_c0:=kx.here.cell 0 _ rfl
  have kx_c1:=kx.here.cell 1 _ rfl
  go_wp2_with fail
  clear kx_c0 kx_c1
  refine ((specRatInt_any _ X _ zX ox.here).mono fun _ _ h=>postQb_is EM.out h).mono ?_
  rintro e w2 ⟨uy,Sy,rfl,oy,ly,b2⟩
  obtain ⟨Ay,cy,By,dy,rfl⟩:=ownQ_form oy.here
  have bb2:=Below.next bbx b2
  replace kr:=kr.below b2
  replace ko:=ko.below b2
  replace kp:=kp.below b2
  replace ox:=ox.below b2
  replace kx:=kx.below b2
  have ky:=box_new (w2) #[.bool Y.1.1,.slice Ay Y.1.2.length cy,.slice By Y.2.length dy] 36
  have aly:=below_al (Below.refl (w2).heap.size (w2)) (.cells #[.bool Y.1.1,.slice Ay Y.1.2.length cy,.slice By Y.2.length dy] 36)
  have bby:=Below.next bb2 aly
  replace kr:=kr.below aly
  replace ko:=ko.below aly
  replace kp:=kp.below aly
  replace ox:=ox.below aly
  replace kx:=kx.below aly
  replace oy:=oy.below aly
  have kr_c0:=kr.here.cell 0 _ rfl
  have kr_c1:=kr.here.cell 1 _ rfl
  have kr_c2:=kr.here.cell 2 _ rfl
  have ky_c0:=ky.here.cell 0 _ rfl
  have ky_c1:=ky.here.cell 1 _ rfl
  have ky_c2:=ky.here.cell 2 _ rfl
  go_wp2_with fail
  clear kr_c0 kr_c1 kr_c2 ky_c0 ky_c1 ky_c2
  refine ((specRatSub_any _ _ r Y _ hz zY (OQr.out _ bby) oy.here).mono fun _ _ h=>postQb_is ES.out h).mono ?_
  rintro e w3 ⟨uz,Sz,rfl,oz,lz,b3⟩
  obtain ⟨Az,cz,Bz,dz,rfl⟩:=ownQ_form oz.here
  have bb3:=Below.next bby b3
  replace kr:=kr.below b3
  replace ko:=ko.below b3
  replace kp:=kp.below b3
  replace ox:=ox.below b3
  replace kx:=kx.below b3
  replace oy:=oy.below b3
  replace ky:=ky.below b3
  have kz:=box_new (w3) #[.bool Z.1.1,.slice Az Z.1.2.length cz,.slice Bz Z.2.length dz] 36
  have alz:=below_al (Below.refl (w3).heap.size (w3)) (.cells #[.bool Z.1.1,.slice Az Z.1.2.length cz,.slice Bz Z.2.length dz] 36)
  have bbz:=Below.next bb3 alz
  replace kr:=kr.below alz
  replace ko:=ko.below alz
  replace kp:=kp.below alz
  replace ox:=ox.below alz
  replace kx:=kx.below alz
  replace oy:=oy.below alz
  replace ky:=ky.below alz
  replace oz:=oz.below alz
  have cko0:=ko.here.cell 0 _ rfl
  have fko0:=Lib.frozen_of_heap ko.here 0
  have cko1:=ko.here.cell 1 _ rfl
  have fko1:=Lib.frozen_of_heap ko.here 1
  have ckp0:=kp.here.cell 0 _ rfl
  have fkp0:=Lib.frozen_of_heap kp.here 0
  have ckp1:=kp.here.cell 1 _ rfl
  have fkp1:=Lib.frozen_of_heap kp.here 1
  have ckp2:=kp.here.cell 2 _ rfl
  have fkp2:=Lib.frozen_of_heap kp.here 2
  go_wp2
  refine bodyPost_ret (v:=.tuple #[.agg #[.bool false,.slice none 0 0],.agg #[.bool false,.slice none 0 0,.slice none 0 0],.bool false]) (by simp [results,Tryz.results201,go_sem,cko0,cko1,ckp0,ckp1,ckp2]) rfl ?_
  rw [HV.out.1,HV.out.2.1,HV.out.2.2]
  first | exact newSQb_zero bbz | exact newSQb_zero (below_set3 (below_set2 bbz (by omega)) (by omega))
set_option maxHeartbeats 4000000 in
theorem specRatMoney_any (cu:ByteArray) (vr:Value) (r:QI) (m:Int) (w:World) (hz:szQ r ≤ 1048576) (hr:OwnQ vr r w) :
 Calls Tryz.prog 132 #[.string cu,vr,.int .i64 m] w (PostMQb (rmM cu r m) (rmQ cu r m) (rmB cu r m) w):=by
 have Hr:=Lib.hid hr
 obtain ⟨Ar,cr,Br,dr,rfl⟩:=ownQ_form hr
 have OQr:=Lib.hid (show ∀ W,Below w.heap.size w W→OwnQ (.agg #[.bool r.1.1,.slice Ar r.1.2.length cr,.slice Br r.2.length dr]) r W from fun W hb=>OwnQ.below Hr.out hb)
 clear hr
 have bb0:Below w.heap.size w (((w.alloc (.cells #[.bool r.1.1,.slice Ar r.1.2.length cr,.slice Br r.2.length dr] 36)).alloc (.cells #[.string ⟨#[]⟩,.bool false,.slice none 0 0] 32)).alloc (.cells #[.bool false,.slice none 0 0,.slice none 0 0] 36)):=below_al (below_al (below_al (Below.refl _ _) _) _) _
 have kr:=(box_new w #[.bool r.1.1,.slice Ar r.1.2.length cr,.slice Br r.2.length dr] 36).below (below_al (below_al (Below.refl _ _) (.cells #[.string ⟨#[]⟩,.bool false,.slice none 0 0] 32)) (.cells #[.bool false,.slice none 0 0,.slice none 0 0] 36))
 have ko:=(box_new (w.alloc (.cells #[.bool r.1.1,.slice Ar r.1.2.length cr,.slice Br r.2.length dr] 36)) #[.string ⟨#[]⟩,.bool false,.slice none 0 0] 32).below (below_al (Below.refl _ _) (.cells #[.bool false,.slice none 0 0,.slice none 0 0] 36))
 rw [show (w.alloc (.cells #[.bool r.1.1,.slice Ar r.1.2.length cr,.slice Br r.2.length dr] 36)).heap.size = w.heap.size+1 by simp] at ko
 have kp:=(box_new ((w.alloc (.cells #[.bool r.1.1,.slice Ar r.1.2.length cr,.slice Br r.2.length dr] 36)).alloc (.cells #[.string ⟨#[]⟩,.bool false,.slice none 0 0] 32)) #[.bool false,.slice none 0 0,.slice none 0 0] 36)
 rw [show ((w.alloc (.cells #[.bool r.1.1,.slice Ar r.1.2.length cr,.slice Br r.2.length dr] 36)).alloc (.cells #[.string ⟨#[]⟩,.bool false,.slice none 0 0] 32)).heap.size = w.heap.size+1+1 by simp] at kp
 have HKO:=Lib.hid (ko.lt (w.heap.size+1) (by simp))
 have HKP:=Lib.hid (kp.lt (w.heap.size+1+1) (by simp))
 have hzX:(restS r m).2.length ≤ 1048576:=restS_len r m
 obtain ⟨X,hX⟩:∃ X,restS r m = X:=⟨_,rfl⟩
 obtain ⟨Y,hY⟩:∃ Y,restQ r m = Y:=⟨_,rfl⟩
 obtain ⟨rb,hrb⟩:∃ b,restB r m = b:=⟨_,rfl⟩
 obtain ⟨⟨Q,qb⟩,hQ⟩:∃ Q,makeM cu X = Q:=⟨_,rfl⟩
 have EX:=Lib.hid hX
 have EY:=Lib.hid hY
 have EQ:=Lib.hid hQ
 have EG:=Lib.hid (show rb = true→qb = true→rmM cu r m = Q∧rmQ cu r m = Y∧rmB cu r m = true from fun h1 h2=>by have h:=rm_good (cu:=cu) (r:=r) (m:=m) (by rw [hrb];exact h1) (by rw [hX,hQ];exact h2);rw [hX,hQ,hY] at h;exact h)
 have EB:=Lib.hid (show rb = false ∨ qb = false→rmM cu r m = zeroM∧rmQ cu r m = zeroQ∧rmB cu r m = false from fun h=>rm_bad (by rw [hrb,hX,hQ];exact h))
 have ER:=Lib.hid hrb
 rw [hX] at hzX
 clear hX hY hrb hQ
 generalize rmM cu r m = RM at *
 generalize rmQ cu r m = RQ at *
 generalize rmB cu r m = RB at *
 go_enter Tryz.func132,Tryz.ntmps132
 have kr_c0:=kr.here.cell 0 _ rfl
 have kr_c1:=kr.here.cell 1 _ rfl
 have kr_c2:=kr.here.cell 2 _ rfl
 go_wp2_with fail
 clear kr_c0 kr_c1 kr_c2
 refine ((specRatRest_any _ r m _ hz (OQr.out _ bb0)).mono fun _ _ h=>postSQb_isM EX.out EY.out ER.out h).mono ?_
 rintro e w1 ⟨ux,uy,Sx,Sy,rfl,ox,oy,hap,lx,ly,b1⟩
 obtain ⟨Ax,cx,rfl⟩:=ownS_form ox.here
 obtain ⟨Ay,cy,By,dy,rfl⟩:=ownQ_form oy.here
 have bb1:=Below.next bb0 b1
 replace kr:=kr.below b1
 replace ko:=ko.below b1
 replace kp:=kp.below b1
 have kx:=box_new (w1) #[.bool X.1,.slice Ax X.2.length cx] 30
 have alx:=below_al (Below.refl (w1).heap.size (w1)) (.cells #[.bool X.1,.slice Ax X.2.length cx] 30)
 have bbx:=Below.next bb1 alx
 replace kr:=kr.below alx
 replace ko:=ko.below alx
 replace kp:=kp.below alx
 replace ox:=ox.below alx
 replace oy:=oy.below alx
 have ky:=box_new ((w1.alloc (.cells #[.bool X.1,.slice Ax X.2.length cx] 30))) #[.bool Y.1.1,.slice Ay Y.1.2.length cy,.slice By Y.2.length dy] 36
 have aly:=below_al (Below.refl ((w1.alloc (.cells #[.bool X.1,.slice Ax X.2.length cx] 30))).heap.size ((w1.alloc (.cells #[.bool X.1,.slice Ax X.2.length cx] 30)))) (.cells #[.bool Y.1.1,.slice Ay Y.1.2.length cy,.slice By Y.2.length dy] 36)
 have bby:=Below.next bbx aly
 replace kr:=kr.below aly
 replace ko:=ko.below aly
 replace kp:=kp.below aly
 replace ox:=ox.below aly
 replace oy:=oy.below aly
 replace kx:=kx.below aly
 have kx_c0:=kx.here.cell 0 _ rfl
 have kx_c1:=kx.here.cell 1 _ rfl
 go_wp2_with fail
 clear kx_c0 kx_c1
 refine ((l09Make_any cu _ X _ _ hzX ox).mono fun _ _ h=>keptM_eq EQ.out h).mono ?_
 rintro e w2 ⟨um,Sm,rfl,om,sm,b2⟩
 obtain ⟨Am,cm,rfl⟩:=ownM_form om.here
 have bb2:=Below.next bby b2
 replace kr:=kr.below b2
 replace ko:=ko.below b2
 replace kp:=kp.below b2
 replace ox:=ox.below b2
 replace oy:=oy.below b2
 replace kx:=kx.below b2
 replace ky:=ky.below b2
 have km:=box_new (w2) #[.string Q.1,.bool Q.2.1,.slice Am Q.2.2.length cm] 32
 have alm:=below_al (Below.refl (w2).heap.size (w2)) (.cells #[.string Q.1,.bool Q.2.1,.slice Am Q.2.2.length cm] 32)
 have bbm:=Below.next bb2 alm
 replace kr:=kr.below alm
 replace ko:=ko.below alm
 replace kp:=kp.below alm
 replace ox:=ox.below alm
 replace oy:=oy.below alm
 replace kx:=kx.below alm
 replace ky:=ky.below alm
 replace om:=om.below alm
 cases rb with
 | false =>
   have HV:=Lib.hid (EB.out (.inl rfl))
   have cko0:=ko.here.cell 0 _ rfl
   have fko0:=Lib.frozen_of_heap ko.here 0
   have cko1:=ko.here.cell 1 _ rfl
   have fko1:=Lib.frozen_of_heap ko.here 1
   have cko2:=ko.here.cell 2 _ rfl
   have fko2:=Lib.frozen_of_heap ko.here 2
   have ckp0:=kp.here.cell 0 _ rfl
   have fkp0:=Lib.frozen_of_heap kp.here 0
   have ckp1:=kp.here.cell 1 _ rfl
   have fkp1:=Lib.frozen_of_heap kp.here 1
   have ckp2:=kp.here.cell 2 _ rfl
   have fkp2:=Lib.frozen_of_heap kp.here 2
   clear ox oy om ko kp kr kx ky km lx ly sm hap
   go_wp2
   refine bodyPost_ret (v:=.tuple #[.agg #[.string ⟨#[]⟩,.bool false,.slice none 0 0],.agg #[.bool false,.slice none 0 0,.slice none 0 0],.bool false]) (by simp [results,Tryz.results132,go_sem,cko0,cko1,cko2,ckp0,ckp1,ckp2]) rfl ?_
   rw [HV.out.1,HV.out.2.1,HV.out.2.2]
   have hle1:w.heap.size ≤ w.heap.size+1:=by omega
   have hle2:w.heap.size ≤ w.heap.size+1+1:=by omega
   first | with_reducible exact newMQb_zero (below_set3 (below_set3 bbm hle1) hle2) | with_reducible exact newMQb_zero bbm
 | true =>
   cases qb with
   | false =>
     have HV:=Lib.hid (EB.out (.inr rfl))
     have cko0:=ko.here.cell 0 _ rfl
     have fko0:=Lib.frozen_of_heap ko.here 0
     have cko1:=ko.here.cell 1 _ rfl
     have fko1:=Lib.frozen_of_heap ko.here 1
     have cko2:=ko.here.cell 2 _ rfl
     have fko2:=Lib.frozen_of_heap ko.here 2
     have ckp0:=kp.here.cell 0 _ rfl
     have fkp0:=Lib.frozen_of_heap kp.here 0
     have ckp1:=kp.here.cell 1 _ rfl
     have fkp1:=Lib.frozen_of_heap kp.here 1
     have ckp2:=kp.here.cell 2 _ rfl
     have fkp2:=Lib.frozen_of_heap kp.here 2
     clear ox oy om ko kp kr kx ky km lx ly sm hap
     go_wp2
     refine bodyPost_ret (v:=.tuple #[.agg #[.string ⟨#[]⟩,.bool false,.slice none 0 0],.agg #[.bool false,.slice none 0 0,.slice none 0 0],.bool false]) (by simp [results,Tryz.results132,go_sem,cko0,cko1,cko2,ckp0,ckp1,ckp2]) rfl ?_
     rw [HV.out.1,HV.out.2.1,HV.out.2.2]
     have hle1:w.heap.size ≤ w.heap.size+1:=by omega
     have hle2:w.heap.size ≤ w.heap.size+1+1:=by omega
     first | with_reducible exact newMQb_zero (below_set3 (below_set3 bbm hle1) hle2) | with_reducible exact newMQb_zero bbm
   | true =>
     have HV:=Lib.hid (EG.out rfl rfl)
     have z1:=b1.size
     have z2:=b2.size
     have zx:=alx.size
     have zy:=aly.size
     have zm:=alm.size
     have e1:(w1.alloc (.cells #[.bool X.1,.slice Ax X.2.length cx] 30)).heap.size = w1.heap.size+1:=by simp
     have e2:((w1.alloc (.cells #[.bool X.1,.slice Ax X.2.length cx] 30)).alloc (.cells #[.bool Y.1.1,.slice Ay Y.1.2.length cy,.slice By Y.2.length dy] 36)).heap.size = w1.heap.size+1+1:=by simp
     have hko:=HKO.out
     have hkp:=HKP.out
     have HW:=Lib.hid (newMQb_at (b:=true) (r:=w.heap.size+1) (p:=w.heap.size+1+1) om oy (B:=w.heap.size+3) (C:=w.heap.size+3) (fun i hi=>⟨by have:=(lx i (sm i hi)).1;simp at this;omega,om.lt i hi⟩) (fun i hi=>⟨by have:=(ly i hi).1;simp at this;omega,oy.lt i hi⟩) (fun i hi=>hap i (sm i hi)) (by omega) (by omega) (by omega) (by omega) (by omega) bbm)
     have hw1:w.heap.size+3 ≤ w1.heap.size:=by simp at z1;omega
     have hw2:w1.heap.size+2 ≤ w2.heap.size:=by rw [e2] at z2;omega
     have hn_w1_1:¬ w1.heap.size = w.heap.size+1:=by omega
     have hn_w1_1':¬ w.heap.size+1 = w1.heap.size:=by omega
     have hn_w1_2:¬ w1.heap.size = w.heap.size+1+1:=by omega
     have hn_w1_2':¬ w.heap.size+1+1 = w1.heap.size:=by omega
     have hn_w2_1:¬ w2.heap.size = w.heap.size+1:=by omega
     have hn_w2_1':¬ w.heap.size+1 = w2.heap.size:=by omega
     have hn_w2_2:¬ w2.heap.size = w.heap.size+1+1:=by omega
     have hn_w2_2':¬ w.heap.size+1+1 = w2.heap.size:=by omega
     have hn_y_1:¬ w1.heap.size+1 = w.heap.size+1:=by omega
     have hn_y_1':¬ w.heap.size+1 = w1.heap.size+1:=by omega
     have hn_y_2:¬ w1.heap.size+1 = w.heap.size+1+1:=by omega
     have hn_y_2':¬ w.heap.size+1+1 = w1.heap.size+1:=by omega
     rw [e1] at ky
     have cko0:=ko.here.cell 0 _ rfl
     have fko0:=Lib.frozen_of_heap ko.here 0
     have cko1:=ko.here.cell 1 _ rfl
     have fko1:=Lib.frozen_of_heap ko.here 1
     have cko2:=ko.here.cell 2 _ rfl
     have fko2:=Lib.frozen_of_heap ko.here 2
     have ckp0:=kp.here.cell 0 _ rfl
     have fkp0:=Lib.frozen_of_heap kp.here 0
     have ckp1:=kp.here.cell 1 _ rfl
     have fkp1:=Lib.frozen_of_heap kp.here 1
     have ckp2:=kp.here.cell 2 _ rfl
     have fkp2:=Lib.frozen_of_heap kp.here 2
     have ckm0:=km.here.cell 0 _ rfl
     have ckm1:=km.here.cell 1 _ rfl
     have ckm2:=km.here.cell 2 _ rfl
     have cky0:=ky.here.cell 0 _ rfl
     have cky1:=ky.here.cell 1 _ rfl
     have cky2:=ky.here.cell 2 _ rfl
     clear ox oy om ko kp kr kx ky km lx ly sm hap z1 z2 zx zy zm e1 e2 hko hkp hw1 hw2
     go_wp2_with fail
     go_region
     all_goals (go_wp2;refine bodyPost_ret (v:=.tuple #[.agg #[.string Q.1,.bool Q.2.1,.slice Am Q.2.2.length cm],.agg #[.bool Y.1.1,.slice Ay Y.1.2.length cy,.slice By Y.2.length dy],.bool true]) (by simp [results,Tryz.results132,go_sem,cko0,cko1,cko2,ckp0,ckp1,ckp2]) rfl ?_)
     all_goals (rw [HV.out.1,HV.out.2.1,HV.out.2.2];refine HW.out _ ?_;repeat (first | with_reducible exact Chg.refl _ _ | with_reducible refine Chg.drew1 ?_ | with_reducible refine Chg.setCell ?_ (by simp) _))
def SumSRel (t:TI) (q:ByteArray) (l:List MI) (A:Option Addr) (c sb:Nat) (w:World) (gv i:Value) (wr:World):Prop :=
 ∃ (k:Nat) (g:Bool) (s:QI) (Au:Option Addr) (cu:Nat) (Bu:Option Addr) (du:Nat) (S:List Nat),k ≤ l.length∧i = .int .i64 k∧gv = .bool g∧At [sb] (BoxAt sb #[.bool s.1.1,.slice Au s.1.2.length cu,.slice Bu s.2.length du] 36) wr∧At S (OwnQ (.agg #[.bool s.1.1,.slice Au s.1.2.length cu,.slice Bu s.2.length du]) s) wr∧Hid (∀ i ∈ S,w.heap.size+1+1 < i∧¬ i = sb)∧szQ s ≤ 1048576 ∧
   Hid (g = true→s = sumQ t q (l.take k))∧Hid (g = false→sumQ t q (l.take k) = zeroQ)∧Hid (∀ m ∈ l.take k,¬ howT t m.1 q = 0)∧At [w.heap.size] (BoxAt w.heap.size #[.string t.1,.slice A t.2.length c] 25) wr∧At [w.heap.size+1] (BoxAt (w.heap.size+1) #[.string ⟨#[]⟩,.bool false,.slice none 0 0] 32) wr∧At [w.heap.size+1+1] (BoxAt (w.heap.size+1+1) #[.bool false,.slice none 0 0,.slice none 0 0] 36) wr∧Below w.heap.size w wr
theorem none_hit {t:TI} {l:List MI} {q:ByteArray} {k:Nat} {x:MI} (hx:l[k]? = some x) (h:howT t x.1 q = 0):noneB t l q = true:=List.any_eq_true.2 ⟨x,List.mem_of_getElem? hx,decide_eq_true h⟩
theorem none_miss {t:TI} {l:List MI} {q:ByteArray} (h:∀ m ∈ l,¬ howT t m.1 q = 0):noneB t l q = false:=by
 rw [Bool.eq_false_iff]
 intro hh
 obtain ⟨m,hm,hp⟩:=List.any_eq_true.1 hh
 exact h m hm (of_decide_eq_true hp)
theorem all_bad {l:List MI} {k:Nat} {x:MI} (hx:l[k]? = some x) (h:okM x = false):l.all okM = false:=by
 rw [Bool.eq_false_iff]
 intro hh
 have:=List.all_eq_true.1 hh x (List.mem_of_getElem? hx)
 rw [h] at this
 cases this
theorem set3_boxS {g:Nat} {a b c c0 c1 c2:Value} {T:TypeId} {W:World} (h:BoxAt g #[c0,c1,c2] T W):BoxAt g #[a,b,c] T (((W.setCell ⟨g,0,none⟩ a).setCell ⟨g,1,none⟩ b).setCell ⟨g,2,none⟩ c):=by
 have h':W.heap[g]? = some (.cells #[c0,c1,c2] T (0,0)):=h
 simp [BoxAt,World.setCell,Array.getElem?_modify,h']
set_option maxHeartbeats 4000000 in
theorem specConvertSum_any (v vl:Value) (t:TI) (l:List MI) (q:ByteArray) (k:Int) (w:World) (hl:t.2.length ≤ 1099511627776) (hx:∀ x ∈ t.2,x.2.2.1.2.length ≤ 1048576) (hll:l.length ≤ 140737488355328) (hlx:∀ x ∈ l,szS x.2 ≤ 1048576) (h:OwnTR w v t) (hm:OwnMR w vl l) :
 Calls Tryz.prog 63 #[v,vl,.string q,.int .i64 k] w (PostMQn (cvM t l q k) (cvQ t l q k) (cvN t l q k) w):=by
 obtain ⟨AL,cL,rfl,hc⟩:=hm
 have HC:=Lib.hid hc
 clear hc
 have HLX:=Lib.hid hlx
 clear hlx
 obtain ⟨A,c,rfl,hr⟩:=ownTR_form h
 have HR:=Lib.hid (show ∀ W,Below w.heap.size w W→OwnER W (.slice A t.2.length c) t.2 from fun W h=>hr.below h)
 have HTR:=Lib.hid (show ∀ W,Below w.heap.size w W→OwnTR W (.agg #[.string t.1,.slice A t.2.length c]) t from fun W h=>⟨_,rfl,hr.below h⟩)
 clear h hr
 have bb0:Below w.heap.size w (((w.alloc (.cells #[.string t.1,.slice A t.2.length c] 25)).alloc (.cells #[.string ⟨#[]⟩,.bool false,.slice none 0 0] 32)).alloc (.cells #[.bool false,.slice none 0 0,.slice none 0 0] 36)):=below_al (below_al (below_al (Below.refl _ _) _) _) _
 have kt:=(box_new w #[.string t.1,.slice A t.2.length c] 25).below (below_al (below_al (Below.refl _ _) (.cells #[.string ⟨#[]⟩,.bool false,.slice none 0 0] 32)) (.cells #[.bool false,.slice none 0 0,.slice none 0 0] 36))
 have kM:=(box_new (w.alloc (.cells #[.string t.1,.slice A t.2.length c] 25)) #[.string ⟨#[]⟩,.bool false,.slice none 0 0] 32).below (below_al (Below.refl _ _) (.cells #[.bool false,.slice none 0 0,.slice none 0 0] 36))
 rw [show (w.alloc (.cells #[.string t.1,.slice A t.2.length c] 25)).heap.size = w.heap.size+1 by simp] at kM
 have kQ:=(box_new ((w.alloc (.cells #[.string t.1,.slice A t.2.length c] 25)).alloc (.cells #[.string ⟨#[]⟩,.bool false,.slice none 0 0] 32)) #[.bool false,.slice none 0 0,.slice none 0 0] 36)
 rw [show ((w.alloc (.cells #[.string t.1,.slice A t.2.length c] 25)).alloc (.cells #[.string ⟨#[]⟩,.bool false,.slice none 0 0] 32)).heap.size = w.heap.size+1+1 by simp] at kQ
 go_enter Tryz.func63,Tryz.ntmps63
 go_wp2
 go_loopw [26] (fun i wr=>∃ n:Nat,n ≤ l.length∧i = .int .i64 n∧Hid (∀ m ∈ l.take n,okM m = true)∧At [w.heap.size] (BoxAt w.heap.size #[.string t.1,.slice A t.2.length c] 25) wr∧At [w.heap.size+1] (BoxAt (w.heap.size+1) #[.string ⟨#[]⟩,.bool false,.slice none 0 0] 32) wr∧At [w.heap.size+1+1] (BoxAt (w.heap.size+1+1) #[.bool false,.slice none 0 0,.slice none 0 0] 36) wr∧Below w.heap.size w wr) (fun i _=>l.length - (intOf i).toNat)
 case atStart=>exact ⟨0,Nat.zero_le _,rfl,Lib.hid (fun m hm=>absurd hm (by simp)),kt,kM,kQ,bb0⟩
 case round =>
  clear kt kM kQ bb0
  obtain ⟨n,hn,rfl,HA,kt,kM,kQ,hb⟩:=hrel
  by_cases hlt:n < l.length
  ·skip
   obtain ⟨x,hxk⟩:∃ x,l[n]? = some x:=⟨_,List.getElem?_eq_getElem hlt⟩
   obtain ⟨a,ux,rfl,haa,hc0,hc1,hc2,hox⟩:=HC.out n x hxk
   have hzx:=HLX.out x (List.mem_of_getElem? hxk)
   have hlx:x.2.2.length ≤ 1048576:=by unfold szS szI at hzx;omega
   obtain ⟨Ax,cx,rfl⟩:=own_len hox
   have k0:=(cell_keep3' hb haa n).trans hc0
   have k1:=(cell_keep3 hb haa n 1).trans hc1
   have k2:=(cell_keep3 hb haa n 2).trans hc2
   have alx:=below_al (Below.refl wr.heap.size wr) (.cells #[.string x.1,.bool x.2.1,.slice Ax x.2.2.length cx] 32)
   have km:=box_new wr #[.string x.1,.bool x.2.1,.slice Ax x.2.2.length cx] 32
   have OX:=Lib.hid (show ∀ W,Below (wr.alloc (.cells #[.string x.1,.bool x.2.1,.slice Ax x.2.2.length cx] 32)).heap.size (wr.alloc (.cells #[.string x.1,.bool x.2.1,.slice Ax x.2.2.length cx] 32)) W→OwnM (.agg #[.string x.1,.bool x.2.1,.slice Ax x.2.2.length cx]) x W from fun W h=>OwnM.below (OwnM.below (OwnM.below (⟨_,rfl,hox⟩:OwnM (.agg #[.string x.1,.bool x.2.1,.slice Ax x.2.2.length cx]) x w) hb) alx) h)
   have HXK:=Lib.hid hxk
   have bbx:=Below.next hb alx
   replace kt:=kt.below alx
   replace kM:=kM.below alx
   replace kQ:=kQ.below alx
   clear hc0 hc1 hc2 hox hxk haa
   have km_c0:=km.here.cell 0 _ rfl
   have km_c1:=km.here.cell 1 _ rfl
   have km_c2:=km.here.cell 2 _ rfl
   go_wp2_with fail
   clear km_c0 km_c1 km_c2
   refine (specMoneyOk_any _ x _ hlx (OX.out _ (Below.refl _ _))).mono ?_
   rintro e w1 ⟨rfl,b1⟩
   clear k0 k1 k2
   have bb1:=Below.next bbx b1
   replace kt:=kt.below b1
   replace kM:=kM.below b1
   replace kQ:=kQ.below b1
   replace km:=km.below b1
   obtain ⟨ok1,hok1⟩:∃ b,okM x = b:=⟨_,rfl⟩
   rw [hok1]
   have HOK1:=Lib.hid hok1
   clear hok1
   cases ok1 with
   | false =>
     have HV:=Lib.hid (show cvM t l q k = zeroM∧cvQ t l q k = zeroQ∧cvN t l q k = 1 from cv_form (form_bad (.inr (.inr (.inr (all_bad HXK.out HOK1.out))))))
     have HW:=Lib.hid (newMQn_zeroC (n:=1) (T:=[w.heap.size+1,w.heap.size+1+1]) (fun i hi=>by simp at hi;omega) bb1)
     have ckM0:=kM.here.cell 0 _ rfl
     have fkM0:=Lib.frozen_of_heap kM.here 0
     have ckM1:=kM.here.cell 1 _ rfl
     have fkM1:=Lib.frozen_of_heap kM.here 1
     have ckM2:=kM.here.cell 2 _ rfl
     have fkM2:=Lib.frozen_of_heap kM.here 2
     have ckQ0:=kQ.here.cell 0 _ rfl
     have fkQ0:=Lib.frozen_of_heap kQ.here 0
     have ckQ1:=kQ.here.cell 1 _ rfl
     have fkQ1:=Lib.frozen_of_heap kQ.here 1
     have ckQ2:=kQ.here.cell 2 _ rfl
     have fkQ2:=Lib.frozen_of_heap kQ.here 2
     clear kM kQ kt km hb alx bbx
     go_wp2
     refine bodyPost_ret (v:=.tuple #[.agg #[.string ⟨#[]⟩,.bool false,.slice none 0 0],.agg #[.bool false,.slice none 0 0,.slice none 0 0],.int .i64 1]) (by simp [results,Tryz.results63,go_sem,ckM0,ckM1,ckM2,ckQ0,ckQ1,ckQ2]) rfl ?_
     rw [HV.out.1,HV.out.2.1,HV.out.2.2]
     refine HW.out _ ?_
     repeat (first | with_reducible exact Chg.refl _ _ | with_reducible refine Chg.drew1 ?_ | with_reducible refine Chg.setCell ?_ (by simp) _)
   | true =>
     have HA2:=Lib.hid (show ∀ m ∈ l.take (n+1),okM m = true from fun m hm=>by
      rw [take_snocM HXK.out] at hm
      rcases List.mem_append.1 hm with hm | hm
      ·exact HA.out m hm
      ·rw [List.mem_singleton.1 hm];exact HOK1.out)
     have KK:=Lib.hid (⟨kt,kM,kQ,bb1⟩:_∧_∧_∧_)
     clear kt kM kQ km hb alx bbx
     go_wp2
     exact ⟨⟨n+1,by omega,by go_num,HA2,KK.out.1,KK.out.2.1,KK.out.2.2.1,KK.out.2.2.2⟩,by simp [intOf];omega⟩
  ·obtain rfl:n = l.length:=by omega
   have HALL:=Lib.hid (show l.all okM = true from List.all_eq_true.2 (by have:=HA.out;rw [List.take_length] at this;exact this))
   clear HA hlt hn
   have hz0:=kQ.lt (w.heap.size+1+1) (by simp)
   have kt_c0:=kt.here.cell 0 _ rfl
   have kt_c1:=kt.here.cell 1 _ rfl
   go_wp2_with fail
   clear kt_c0 kt_c1
   refine (specl11Form_any _ t q k _ hl hx (HTR.out _ hb)).mono ?_
   rintro e w1 ⟨rfl,b1⟩
   have hz1:=b1.size
   have bb1:=Below.next hb b1
   replace kt:=kt.below b1
   replace kM:=kM.below b1
   replace kQ:=kQ.below b1
   obtain ⟨ok2,hok2⟩:∃ b,(okT t && (knownC q && modeB k)) = b:=⟨_,rfl⟩
   rw [hok2]
   have HOK2:=Lib.hid hok2
   clear hok2
   cases ok2 with
   | false =>
     have HV:=Lib.hid (show cvM t l q k = zeroM∧cvQ t l q k = zeroQ∧cvN t l q k = 1 from cv_form (show formB t l q k = false by unfold formB;rw [HOK2.out,Bool.and_false]))
     have HW:=Lib.hid (newMQn_zeroC (n:=1) (T:=[w.heap.size+1,w.heap.size+1+1]) (fun i hi=>by simp at hi;omega) bb1)
     have ckM0:=kM.here.cell 0 _ rfl
     have fkM0:=Lib.frozen_of_heap kM.here 0
     have ckM1:=kM.here.cell 1 _ rfl
     have fkM1:=Lib.frozen_of_heap kM.here 1
     have ckM2:=kM.here.cell 2 _ rfl
     have fkM2:=Lib.frozen_of_heap kM.here 2
     have ckQ0:=kQ.here.cell 0 _ rfl
     have fkQ0:=Lib.frozen_of_heap kQ.here 0
     have ckQ1:=kQ.here.cell 1 _ rfl
     have fkQ1:=Lib.frozen_of_heap kQ.here 1
     have ckQ2:=kQ.here.cell 2 _ rfl
     have fkQ2:=Lib.frozen_of_heap kQ.here 2
     clear kM kQ kt hb b1
     go_wp2
     refine bodyPost_ret (v:=.tuple #[.agg #[.string ⟨#[]⟩,.bool false,.slice none 0 0],.agg #[.bool false,.slice none 0 0,.slice none 0 0],.int .i64 1]) (by simp [results,Tryz.results63,go_sem,ckM0,ckM1,ckM2,ckQ0,ckQ1,ckQ2]) rfl ?_
     rw [HV.out.1,HV.out.2.1,HV.out.2.2]
     refine HW.out _ ?_
     repeat (first | with_reducible exact Chg.refl _ _ | with_reducible refine Chg.drew1 ?_ | with_reducible refine Chg.setCell ?_ (by simp) _)
   | true =>
     have HF:=Lib.hid (show formB t l q k = true by unfold formB;rw [HOK2.out,HALL.out];rfl)
     go_wp2_with fail
     refine (specRatZero_any _).mono ?_
     rintro e w2 ⟨u2,S2,rfl,o2,l2,b2⟩
     obtain ⟨A2,c2,B2,d2,rfl⟩:=ownQ_form o2.here
     have hz2:=b2.size
     have bb2:=Below.next bb1 b2
     replace kt:=kt.below b2
     replace kM:=kM.below b2
     replace kQ:=kQ.below b2
     have ks:=box_new (w2) #[.bool oneQ.1.1,.slice A2 oneQ.1.2.length c2,.slice B2 oneQ.2.length d2] 36
     have als:=below_al (Below.refl (w2).heap.size (w2)) (.cells #[.bool oneQ.1.1,.slice A2 oneQ.1.2.length c2,.slice B2 oneQ.2.length d2] 36)
     have bbs:=Below.next bb2 als
     replace kt:=kt.below als
     replace kM:=kM.below als
     replace kQ:=kQ.below als
     replace o2:=o2.below als
     have hsb:w.heap.size+1+1 < w2.heap.size:=by omega
     have HREL:=Lib.hid (show SumSRel t q l A c w2.heap.size w (.bool true) (.int .i64 0) _ from ⟨0,true,oneQ,A2,c2,B2,d2,S2,Nat.zero_le _,rfl,rfl,ks,o2,Lib.hid (fun i hi=>by have h1:=(l2 i hi).1;have h2:=(l2 i hi).2;omega),by decide,Lib.hid (fun _=>rfl),Lib.hid (fun h=>by cases h),Lib.hid (fun m hm=>absurd hm (by simp)),kt,kM,kQ,bbs⟩)
     clear kt kM kQ ks o2 l2 b1 b2 hb als bb1 bb2 bbs hz1 hz2 hz0
     generalize hsbE:w2.heap.size = sb at *
     go_wp2
     go_loopw [14,46] (fun gv i wr=>SumSRel t q l A c sb w gv i wr) (fun _ i _=>l.length - (intOf i).toNat)
     case atStart=>exact HREL.out
     case round =>
      clear HREL hsbE
      obtain ⟨n,gd,s,Au,cu,Bu,du,S,hn,rfl,rfl,ks,os,HSL,hzs,HG,HB,HN,kt,kM,kQ,hb⟩:=hrel
      by_cases hlt:n < l.length
      ·skip
       have hsl:=ks.lt sb (by simp)
       obtain ⟨x,hxk⟩:∃ x,l[n]? = some x:=⟨_,List.getElem?_eq_getElem hlt⟩
       obtain ⟨a,ux,rfl,haa,hc0,hc1,hc2,hox⟩:=HC.out n x hxk
       have hzx:=HLX.out x (List.mem_of_getElem? hxk)
       have hlx:x.2.2.length ≤ 1048576:=by unfold szS szI at hzx;omega
       obtain ⟨Ax,cx,rfl⟩:=own_len hox
       have k0:=(cell_keep3' hb haa n).trans hc0
       have k1:=(cell_keep3 hb haa n 1).trans hc1
       have k2:=(cell_keep3 hb haa n 2).trans hc2
       have alx:=below_al (Below.refl wr.heap.size wr) (.cells #[.string x.1,.bool x.2.1,.slice Ax x.2.2.length cx] 32)
       have km:=box_new wr #[.string x.1,.bool x.2.1,.slice Ax x.2.2.length cx] 32
       have OX:=Lib.hid (show ∀ W,Below (wr.alloc (.cells #[.string x.1,.bool x.2.1,.slice Ax x.2.2.length cx] 32)).heap.size (wr.alloc (.cells #[.string x.1,.bool x.2.1,.slice Ax x.2.2.length cx] 32)) W→OwnM (.agg #[.string x.1,.bool x.2.1,.slice Ax x.2.2.length cx]) x W from fun W h=>OwnM.below (OwnM.below (OwnM.below (⟨_,rfl,hox⟩:OwnM (.agg #[.string x.1,.bool x.2.1,.slice Ax x.2.2.length cx]) x w) hb) alx) h)
       have HXK:=Lib.hid hxk
       have bbx:=Below.next hb alx
       replace kt:=kt.below alx
       replace kM:=kM.below alx
       replace kQ:=kQ.below alx
       replace ks:=ks.below alx
       replace os:=os.below alx
       clear hc0 hc1 hc2 hox hxk haa
       have kt_c0:=kt.here.cell 0 _ rfl
       have kt_c1:=kt.here.cell 1 _ rfl
       have km_c0:=km.here.cell 0 _ rfl
       have km_c1:=km.here.cell 1 _ rfl
       have km_c2:=km.here.cell 2 _ rfl
       go_wp2_with fail
       clear kt_c0 kt_c1 km_c0 km_c1 km_c2
       refine (specRateHow_any _ t x.1 q _ hl hx (HTR.out _ bbx)).mono ?_
       rintro e w1 ⟨rfl,b1⟩
       clear k0 k1 k2
       have hz1:sb < w1.heap.size:=by have:=b1.size;simp at this;omega
       have bb1:=Below.next bbx b1
       replace kt:=kt.below b1
       replace kM:=kM.below b1
       replace kQ:=kQ.below b1
       replace ks:=ks.below b1
       replace os:=os.below b1
       replace km:=km.below b1
       obtain ⟨z,hz⟩:∃ z,howT t x.1 q = z:=⟨_,rfl⟩
       rw [hz]
       have HZZ:=Lib.hid hz
       clear hz
       by_cases hz0:z = 0
       ·subst hz0
        have HV:=Lib.hid (show cvM t l q k = zeroM∧cvQ t l q k = zeroQ∧cvN t l q k = 2 from cv_rate HF.out (none_hit HXK.out HZZ.out))
        have HW:=Lib.hid (newMQn_zeroC (n:=2) (T:=[w.heap.size+1,w.heap.size+1+1]) (fun i hi=>by simp at hi;omega) bb1)
        have ckM0:=kM.here.cell 0 _ rfl
        have fkM0:=Lib.frozen_of_heap kM.here 0
        have ckM1:=kM.here.cell 1 _ rfl
        have fkM1:=Lib.frozen_of_heap kM.here 1
        have ckM2:=kM.here.cell 2 _ rfl
        have fkM2:=Lib.frozen_of_heap kM.here 2
        have ckQ0:=kQ.here.cell 0 _ rfl
        have fkQ0:=Lib.frozen_of_heap kQ.here 0
        have ckQ1:=kQ.here.cell 1 _ rfl
        have fkQ1:=Lib.frozen_of_heap kQ.here 1
        have ckQ2:=kQ.here.cell 2 _ rfl
        have fkQ2:=Lib.frozen_of_heap kQ.here 2
        clear kM kQ kt km ks os hb alx bbx
        go_wp2
        refine bodyPost_ret (v:=.tuple #[.agg #[.string ⟨#[]⟩,.bool false,.slice none 0 0],.agg #[.bool false,.slice none 0 0,.slice none 0 0],.int .i64 2]) (by simp [results,Tryz.results63,go_sem,ckM0,ckM1,ckM2,ckQ0,ckQ1,ckQ2]) rfl ?_
        rw [HV.out.1,HV.out.2.1,HV.out.2.2]
        refine HW.out _ ?_
        repeat (first | with_reducible exact Chg.refl _ _ | with_reducible refine Chg.drew1 ?_ | with_reducible refine Chg.setCell ?_ (by simp) _)
       ·have hz1b:(z == (0:Int)) = false:=by simpa using hz0
        have HN2:=Lib.hid (show ∀ m ∈ l.take (n+1),¬ howT t m.1 q = 0 from fun m hm=>by
         rw [take_snocM HXK.out] at hm
         rcases List.mem_append.1 hm with hm | hm
         ·exact HN.out m hm
         ·rw [List.mem_singleton.1 hm,HZZ.out];exact hz0)
        clear hz0 HN
        obtain ⟨⟨X,xb⟩,hHX⟩:∃ r,exactR t x q = r:=⟨_,rfl⟩
        have HX:=Lib.hid hHX
        have hsX:szQ X ≤ 1048576:=by have:=exactR_sz t x q;rw [hHX] at this;exact this
        have HXN:=Lib.hid (show xb = false→X = zeroQ from fun h=>by have:=exactR_no (t:=t) (m:=x) (c:=q) (by rw [hHX,h];exact Bool.false_ne_true);rw [hHX] at this;exact this)
        have HSN:=Lib.hid (show sumQ t q (l.take (n+1)) = (addQ (sumQ t q (l.take n)) X).1 by rw [take_snocM HXK.out,sumQ_snoc,hHX])
        clear hHX
        have kt_c0:=kt.here.cell 0 _ rfl
        have kt_c1:=kt.here.cell 1 _ rfl
        have km_c0:=km.here.cell 0 _ rfl
        have km_c1:=km.here.cell 1 _ rfl
        have km_c2:=km.here.cell 2 _ rfl
        go_wp2_with fail
        clear kt_c0 kt_c1 km_c0 km_c1 km_c2
        refine ((specExact_any _ _ t x q _ hl hx hzx (HTR.out _ bb1) (OX.out _ b1)).mono fun _ _ h=>postQb_isC HX.out h).mono ?_
        rintro e w2 ⟨u2,S2,rfl,o2,l2,b2⟩
        obtain ⟨A2,c2,B2,d2,rfl⟩:=ownQ_form o2.here
        clear hz1b
        have hz2:sb < w2.heap.size:=by have:=b2.size;omega
        have bb2:=Below.next bb1 b2
        replace kt:=kt.below b2
        replace kM:=kM.below b2
        replace kQ:=kQ.below b2
        replace ks:=ks.below b2
        replace os:=os.below b2
        replace km:=km.below b2
        have kx:=box_new (w2) #[.bool X.1.1,.slice A2 X.1.2.length c2,.slice B2 X.2.length d2] 36
        have alx:=below_al (Below.refl (w2).heap.size (w2)) (.cells #[.bool X.1.1,.slice A2 X.1.2.length c2,.slice B2 X.2.length d2] 36)
        have bbx:=Below.next bb2 alx
        replace kt:=kt.below alx
        replace kM:=kM.below alx
        replace kQ:=kQ.below alx
        replace ks:=ks.below alx
        replace os:=os.below alx
        replace km:=km.below alx
        replace o2:=o2.below alx
        clear km
        obtain ⟨⟨Y,yb⟩,hHY⟩:∃ r,addQ s X = r:=⟨_,rfl⟩
        have HY:=Lib.hid hHY
        have hsY:szQ Y ≤ 1048576:=by have:=addQ_szC s X;rw [hHY] at this;exact this
        have HYN:=Lib.hid (show yb = false→Y = zeroQ from fun h=>by have:=addQ_no (r:=s) (s:=X) (by rw [hHY];exact h);rw [hHY] at this;exact this)
        clear hHY
        have ks_c0:=ks.here.cell 0 _ rfl
        have ks_c1:=ks.here.cell 1 _ rfl
        have ks_c2:=ks.here.cell 2 _ rfl
        have kx_c0:=kx.here.cell 0 _ rfl
        have kx_c1:=kx.here.cell 1 _ rfl
        have kx_c2:=kx.here.cell 2 _ rfl
        go_wp2_with fail
        clear ks_c0 ks_c1 ks_c2 kx_c0 kx_c1 kx_c2
        refine ((specRatAdd_any _ _ s X _ hzs hsX os.here o2.here).mono fun _ _ h=>postQb_isC HY.out h).mono ?_
        rintro e w3 ⟨u3,S3,rfl,o3,l3,b3⟩
        obtain ⟨A3,c3,B3,d3,rfl⟩:=ownQ_form o3.here
        have hz3:sb < w3.heap.size:=by have:=b3.size;simp at this;omega
        have bb3:=Below.next bbx b3
        replace kt:=kt.below b3
        replace kM:=kM.below b3
        replace kQ:=kQ.below b3
        replace ks:=ks.below b3
        replace os:=os.below b3
        replace o2:=o2.below b3
        replace kx:=kx.below b3
        clear kx o2
        have HL3:=Lib.hid (show ∀ i ∈ S3,sb < i from fun i hi=>by have:=(l3 i hi).1;simp at this;omega)
        clear l3 l2
        go_upto_region 18 with fail
        have al4:Below w3.heap.size w3 (w3.alloc (.cells #[.bool Y.1.1,.slice A3 Y.1.2.length c3,.slice B3 Y.2.length d3] 36)):=below_al (Below.refl _ _) _
        have ky:=(box_new w3 #[.bool Y.1.1,.slice A3 Y.1.2.length c3,.slice B3 Y.2.length d3] 36)
        have bb4:=Below.next bb3 al4
        replace kt:=kt.below al4
        replace kM:=kM.below al4
        replace kQ:=kQ.below al4
        replace ks:=ks.below al4
        replace os:=os.below al4
        replace o3:=o3.below al4
        obtain ⟨w4,hw4⟩:∃ W,W = (w3.alloc (.cells #[.bool Y.1.1,.slice A3 Y.1.2.length c3,.slice B3 Y.2.length d3] 36)):=⟨_,rfl⟩
        rw [← hw4] at ky kt kM kQ ks os o3 bb4 ⊢
        clear hw4 al4
        cases gd with
        | false =>
          have KK:=Lib.hid (⟨kt,kM,kQ,bb4⟩:_∧_∧_∧_)
          have HREL:=Lib.hid (show SumSRel t q l A c sb w (.bool false) (.int .i64 ((n:Int)+1)) _ from ⟨n+1,false,s,Au,cu,Bu,du,S,by omega,by go_num,rfl,ks,os,HSL,hzs,Lib.hid (fun h=>by cases h),Lib.hid (fun _=>by rw [HSN.out,HB.out rfl,addQ_zl]),HN2,KK.out.1,KK.out.2.1,KK.out.2.2.1,KK.out.2.2.2⟩)
          clear kt kM kQ ks os ky o3 KK hb alx bbx
          go_wp2
          exact ⟨HREL.out,by simp [intOf];omega⟩
        | true =>
          have HG1:=Lib.hid (HG.out rfl)
          cases xb with
          | false =>
            have KK:=Lib.hid (⟨kt,kM,kQ,bb4⟩:_∧_∧_∧_)
            have HREL:=Lib.hid (show SumSRel t q l A c sb w (.bool false) (.int .i64 ((n:Int)+1)) _ from ⟨n+1,false,s,Au,cu,Bu,du,S,by omega,by go_num,rfl,ks,os,HSL,hzs,Lib.hid (fun h=>by cases h),Lib.hid (fun _=>by rw [HSN.out,HXN.out rfl,addQ_zr]),HN2,KK.out.1,KK.out.2.1,KK.out.2.2.1,KK.out.2.2.2⟩)
            clear kt kM kQ ks os ky o3 KK hb alx bbx
            go_wp2
            exact ⟨HREL.out,by simp [intOf];omega⟩
          | true =>
            cases yb with
            | false =>
              have KK:=Lib.hid (⟨kt,kM,kQ,bb4⟩:_∧_∧_∧_)
              have HREL:=Lib.hid (show SumSRel t q l A c sb w (.bool false) (.int .i64 ((n:Int)+1)) _ from ⟨n+1,false,s,Au,cu,Bu,du,S,by omega,by go_num,rfl,ks,os,HSL,hzs,Lib.hid (fun h=>by cases h),Lib.hid (fun _=>by rw [HSN.out,← HG1.out,HY.out];exact HYN.out rfl),HN2,KK.out.1,KK.out.2.1,KK.out.2.2.1,KK.out.2.2.2⟩)
              clear kt kM kQ ks os ky o3 KK hb alx bbx
              go_wp2
              exact ⟨HREL.out,by simp [intOf];omega⟩
            | true =>
              have hc:Chg [sb] w4 (((w4.setCell ⟨sb,0,none⟩ (.bool Y.1.1)).setCell ⟨sb,1,none⟩ (.slice A3 Y.1.2.length c3)).setCell ⟨sb,2,none⟩ (.slice B3 Y.2.length d3)):=(((Chg.refl _ _).setCell (by simp) _).setCell (by simp) _).setCell (by simp) _
              have KK:=Lib.hid (⟨kt.chg hc (fun i hi hm=>by simp at hi hm;omega),kM.chg hc (fun i hi hm=>by simp at hi hm;omega),kQ.chg hc (fun i hi hm=>by simp at hi hm;omega),below_chg bb4 hc bb4.size (fun i hi=>by simp at hi;omega)⟩:_∧_∧_∧_)
              have HREL:=Lib.hid (show SumSRel t q l A c sb w (.bool true) (.int .i64 ((n:Int)+1)) _ from ⟨n+1,true,Y,A3,c3,B3,d3,S3,by omega,by go_num,rfl,box_at (set3_boxS ks.here),o3.chg hc (fun i hi hm=>by have:=HL3.out i hi;simp at hm;omega),Lib.hid (fun i hi=>by have:=HL3.out i hi;omega),hsY,Lib.hid (fun _=>by rw [HSN.out,← HG1.out,HY.out]),Lib.hid (fun h=>by cases h),HN2,KK.out.1,KK.out.2.1,KK.out.2.2.1,KK.out.2.2.2⟩)
              have cks0:=ks.here.cell 0 _ rfl
              have fks0:=Lib.frozen_of_heap ks.here 0
              have cks1:=ks.here.cell 1 _ rfl
              have fks1:=Lib.frozen_of_heap ks.here 1
              have cks2:=ks.here.cell 2 _ rfl
              have fks2:=Lib.frozen_of_heap ks.here 2
              have cky0:=ky.here.cell 0 _ rfl
              have cky1:=ky.here.cell 1 _ rfl
              have cky2:=ky.here.cell 2 _ rfl
              clear kt kM kQ ks os ky o3 KK hb alx bbx hc
              go_wp2
              exact ⟨HREL.out,by simp [intOf];omega⟩
      ·obtain rfl:n = l.length:=by omega
       have HNB:=Lib.hid (none_miss (t:=t) (q:=q) (by have:=HN.out;rw [List.take_length] at this;exact this))
       rw [List.take_length] at HG HB
       clear HN hlt hn
       have hz0:=kQ.lt (w.heap.size+1+1) (by simp)
       obtain ⟨R,hR⟩:∃ R,rmM q s k = R:=⟨_,rfl⟩
       obtain ⟨Q,hQ⟩:∃ Q,rmQ q s k = Q:=⟨_,rfl⟩
       obtain ⟨r,hr2⟩:∃ r,rmB q s k = r:=⟨_,rfl⟩
       have ER:=Lib.hid hR
       have EQ:=Lib.hid hQ
       have EB:=Lib.hid hr2
       clear hR hQ hr2
       have ks_c0:=ks.here.cell 0 _ rfl
       have ks_c1:=ks.here.cell 1 _ rfl
       have ks_c2:=ks.here.cell 2 _ rfl
       go_wp2_with fail
       clear ks_c0 ks_c1 ks_c2
       refine ((specRatMoney_any q _ s k _ hzs os.here).mono fun _ _ h=>postMQb_is3 ER.out EQ.out EB.out h).mono ?_
       rintro e w1 ⟨u3,x3,S3,T3,rfl,o3,q3,ap3,l3,k3,b1⟩
       obtain ⟨A3,c3,rfl⟩:=ownM_form o3.here
       obtain ⟨A4,c4,B4,d4,rfl⟩:=ownQ_form q3.here
       have hz1:w.heap.size+3 ≤ w1.heap.size:=by have:=b1.size;omega
       have bb1:=Below.next hb b1
       replace kt:=kt.below b1
       replace kM:=kM.below b1
       replace kQ:=kQ.below b1
       replace ks:=ks.below b1
       replace os:=os.below b1
       clear ks os kt
       have HLS:=Lib.hid (show ∀ i ∈ S3,w.heap.size+1+1 < i from fun i hi=>by have:=(l3 i hi).1;omega)
       have HLT:=Lib.hid (show ∀ i ∈ T3,w.heap.size+1+1 < i from fun i hi=>by have:=(k3 i hi).1;omega)
       have HAP:=Lib.hid ap3
       clear l3 k3 ap3
       go_upto_region 23 with fail
       have al2:Below w1.heap.size w1 ((w1.alloc (.cells #[.string R.1,.bool R.2.1,.slice A3 R.2.2.length c3] 32)).alloc (.cells #[.bool Q.1.1,.slice A4 Q.1.2.length c4,.slice B4 Q.2.length d4] 36)):=Below.next (below_al (Below.refl _ _) _) (below_al (Below.refl _ _) _)
       have km:=(box_new w1 #[.string R.1,.bool R.2.1,.slice A3 R.2.2.length c3] 32).below (below_al (Below.refl _ _) (.cells #[.bool Q.1.1,.slice A4 Q.1.2.length c4,.slice B4 Q.2.length d4] 36))
       have ky:=(box_new (w1.alloc (.cells #[.string R.1,.bool R.2.1,.slice A3 R.2.2.length c3] 32)) #[.bool Q.1.1,.slice A4 Q.1.2.length c4,.slice B4 Q.2.length d4] 36)
       rw [show (w1.alloc (.cells #[.string R.1,.bool R.2.1,.slice A3 R.2.2.length c3] 32)).heap.size = w1.heap.size+1 by simp] at ky
       have bb2:=Below.next bb1 al2
       replace kM:=kM.below al2
       replace kQ:=kQ.below al2
       replace o3:=o3.below al2
       replace q3:=q3.below al2
       obtain ⟨w2,hw2⟩:∃ W,W = ((w1.alloc (.cells #[.string R.1,.bool R.2.1,.slice A3 R.2.2.length c3] 32)).alloc (.cells #[.bool Q.1.1,.slice A4 Q.1.2.length c4,.slice B4 Q.2.length d4] 36)):=⟨_,rfl⟩
       rw [← hw2] at km ky kM kQ o3 q3 bb2 ⊢
       clear hw2 al2
       cases gd with
       | false =>
         have HV:=Lib.hid (show cvM t l q k = zeroM∧cvQ t l q k = zeroQ∧cvN t l q k = 3 from cv_large HF.out HNB.out (by rw [HB.out rfl,rmB_zero]))
         have HW:=Lib.hid (newMQn_zeroC (n:=3) (T:=[w.heap.size+1,w.heap.size+1+1]) (fun i hi=>by simp at hi;omega) bb2)
         have ckM0:=kM.here.cell 0 _ rfl
         have fkM0:=Lib.frozen_of_heap kM.here 0
         have ckM1:=kM.here.cell 1 _ rfl
         have fkM1:=Lib.frozen_of_heap kM.here 1
         have ckM2:=kM.here.cell 2 _ rfl
         have fkM2:=Lib.frozen_of_heap kM.here 2
         have ckQ0:=kQ.here.cell 0 _ rfl
         have fkQ0:=Lib.frozen_of_heap kQ.here 0
         have ckQ1:=kQ.here.cell 1 _ rfl
         have fkQ1:=Lib.frozen_of_heap kQ.here 1
         have ckQ2:=kQ.here.cell 2 _ rfl
         have fkQ2:=Lib.frozen_of_heap kQ.here 2
         clear kM kQ km ky o3 q3 hb b1
         go_wp2
         refine bodyPost_ret (v:=.tuple #[.agg #[.string ⟨#[]⟩,.bool false,.slice none 0 0],.agg #[.bool false,.slice none 0 0,.slice none 0 0],.int .i64 3]) (by simp [results,Tryz.results63,go_sem,ckM0,ckM1,ckM2,ckQ0,ckQ1,ckQ2]) rfl ?_
         rw [HV.out.1,HV.out.2.1,HV.out.2.2]
         refine HW.out _ ?_
         repeat (first | with_reducible exact Chg.refl _ _ | with_reducible refine Chg.drew1 ?_ | with_reducible refine Chg.setCell ?_ (by simp) _)
       | true =>
         have HG1:=Lib.hid (HG.out rfl)
         cases r with
         | false =>
           have HV:=Lib.hid (show cvM t l q k = zeroM∧cvQ t l q k = zeroQ∧cvN t l q k = 3 from cv_large HF.out HNB.out (by rw [← HG1.out];exact EB.out))
           have HW:=Lib.hid (newMQn_zeroC (n:=3) (T:=[w.heap.size+1,w.heap.size+1+1]) (fun i hi=>by simp at hi;omega) bb2)
           have ckM0:=kM.here.cell 0 _ rfl
           have fkM0:=Lib.frozen_of_heap kM.here 0
           have ckM1:=kM.here.cell 1 _ rfl
           have fkM1:=Lib.frozen_of_heap kM.here 1
           have ckM2:=kM.here.cell 2 _ rfl
           have fkM2:=Lib.frozen_of_heap kM.here 2
           have ckQ0:=kQ.here.cell 0 _ rfl
           have fkQ0:=Lib.frozen_of_heap kQ.here 0
           have ckQ1:=kQ.here.cell 1 _ rfl
           have fkQ1:=Lib.frozen_of_heap kQ.here 1
           have ckQ2:=kQ.here.cell 2 _ rfl
           have fkQ2:=Lib.frozen_of_heap kQ.here 2
           clear kM kQ km ky o3 q3 hb b1
           go_wp2
           refine bodyPost_ret (v:=.tuple #[.agg #[.string ⟨#[]⟩,.bool false,.slice none 0 0],.agg #[.bool false,.slice none 0 0,.slice none 0 0],.int .i64 3]) (by simp [results,Tryz.results63,go_sem,ckM0,ckM1,ckM2,ckQ0,ckQ1,ckQ2]) rfl ?_
           rw [HV.out.1,HV.out.2.1,HV.out.2.2]
           refine HW.out _ ?_
           repeat (first | with_reducible exact Chg.refl _ _ | with_reducible refine Chg.drew1 ?_ | with_reducible refine Chg.setCell ?_ (by simp) _)
         | true =>
           have HV:=Lib.hid (cv_good HF.out HNB.out (by rw [← HG1.out];exact EB.out))
           have HW:=Lib.hid (newMQn_chgC (R2:=0) (T:=[w.heap.size+1,w.heap.size+1+1]) o3 q3 HAP.out (fun i hi hm=>by have:=HLS.out i hi;simp at hm;omega) (fun i hi hm=>by have:=HLT.out i hi;simp at hm;omega) (fun i hi=>by simp at hi;omega) (fun i hi=>by have:=HLS.out i hi;omega) (fun i hi=>by have:=HLT.out i hi;omega) bb2)
           have ckM0:=kM.here.cell 0 _ rfl
           have fkM0:=Lib.frozen_of_heap kM.here 0
           have ckM1:=kM.here.cell 1 _ rfl
           have fkM1:=Lib.frozen_of_heap kM.here 1
           have ckM2:=kM.here.cell 2 _ rfl
           have fkM2:=Lib.frozen_of_heap kM.here 2
           have ckQ0:=kQ.here.cell 0 _ rfl
           have fkQ0:=Lib.frozen_of_heap kQ.here 0
           have ckQ1:=kQ.here.cell 1 _ rfl
           have fkQ1:=Lib.frozen_of_heap kQ.here 1
           have ckQ2:=kQ.here.cell 2 _ rfl
           have fkQ2:=Lib.frozen_of_heap kQ.here 2
           have ckm0:=km.here.cell 0 _ rfl
           have ckm1:=km.here.cell 1 _ rfl
           have ckm2:=km.here.cell 2 _ rfl
           have cky0:=ky.here.cell 0 _ rfl
           have cky1:=ky.here.cell 1 _ rfl
           have cky2:=ky.here.cell 2 _ rfl
           have hn1:¬ w1.heap.size = w.heap.size+1:=by omega
           have hn1':¬ w.heap.size+1 = w1.heap.size:=by omega
           have hn2:¬ w1.heap.size = w.heap.size+1+1:=by omega
           have hn2':¬ w.heap.size+1+1 = w1.heap.size:=by omega
           have hn3:¬ w1.heap.size+1 = w.heap.size+1:=by omega
           have hn3':¬ w.heap.size+1 = w1.heap.size+1:=by omega
           have hn4:¬ w1.heap.size+1 = w.heap.size+1+1:=by omega
           have hn4':¬ w.heap.size+1+1 = w1.heap.size+1:=by omega
           clear kM kQ km ky o3 q3 hb b1
           go_wp2_with fail
           go_region
           all_goals
            go_wp2
            refine bodyPost_ret (v:=.tuple #[.agg #[.string R.1,.bool R.2.1,.slice A3 R.2.2.length c3],.agg #[.bool Q.1.1,.slice A4 Q.1.2.length c4,.slice B4 Q.2.length d4],.int .i64 0]) (by simp [results,Tryz.results63,go_sem,ckM0,ckM1,ckM2,ckQ0,ckQ1,ckQ2]) rfl ?_
            rw [HV.out.1,HV.out.2.1,HV.out.2.2,← HG1.out,ER.out,EQ.out]
            refine HW.out _ ?_
            repeat (first | with_reducible exact Chg.refl _ _ | with_reducible refine Chg.drew1 ?_ | with_reducible refine Chg.setCell ?_ (by simp) _)
def RowPostb (r:CR) (b:Bool) (w:World) (e:Ending) (w':World):Prop:=e = .returned (.tuple #[.agg #[.string r.1,.string r.2.1,.int .i64 r.2.2.1,.int .i64 r.2.2.2],.bool b])∧Below w.heap.size w w'
theorem knownI {r:CR} (h:r ∈ implT):knownC r.1 = true:=List.any_eq_true.2 ⟨r.1,List.mem_map_of_mem (implT_sub r h),decide_eq_true rfl⟩
theorem knownI_none {n:ByteArray} (h:∀ r ∈ implT,¬ r.1 = n):knownC n = false:=by
 cases e:knownC n with
 | false=>rfl
 | true =>
   obtain ⟨r,hr,he,_⟩:=known_row e
   exact absurd he (h r (specT_sub r hr))
set_option maxHeartbeats 1000000 in
theorem implFind_any (n:ByteArray) (w:World) (ht:CurTab w):Calls Tryz.prog 149 #[.string n] w (RowPostb (rowOf specT n) (knownC n) w):=by
 have kr:=box_new w #[.string ⟨#[]⟩,.string ⟨#[]⟩,.int .i64 0,.int .i64 0] 180
 have b0:=below_al (Below.refl w.heap.size w) (.cells #[.string ⟨#[]⟩,.string ⟨#[]⟩,.int .i64 0,.int .i64 0] 180)
 have HT:=Lib.hid (ht.below b0)
 obtain ⟨W0,hW0⟩:∃ W0,W0 = w.alloc (.cells #[.string ⟨#[]⟩,.string ⟨#[]⟩,.int .i64 0,.int .i64 0] 180):=⟨_,rfl⟩
 rw [← hW0] at kr b0 HT
 have HW:=Lib.hid hW0
 have HI:=Lib.hid cur_index
 have HK:=Lib.hid kr
 have B1:=Lib.hid b0
 clear hW0 kr b0 ht
 go_enter Tryz.func149,Tryz.ntmps149
 go_wp2
 rw [← HW.out]
 refine wp_load_mid 239 _ (by rfl) 1 0 (by rfl) (cellsT implT) _ HT.out.range Tryz.underlying239 (by rfl) curInfo ?_
 generalize hTA:(cellsT implT).toArray = TA at *
 clear hTA HW
 go_wp2
 go_loopw [7] (fun i wr=>∃ k:Nat,k ≤ 20∧i = .int .i64 k∧Hid (∀ r ∈ implT.take k,¬ r.1 = n)∧Below W0.heap.size W0 wr) (fun i _=>20 - (intOf i).toNat)
 case atStart=>exact ⟨0,Nat.zero_le _,rfl,Lib.hid (fun r hr=>absurd hr (by simp)),Below.refl _ _⟩
 case round =>
  obtain ⟨k,hk,rfl,hp,hb⟩:=hrel
  by_cases hlt:k < 20
  ·have hix:=HI.out k hlt
   have HM:=Lib.hid (show implT[k] ∈ implT from List.getElem_mem _)
   have HN:=Lib.hid (fun h=>take_next hp.out (show k < implT.length from hlt) h)
   generalize implT[k] = r at hix HM HN
   obtain ⟨c,m,p,q⟩:=r
   simp only [cellsC] at hix
   have hal:=below_al (Below.refl wr.heap.size wr) (.cells #[.string c,.string m,.int .i64 p,.int .i64 q] 180)
   by_cases he:c = n
   ·subst he
    have hA:=Lib.hid (show rowOf specT c = _ from (rowOf_eq c).symm.trans (rowOf_mem implT_codes HM.out))
    have hA2:=Lib.hid (knownI HM.out)
    have ko:=(HK.out.below hb).below hal
    have HB:=Lib.hid (Below.next (Below.next B1.out hb) hal)
    have co0:=ko.here.cell 0 _ rfl
    have co1:=ko.here.cell 1 _ rfl
    have co2:=ko.here.cell 2 _ rfl
    have co3:=ko.here.cell 3 _ rfl
    have fo0:=Lib.frozen_of_heap ko.here 0
    have fo1:=Lib.frozen_of_heap ko.here 1
    have fo2:=Lib.frozen_of_heap ko.here 2
    have fo3:=Lib.frozen_of_heap ko.here 3
    clear HM HN hp ko hal
    go_wp2
    refine bodyPost_ret (v:=.tuple #[.agg #[.string c,.string m,.int .i64 p,.int .i64 q],.bool true]) (by simp [results,Tryz.results149,go_sem,co0,co1,co2,co3]) rfl ?_
    unfold RowPostb
    rw [hA.out,show knownC c = true from hA2.out]
    exact ⟨rfl,below_set4 HB.out (Nat.le_refl _)⟩
   ·have HN2:=Lib.hid (HN.out he)
    clear HM HN hp hal
    have hne:=bytes_neC he
    go_wp2
    exact ⟨⟨k+1,by omega,by go_num,HN2,hb.alloc (by have:=hb.size;omega) _⟩,by simp [intOf];omega⟩
  ·obtain rfl:k = 20:=by omega
   have hnone:∀ r ∈ implT,¬ r.1 = n:=by rw [← List.take_of_length_le (l:=implT) (i:=20) (by decide)];exact hp.out
   have hA:=Lib.hid (show rowOf specT n = zeroC from (rowOf_eq n).symm.trans (rowOf_none hnone))
   have hA2:=Lib.hid (knownI_none hnone)
   have ko:=HK.out.below hb
   have HB:=Lib.hid (Below.next B1.out hb)
   have co0:=ko.here.cell 0 _ rfl
   have co1:=ko.here.cell 1 _ rfl
   have co2:=ko.here.cell 2 _ rfl
   have co3:=ko.here.cell 3 _ rfl
   have fo0:=Lib.frozen_of_heap ko.here 0
   have fo1:=Lib.frozen_of_heap ko.here 1
   have fo2:=Lib.frozen_of_heap ko.here 2
   have fo3:=Lib.frozen_of_heap ko.here 3
   clear hp ko hnone
   go_wp2
   refine bodyPost_ret (v:=.tuple #[.agg #[.string ⟨#[]⟩,.string ⟨#[]⟩,.int .i64 0,.int .i64 0],.bool false]) (by simp [results,Tryz.results149,go_sem,co0,co1,co2,co3]) rfl ?_
   unfold RowPostb
   rw [hA.out,hA2.out]
   first | exact ⟨rfl,HB.out⟩ | exact ⟨rfl,below_set4 HB.out (Nat.le_refl _)⟩
set_option maxHeartbeats 400000 in
theorem implCurKnown_any (n:ByteArray) (w:World) (ht:CurTab w):Calls Tryz.prog 101 #[.string n] w fun e w'=>e = .returned (.bool (knownC n))∧Below w.heap.size w w':=by
 go_enter Tryz.func101,Tryz.ntmps101
 go_wp2_with fail
 refine (implFind_any n _ ht).mono ?_
 rintro e w1 ⟨rfl,b1⟩
 go_wp2
 go_ret
 exact ⟨rfl,below_al b1 _⟩
set_option maxHeartbeats 400000 in
theorem implIntOk_any (v:Value) (x:SI) (w:World) (hl:x.2.length ≤ 1048576) (h:RdS w v x) :
 Calls Tryz.prog 151 #[v] w fun e w'=>e = .returned (.bool (okS x))∧Below w.heap.size w w':=by
 obtain ⟨n,xs⟩:=x
 obtain ⟨u,rfl,hp⟩:=h
 obtain ⟨A,c,rfl⟩:=row_form hp
 rw [intsV_length] at hp ⊢
 simp only at hl hp ⊢
 have hbx:Below w.heap.size w (w.alloc (.cells #[.bool n,.slice A xs.length c] 30)):=below_al (Below.refl _ _) _
 have HV:=Lib.hid (show okS (n,xs) = (natOkB xs && (!n || decide (0 < xs.length))) from rfl)
 by_cases ok:natOkB xs = true
 ·rw [ok] at HV
  go_enter Tryz.func151,Tryz.ntmps151
  go_wp2_with fail
  refine (implNatOk_same _ xs 0 w.heap.size _ (by omega) (hp.below hbx (Nat.le_refl _))).mono ?_
  rintro e w1 ⟨rfl,rfl⟩
  rw [ok]
  by_cases hz:xs.length = 0
  ·have hb:((xs.length:Int) == 0) = true:=by rw [hz];rfl
   have hd:decide (0 < xs.length) = false:=decide_eq_false (by omega)
   rw [hd] at HV
   clear hz hd
   cases n <;>
   ·go_wp2
    go_ret
    exact ⟨ret_bool (by rw [HV.out];rfl),hbx⟩
  ·have hb:((xs.length:Int) == 0) = false:=by rw [beq_eq_false_iff_ne];omega
   have hd:decide (0 < xs.length) = true:=decide_eq_true (by omega)
   rw [hd] at HV
   clear hz hd
   cases n <;>
   ·go_wp2
    go_ret
    exact ⟨ret_bool (by rw [HV.out];rfl),hbx⟩
 ·have ok':natOkB xs = false:=by simpa using ok
  rw [ok'] at HV
  clear ok
  go_enter Tryz.func151,Tryz.ntmps151
  go_wp2_with fail
  refine (implNatOk_same _ xs 0 w.heap.size _ (by omega) (hp.below hbx (Nat.le_refl _))).mono ?_
  rintro e w1 ⟨rfl,rfl⟩
  rw [ok']
  go_wp2
  go_ret
  exact ⟨ret_bool (by rw [HV.out];rfl),hbx⟩
theorem Below.drew1 {B:Nat} {w w1:World} (h:Below B w w1):Below B w w1.drew:=⟨h.os,h.tape,h.output,h.size,h.block⟩
end Go.Proofs.YtehkknphcflofaaGreatDoor
