import Derived.Deep.RegionHeld3
import Derived.Deep.DeepCutAuto
import Derived.Test.YtipbdpdmefcofabGreatDoorJC4
set_option maxRecDepth 100000
namespace Go.Proofs.YtipbdpdmefcofabGreatDoor
open Go.RowKit
set_option maxHeartbeats 1000000 in
theorem specDecOk_any (vd:Value) (d:DI) (w:World) (hl:d.1.2.length ≤ 1048576) (hd:OwnD vd d w) :
 Calls Tryz.prog 79 #[vd] w (Postb (okD d) w):=by
 have Hd:=Lib.hid hd
 obtain ⟨Ad,cd,rfl⟩:=ownD_form hd
 have ODd:=Lib.hid (show ∀ W,Below w.heap.size w W→OwnD (.agg #[.bool d.1.1,.slice Ad d.1.2.length cd,.int .i64 d.2]) d W from fun W hb=>OwnD.below Hd.out hb)
 have OId:=Lib.hid (show ∀ W,Below w.heap.size w W→OwnI (.slice Ad d.1.2.length cd) d.1.2 W from fun W hb=>ownD_open (ODd.out W hb))
 have OSd:=Lib.hid (show ∀ W,Below w.heap.size w W→OwnS (.agg #[.bool d.1.1,.slice Ad d.1.2.length cd]) d.1 W from fun W hb=>OwnS.mk (OId.out W hb))
 clear hd
 have bb0:Below w.heap.size w (w.alloc (.cells #[.bool d.1.1,.slice Ad d.1.2.length cd,.int .i64 d.2] 87)):=below_al (Below.refl _ _) _
 have kd:=(box_new w #[.bool d.1.1,.slice Ad d.1.2.length cd,.int .i64 d.2] 87)
 go_enter Tryz.func79,Tryz.ntmps79
 have kd_c0:=kd.here.cell 0 _ rfl
 have kd_c1:=kd.here.cell 1 _ rfl
 have kd_c2:=kd.here.cell 2 _ rfl
 go_wp2_with fail
 clear kd_c0 kd_c1 kd_c2
 refine (specIntOk_any _ d.1 _ hl (OwnS.rd (OSd.out _ bb0))).mono ?_
 rintro e w1 ⟨rfl,b1⟩
 have bb1:=Below.next bb0 b1
 replace kd:=kd.below b1
 by_cases ok1:okS d.1 = true
 ·rw [ok1]
  have HO1:=Lib.hid ok1
  clear ok1
  by_cases hs:d.1.2.length ≤ 6
  ·have HV0:=Lib.hid (show okD d = decide (0 ≤ d.2∧d.2 ≤ 30) by unfold okD;rw [HO1.out,decide_eq_true hs];rfl)
   have hs6:(d.1.2.length:Int) ≤ 6:=by omega
   have hs7:¬ (6:Int) < (d.1.2.length:Int):=by omega
   clear hs
   have kd_c0:=kd.here.cell 0 _ rfl
   have kd_c1:=kd.here.cell 1 _ rfl
   have kd_c2:=kd.here.cell 2 _ rfl
   go_wp2_with fail
   clear kd_c0 kd_c1 kd_c2
   refine (specIn_any d.2 0 30 _ _ rfl).mono ?_
   rintro e w_ ⟨rfl,rfl⟩
   have HV:=Lib.hid (show okD d = inB d.2 0 30 from HV0.out)
   generalize inB d.2 0 30 = b at *
   clear kd
   go_wp2
   go_ret
   exact ⟨ret_bool HV.out.symm,bb1⟩
  ·have HV:=Lib.hid (show okD d = false by unfold okD;rw [decide_eq_false hs,Bool.false_and,Bool.and_false])
   have hs6:¬ (d.1.2.length:Int) ≤ 6:=by omega
   have hs7:(6:Int) < (d.1.2.length:Int):=by omega
   clear hs
   have kd_c0:=kd.here.cell 0 _ rfl
   have kd_c1:=kd.here.cell 1 _ rfl
   have kd_c2:=kd.here.cell 2 _ rfl
   go_wp2
   go_ret
   exact ⟨ret_bool HV.out.symm,bb1⟩
 ·have ok1':okS d.1 = false:=by simpa using ok1
  have HV:=Lib.hid (show okD d = false by unfold okD;rw [ok1'];rfl)
  rw [ok1']
  clear ok1 ok1'
  go_wp2
  go_ret
  exact ⟨ret_bool HV.out.symm,bb1⟩
set_option maxHeartbeats 1000000 in
theorem l07Ten_any (k:Int) (w:World):Calls Tryz.prog 83 #[.int .i64 k] w (NewV (fun u=>OwnS u (tenS k)) w):=by
 have bb0:Below w.heap.size w (w.alloc (.cells #[.bool false,.slice none 0 0] 32)):=below_al (Below.refl _ _) _
 have ko:=(box_new w #[.bool false,.slice none 0 0] 32)
 have HKO:=Lib.hid (ko.lt w.heap.size (by simp))
 go_enter Tryz.func83,Tryz.ntmps83
 go_wp2_with fail
 refine (specNatTen_any k _).mono ?_
 rintro e w1 ⟨v,rfl,o0,b1⟩
 obtain ⟨Af,cf,rfl⟩:=own_len o0
 have bb1:=Below.next bb0 b1
 replace ko:=ko.below b1
 have of:=(own_at' o0).imp (fun _ h=>(OwnS.mk h:OwnS (.agg #[.bool (tenS k).1,.slice Af (tenN k).length cf]) (tenS k) _))
 have lf:=own_within o0
 clear o0
 have HR:=Lib.hid (newV_chg (φ:=fun u=>OwnS u (tenS k)) (v:=.agg #[.bool false,.slice Af (tenN k).length cf]) (T:=[w.heap.size]) of (fun i hi hm=>by have:=lf i hi;have:=HKO.out;simp at hm;omega) (fun i hi=>by simp at hi;omega) (fun i hi=>by have:=lf i hi;have:=HKO.out;omega) bb1)
 have cz0:=ko.here.cell 0 _ rfl
 have fz0:=Lib.frozen_of_heap ko.here 0
 have cz1:=ko.here.cell 1 _ rfl
 have fz1:=Lib.frozen_of_heap ko.here 1
 clear of ko
 go_wp2
 refine bodyPost_ret (v:=.agg #[.bool false,.slice Af (tenN k).length cf]) (by simp [results,Tryz.results83,go_sem,cz0,cz1]) rfl ?_
 refine HR.out _ ?_
 repeat (first | exact Chg.refl _ _ | refine Chg.setCell ?_ (by simp) _)
def unitC (n:ByteArray):QI:=if knownC n = true then (tenS (placesC n),[1]) else zeroQ
set_option maxHeartbeats 2000000 in
theorem specCurUnit_any (n:ByteArray) (w:World):Calls Tryz.prog 62 #[.string n] w (NewV (fun v=>OwnQ v (unitC n)) w):=by
 have ko:=box_new w #[.bool false,.slice none 0 0,.slice none 0 0] 36
 have bb0:=below_al (Below.refl w.heap.size w) (.cells #[.bool false,.slice none 0 0,.slice none 0 0] 36)
 have HKO:=Lib.hid (ko.lt w.heap.size (by simp))
 obtain ⟨W0,hW0⟩:∃ W0,W0 = w.alloc (.cells #[.bool false,.slice none 0 0,.slice none 0 0] 36):=⟨_,rfl⟩
 rw [← hW0] at ko bb0 HKO
 have HW0:=Lib.hid hW0
 clear hW0
 go_enter Tryz.func62,Tryz.ntmps62
 go_wp2_with fail
 rw [← HW0.out]
 refine (specCurKnown_any n _).mono ?_
 rintro e w1 ⟨rfl,b1⟩
 have bb1:=Below.next bb0 b1
 replace ko:=ko.below b1
 by_cases hk:knownC n = true
 ·rw [hk]
  have HV:=Lib.hid (show unitC n = (tenS (placesC n),[1]) by unfold unitC;rw [if_pos hk])
  clear hk
  go_wp2_with fail
  refine (specCurPlaces_any n _).mono ?_
  rintro e w2 ⟨rfl,b2⟩
  have bb2:=Below.next bb1 b2
  replace ko:=ko.below b2
  generalize placesC n = k at *
  go_wp2_with fail
  refine (l07Ten_any k _).mono ?_
  rintro e w3 ⟨us,Ss,rfl,os,ls,b3⟩
  obtain ⟨As,cs,rfl⟩:=ownS_form os.here
  have bb3:=Below.next bb2 b3
  replace ko:=ko.below b3
  have al:=below_al (Below.refl w3.heap.size w3) (.cells #[.int .i64 1] 3)
  have ob:=at_ints_mem os (fun w' h=>ownS_open h)
  have z1:=b1.size
  have z2:=b2.size
  have hz:=HKO.out
  have oq:At (partsB (.slice As (tenS k).2.length cs) (.slice (some ⟨w3.heap.size,0,none⟩) 1 1)) (OwnQ (.agg #[.bool (tenS k).1,.slice As (tenS k).2.length cs,.slice (some ⟨w3.heap.size,0,none⟩) 1 1]) (tenS k,[1])) (w3.alloc (.cells #[.int .i64 1] 3)) :=
   partsQ_at (x:=(tenS k,[1])) (B:=0) (C:=0) (own_below (ownS_open os.here) al) ⟨rfl,.inr ⟨w3.heap.size,1,#[.int .i64 1],rfl,Nat.zero_le _,heap_alloc_new w3 _,Nat.le_refl _,by decide,rfl,rfl⟩⟩
    (fun g hg e=>by have h1:=(ls g (ob g hg)).2;have h2:=Option.some.inj (show some w3.heap.size = some g from e);omega)
  have hin:∀ i ∈ partsB (.slice As (tenS k).2.length cs) (.slice (some ⟨w3.heap.size,0,none⟩) 1 1),W0.heap.size ≤ i:=fun i hi=>by
   rcases List.mem_append.1 hi with hi | hi
   ·have:=(ls i (ob i (by simpa using hi))).1;omega
   ·have h2:i = w3.heap.size:=by simpa [Value.ownBlock] using hi
    have:=b3.size;omega
  have HW:=Lib.hid (newV_chg (φ:=fun v=>OwnQ v (tenS k,[1])) (T:=[w.heap.size]) oq (fun i hi hm=>by have:=hin i hi;simp at hm;omega) (fun i hi=>by simp at hi;omega) (fun i hi=>by have:=hin i hi;have:=bb0.size;omega) (Below.next bb3 al))
  have ko2:=ko.below al
  have cz0:=ko2.here.cell 0 _ rfl
  have cz1:=ko2.here.cell 1 _ rfl
  have cz2:=ko2.here.cell 2 _ rfl
  have fz0:=Lib.frozen_of_heap ko2.here 0
  have fz1:=Lib.frozen_of_heap ko2.here 1
  have fz2:=Lib.frozen_of_heap ko2.here 2
  clear ko ko2 os oq hin ob al bb3 b3
  go_wp2
  refine bodyPost_ret (v:=.agg #[.bool (tenS k).1,.slice As (tenS k).2.length cs,.slice (some ⟨w3.heap.size,0,none⟩) 1 1]) (by simp [results,Tryz.results62,go_sem,cz0,cz1,cz2]) rfl ?_
  rw [HV.out]
  refine HW.out _ ?_
  repeat (first | exact Chg.refl _ _ | refine Chg.setCell ?_ (by simp) _)
 ·have hk':knownC n = false:=by simpa using hk
  rw [hk']
  have HV:=Lib.hid (show unitC n = zeroQ by unfold unitC;rw [if_neg hk])
  clear hk hk'
  have cz0:=ko.here.cell 0 _ rfl
  have cz1:=ko.here.cell 1 _ rfl
  have cz2:=ko.here.cell 2 _ rfl
  have fz0:=Lib.frozen_of_heap ko.here 0
  have fz1:=Lib.frozen_of_heap ko.here 1
  have fz2:=Lib.frozen_of_heap ko.here 2
  have HW:=Lib.hid (newV_chg (φ:=fun v=>OwnQ v zeroQ) (v:=.agg #[.bool false,.slice none 0 0,.slice none 0 0]) (T:=[w.heap.size]) (S:=[]) ⟨⟨_,_,rfl,World.ownsRow_nil _ _ _ _,World.ownsRow_nil _ _ _ _,fun g hg=>by cases hg⟩,fun _ hg=>absurd hg List.not_mem_nil,fun w' _=>⟨_,_,rfl,World.ownsRow_nil _ _ _ _,World.ownsRow_nil _ _ _ _,fun g hg=>by cases hg⟩⟩ (fun i hi=>absurd hi List.not_mem_nil) (fun i hi=>by simp at hi;omega) (fun i hi=>absurd hi List.not_mem_nil) bb1)
  clear ko
  go_wp2
  refine bodyPost_ret (v:=.agg #[.bool false,.slice none 0 0,.slice none 0 0]) (by simp [results,Tryz.results62,go_sem,cz0,cz1,cz2]) rfl ?_
  rw [HV.out]
  refine HW.out _ ?_
  repeat (first | exact Chg.refl _ _ | refine Chg.setCell ?_ (by simp) _)
theorem mulQ_zl (x:QI):mulQ zeroQ x = (zeroQ,false):=by unfold mulQ;rw [if_neg (fun h=>by have:=h.1;rw [show okQ zeroQ = false from rfl] at this;cases this)]
theorem mulQ_zr (x:QI):mulQ x zeroQ = (zeroQ,false):=by unfold mulQ;rw [if_neg (fun h=>by have:=h.2;rw [show okQ zeroQ = false from rfl] at this;cases this)]
theorem addQ_zr (x:QI):addQ x zeroQ = (zeroQ,false):=by unfold addQ;rw [if_neg (fun h=>by have:=h.2;rw [show okQ zeroQ = false from rfl] at this;cases this)]
theorem lowQ_no {n:Bool} {a b:Nat} (h:(lowQ n a b).2 = false):(lowQ n a b).1 = zeroQ:=by
 unfold lowQ at h ⊢
 split
 ·rename_i hc
  rw [if_pos hc] at h
  cases h
 ·rfl
theorem mulQ_no {r s:QI} (h:(mulQ r s).2 = false):(mulQ r s).1 = zeroQ:=by
 unfold mulQ at h ⊢
 split
 ·rename_i hc
  rw [if_pos hc] at h
  exact lowQ_no h
 ·rfl
theorem mulQ_ok {r s:QI} (h:(mulQ r s).2 = true):okQ (mulQ r s).1 = true:=by
 unfold mulQ at h ⊢
 split
 ·rename_i hc
  rw [if_pos hc] at h
  exact lowQ_ok _ _ _ h
 ·rename_i hc
  rw [if_neg hc] at h
  cases h
theorem rmB_zero (c:ByteArray) (m:Int):rmB c zeroQ m = false:=by
 have h:restB zeroQ m = false:=by
  unfold restB roundR
  rw [if_neg (fun h=>by have:=h.1;rw [show okQ zeroQ = false from rfl] at this;cases this)]
  rfl
 unfold rmB
 rw [h]
 rfl
theorem addQ_none {x:QI} (h:okQ x = true):addQ oneQ x = (x,true):=by
 have hp:=okQ_parts h
 have hd:=denQ_pos h
 have e1:numQ oneQ = 0:=rfl
 have e2:denQ oneQ = 1:=rfl
 have hg:Nat.gcd (numQ x).natAbs (denQ x) = 1:=by
  rw [← abs_top h]
  exact hp.2.2.2.2.2
 have hl1:limbs (numQ x).natAbs = x.1.2:=by
  rw [← abs_top h]
  exact (natOk_limbs (okS_parts hp.1).1).symm
 have hl2:limbs (denQ x) = x.2:=(natOk_limbs hp.2.1).symm
 have hm:mkS (decide (numQ x < 0)) (limbs (numQ x).natAbs) = x.1:=by
  rw [mkS_limbs]
  have e:(if decide (numQ x < 0) = true then -((numQ x).natAbs:Int) else ((numQ x).natAbs:Int)) = valS x.1:=by
   show _ = numQ x
   by_cases hz:numQ x < 0
   ·rw [decide_eq_true hz,if_pos rfl];omega
   ·rw [decide_eq_false hz,if_neg (by decide)];omega
  rw [e,okS_ofZ hp.1]
 unfold addQ
 rw [if_pos ⟨oneQ_ok,h⟩,e1,e2]
 have e3:(0:Int) * (denQ x:Int)+numQ x * ((1:Nat):Int) = numQ x:=by rw [Int.zero_mul,Int.zero_add];exact Int.mul_one _
 rw [e3,Nat.one_mul]
 unfold lowQ
 rw [hg,Nat.div_one,Nat.div_one,if_pos ⟨by omega,by rw [hl1];exact hp.2.2.2.2.1,by rw [hl2];exact hp.2.2.2.1⟩,hm,hl2]
def facU (a b:ByteArray):QI:=(divQ (unitC b) (unitC a)).1
def unitR (t:TI) (a b:ByteArray):QI × Bool:=if (rateT t a b).2 = true then mulQ (rateT t a b).1 (facU a b) else (zeroQ,false)
def exactR (t:TI) (m:MI) (c:ByteArray):QI × Bool:=if (unitR t m.1 c).2 = true∧okM m = true then mulQ (ratM m) (unitR t m.1 c).1 else (zeroQ,false)
theorem rateT_no {t:TI} {a b:ByteArray} (h:¬ (rateT t a b).2 = true):(rateT t a b).1 = zeroQ:=by
 rw [find_rate] at h ⊢
 have h0:(findT t a b).2 = 0:=by simpa using h
 show (findT t a b).1 = zeroQ
 unfold findT at h0 ⊢
 split at h0
 ·rename_i hk
  rw [if_pos hk]
  split at h0
  ·cases h0
  ·rename_i hab
   rw [if_neg hab]
   split at h0
   ·rename_i hl
    rw [if_pos hl]
    unfold pivT at h0 ⊢
    split at h0
    ·rename_i hp
     rw [if_pos hp]
    ·cases h0
   ·rename_i hl
    exact absurd h0 hl
 ·rename_i hk
  rw [if_neg hk]
theorem unit_impl (t:TI) (a b:ByteArray):mulQ (rateT t a b).1 (facU a b) = unitR t a b:=by
 unfold unitR
 by_cases h:(rateT t a b).2 = true
 ·rw [if_pos h]
 ·rw [if_neg h,rateT_no h,mulQ_zl]
theorem unitR_no {t:TI} {a b:ByteArray} (h:¬ (unitR t a b).2 = true):(unitR t a b).1 = zeroQ:=by
 rw [← unit_impl] at h ⊢
 exact mulQ_no (by simpa using h)
theorem ratM_no {m:MI} (h:¬ okM m = true):ratM m = zeroQ:=by unfold ratM;rw [if_neg h]
theorem exact_impl (t:TI) (m:MI) (c:ByteArray):mulQ (ratM m) (unitR t m.1 c).1 = exactR t m c:=by
 unfold exactR
 by_cases h1:(unitR t m.1 c).2 = true
 ·by_cases h2:okM m = true
  ·rw [if_pos ⟨h1,h2⟩]
  ·rw [if_neg (fun h=>h2 h.2),ratM_no h2,mulQ_zl]
 ·rw [if_neg (fun h=>h1 h.1),unitR_no h1,mulQ_zr]
theorem exactR_no {t:TI} {m:MI} {c:ByteArray} (h:¬ (exactR t m c).2 = true):(exactR t m c).1 = zeroQ:=by
 rw [← exact_impl] at h ⊢
 exact mulQ_no (by simpa using h)
theorem exactR_ok {t:TI} {m:MI} {c:ByteArray} (h:(exactR t m c).2 = true):okQ (exactR t m c).1 = true:=by
 rw [← exact_impl] at h ⊢
 exact mulQ_ok h
theorem mulQ_szC (r s:QI):szQ (mulQ r s).1 ≤ 1048576:=by unfold mulQ;split;exact lowQ_sz _ _ _;decide
theorem divQ_szC (r s:QI):szQ (divQ r s).1 ≤ 1048576:=by unfold divQ;split;exact lowQ_sz _ _ _;decide
theorem addQ_szC (r s:QI):szQ (addQ r s).1 ≤ 1048576:=by unfold addQ;split;exact lowQ_sz _ _ _;decide
theorem rateT_szC (t:TI) (a b:ByteArray):szQ (rateT t a b).1 ≤ 1048576:=by rw [find_rate];exact findT_sz t a b
theorem unitC_szC (n:ByteArray):szQ (unitC n) ≤ 1048576:=by
 unfold unitC
 split
 ·have h:=tenN_len (placesC n)
  have e:(tenS (placesC n)).2.length = (tenN (placesC n)).length:=rfl
  unfold szQ szS szI
  dsimp only
  rw [e,show ([1]:List Int).length = 1 from rfl]
  omega
 ·decide
theorem ratM_szC (a:MI):szQ (ratM a) ≤ 1048576:=by unfold ratM;split;(unfold makeQ;split;exact lowQ_sz _ _ _;decide);decide
theorem subQ_szC (r s:QI):szQ (subQ r s).1 ≤ 1048576:=by
 unfold subQ
 split
 ·exact (by unfold addQ;split;exact lowQ_sz _ _ _;decide:szQ (addQ r (negQ s).1).1 ≤ 1048576)
 ·decide
theorem restQ_szC (r:QI) (m:Int):szQ (restQ r m) ≤ 1048576:=by unfold restQ;split;exact subQ_szC _ _;decide
theorem rm_szC (c:ByteArray) (r:QI) (m:Int):szM (rmM c r m) ≤ 1048576:=(rm_sz c r m (restQ_szC r m)).1
theorem rmQ_szC (c:ByteArray) (r:QI) (m:Int):szQ (rmQ c r m) ≤ 1048576:=(rm_sz c r m (restQ_szC r m)).2
theorem unitR_sz (t:TI) (a b:ByteArray):szQ (unitR t a b).1 ≤ 1048576:=by rw [← unit_impl];exact mulQ_szC _ _
theorem exactR_sz (t:TI) (m:MI) (c:ByteArray):szQ (exactR t m c).1 ≤ 1048576:=by rw [← exact_impl];exact mulQ_szC _ _
def sumQ (t:TI) (c:ByteArray) (l:List MI):QI:=l.foldl (fun s m=>(addQ s (exactR t m c).1).1) oneQ
theorem sumQ_snoc (t:TI) (c:ByteArray) (l:List MI) (m:MI):sumQ t c (l ++ [m]) = (addQ (sumQ t c l) (exactR t m c).1).1:=by unfold sumQ;rw [List.foldl_append];rfl
theorem sumQ_sz (t:TI) (c:ByteArray) (l:List MI):szQ (sumQ t c l) ≤ 1048576:=by
 rcases List.eq_nil_or_concat l with rfl | ⟨r,x,rfl⟩
 ·show szQ oneQ ≤ 1048576
  decide
 ·rw [List.concat_eq_append,sumQ_snoc];exact addQ_szC _ _
theorem sumQ_one {t:TI} {c:ByteArray} {m:MI}:sumQ t c [m] = (exactR t m c).1:=by
 show (addQ oneQ (exactR t m c).1).1 = _
 by_cases h:(exactR t m c).2 = true
 ·rw [addQ_none (exactR_ok h)]
 ·rw [exactR_no h,addQ_zr]
def formB (t:TI) (l:List MI) (c:ByteArray) (k:Int):Bool:=l.all okM && (okT t && (knownC c && modeB k))
def noneB (t:TI) (l:List MI) (c:ByteArray):Bool:=l.any fun m=>decide (howT t m.1 c = 0)
def cvN (t:TI) (l:List MI) (c:ByteArray) (k:Int):Int :=
 if formB t l c k = false then 1 else if noneB t l c = true then 2 else if rmB c (sumQ t c l) k = true then 0 else 3
def cvM (t:TI) (l:List MI) (c:ByteArray) (k:Int):MI:=if cvN t l c k = 0 then rmM c (sumQ t c l) k else zeroM
def cvQ (t:TI) (l:List MI) (c:ByteArray) (k:Int):QI:=if cvN t l c k = 0 then rmQ c (sumQ t c l) k else zeroQ
theorem cv_form {t:TI} {l:List MI} {c:ByteArray} {k:Int} (h:formB t l c k = false):cvM t l c k = zeroM∧cvQ t l c k = zeroQ∧cvN t l c k = 1:=by
 have e:cvN t l c k = 1:=by unfold cvN;rw [if_pos h]
 unfold cvM cvQ
 rw [e]
 exact ⟨rfl,rfl,rfl⟩
theorem cv_rate {t:TI} {l:List MI} {c:ByteArray} {k:Int} (h:formB t l c k = true) (h2:noneB t l c = true):cvM t l c k = zeroM∧cvQ t l c k = zeroQ∧cvN t l c k = 2:=by
 have e:cvN t l c k = 2:=by unfold cvN;rw [if_neg (by rw [h];decide),if_pos h2]
 unfold cvM cvQ
 rw [e]
 exact ⟨rfl,rfl,rfl⟩
theorem cv_large {t:TI} {l:List MI} {c:ByteArray} {k:Int} (h:formB t l c k = true) (h2:noneB t l c = false) (h3:rmB c (sumQ t c l) k = false):cvM t l c k = zeroM∧cvQ t l c k = zeroQ∧cvN t l c k = 3:=by
 have e:cvN t l c k = 3:=by unfold cvN;rw [if_neg (by rw [h];decide),if_neg (by rw [h2];decide),if_neg (by rw [h3];decide)]
 unfold cvM cvQ
 rw [e]
 exact ⟨rfl,rfl,rfl⟩
theorem cv_good {t:TI} {l:List MI} {c:ByteArray} {k:Int} (h:formB t l c k = true) (h2:noneB t l c = false) (h3:rmB c (sumQ t c l) k = true):cvM t l c k = rmM c (sumQ t c l) k∧cvQ t l c k = rmQ c (sumQ t c l) k∧cvN t l c k = 0:=by
 have e:cvN t l c k = 0:=by unfold cvN;rw [if_neg (by rw [h];decide),if_neg (by rw [h2];decide),if_pos h3]
 unfold cvM cvQ
 rw [e]
 exact ⟨rfl,rfl,rfl⟩
theorem postQb_isC {q:QI × Bool} {X:QI} {b:Bool} (e:q = (X,b)) {w w':World} {n:Ending} (h:PostQb q.1 q.2 w n w'):PostQb X b w n w':=by rw [e] at h;exact h
theorem newQb_chgC {R0:QI} {R1:Bool} {S T:List Nat} {v:Value} {w W:World} (o:At S (OwnQ v R0) W) (hd:∀ i ∈ S,i ∉ T) (hT:∀ i ∈ T,w.heap.size ≤ i) (l:∀ i ∈ S,w.heap.size ≤ i) (hW:Below w.heap.size w W) :
 ∀ W',Chg T W W'→PostQb R0 R1 w (.returned (.tuple #[v,.bool R1])) W' :=
 fun _ hc=>⟨v,S,rfl,o.chg hc hd,fun i hi=>⟨l i hi,Nat.lt_of_lt_of_le (o.lt i hi) hc.size⟩,below_chg hW hc hW.size hT⟩
theorem newQb_zeroC {T:List Nat} {w W:World} (hT:∀ i ∈ T,w.heap.size ≤ i) (hW:Below w.heap.size w W):∀ W',Chg T W W'→PostQb zeroQ false w (.returned (.tuple #[.agg #[.bool false,.slice none 0 0,.slice none 0 0],.bool false])) W' :=
 fun _ hc=>newQb_zero false (below_chg hW hc hW.size hT)
def PostMQn (R0:MI) (R1:QI) (R2:Int) (w:World) (e:Ending) (w':World):Prop :=
 ∃ (v u:Value) (S T:List Nat),e = .returned (.tuple #[v,u,.int .i64 R2])∧At S (OwnM v R0) w'∧At T (OwnQ u R1) w'∧(∀ g ∈ S,g ∉ T)∧Within S w.heap.size w'.heap.size∧Within T w.heap.size w'.heap.size∧Below w.heap.size w w'
theorem postMQn_isC {a d:MI} {b f:QI} {c g:Int} (e1:a = d) (e2:b = f) (e3:c = g) {w w':World} {n:Ending} (h:PostMQn a b c w n w'):PostMQn d f g w n w':=by subst e1 e2 e3;exact h
theorem newMQn_chgC {R0:MI} {R1:QI} {R2:Int} {S D T:List Nat} {v u:Value} {w W:World} (o:At S (OwnM v R0) W) (q:At D (OwnQ u R1) W) (hap:∀ g ∈ S,g ∉ D) (hd:∀ i ∈ S,i ∉ T) (hd2:∀ i ∈ D,i ∉ T) (hT:∀ i ∈ T,w.heap.size ≤ i) (l:∀ i ∈ S,w.heap.size ≤ i) (l2:∀ i ∈ D,w.heap.size ≤ i) (hW:Below w.heap.size w W) :
 ∀ W',Chg T W W'→PostMQn R0 R1 R2 w (.returned (.tuple #[v,u,.int .i64 R2])) W' :=
 fun _ hc=>⟨v,u,S,D,rfl,o.chg hc hd,q.chg hc hd2,hap,fun i hi=>⟨l i hi,Nat.lt_of_lt_of_le (o.lt i hi) hc.size⟩,fun i hi=>⟨l2 i hi,Nat.lt_of_lt_of_le (q.lt i hi) hc.size⟩,below_chg hW hc hW.size hT⟩
theorem newMQn_zeroC {n:Int} {T:List Nat} {w W:World} (hT:∀ i ∈ T,w.heap.size ≤ i) (hW:Below w.heap.size w W):∀ W',Chg T W W'→PostMQn zeroM zeroQ n w (.returned (.tuple #[.agg #[.string ⟨#[]⟩,.bool false,.slice none 0 0],.agg #[.bool false,.slice none 0 0,.slice none 0 0],.int .i64 n])) W' :=
 fun _ hc=>⟨_,_,[],[],rfl,atM_zero _,⟨ownQ_zero _,fun _ hg=>absurd hg List.not_mem_nil,fun _ _=>ownQ_zero _⟩,fun _ hg=>absurd hg List.not_mem_nil,fun _ hg=>absurd hg List.not_mem_nil,fun _ hg=>absurd hg List.not_mem_nil,below_chg hW hc hW.size hT⟩
set_option maxHeartbeats 8000000 in
theorem lawConvert_walk (va:Value) (vm:Value) (a:TI) (m:MI) (q:ByteArray) (k:Int) (R0:MI) (R1:QI) (R2:Int) (w:World)
 (hS:∀ (ua:Value) (um:Value) (W:World),OwnT ua a W→OwnM um m W→Calls Tryz.prog 6 #[ua,um,.string q,.int .i64 k] W (PostMQn R0 R1 R2 W))
 (hI:∀ (ua:Value) (um:Value) (W:World),OwnT ua a W→OwnM um m W→CurTab W→Sen W→ErrTy W→Calls Tryz.prog 9 #[ua,um,.string q,.int .i64 k] W (PostMQn R0 R1 R2 W))
 (ht0:CurTab w) (ht1:Sen w) (ht2:ErrTy w) (hl:szT a+szM m ≤ 1048576) (hlq:q.size ≤ 1048576) (hlR0:szM R0 ≤ 1048576) (hlR1:szQ R1 ≤ 1048576) (ra:RdT w va a) (rm:RdM w vm m) :
 Calls Tryz.prog 3 #[va,vm,.string q,.int .i64 k] w fun e w'=>e = .returned (.bool true)∧Below w.heap.size w w':=by
 have HS:=Lib.hid hS
 have HI:=Lib.hid hI
 clear hS hI
 have HT0:=Lib.hid ht0
 clear ht0
 have HT1:=Lib.hid ht1
 clear ht1
 have HT2:=Lib.hid ht2
 clear ht2
 have hsa:=szT_nonneg a
 have hsm:=szM_nonneg m
 have hsR0:=szM_nonneg R0
 have hsR1:=szQ_nonneg R1
 have hma:=mkT_range a
 have hmm:=mkM_range m
 have hmR0:=mkM_range R0
 have hza:szT a ≤ 1048576:=by omega
 obtain ⟨Aa,ca,rfl⟩:=rdT_form ra
 have hzm:szM m ≤ 1048576:=by omega
 obtain ⟨Am,cm,rfl⟩:=rdM_form rm
 have bb0:Below w.heap.size w ((w.alloc (.cells #[.string a.1,.slice Aa a.2.length ca] 24)).alloc (.cells #[.string m.1,.bool m.2.1,.slice Am m.2.2.length cm] 29)):=below_al (below_al (Below.refl _ _) _) _
 have ka:=(box_new w #[.string a.1,.slice Aa a.2.length ca] 24).below (below_al (Below.refl _ _) (.cells #[.string m.1,.bool m.2.1,.slice Am m.2.2.length cm] 29))
 have km:=(box_new (w.alloc (.cells #[.string a.1,.slice Aa a.2.length ca] 24)) #[.string m.1,.bool m.2.1,.slice Am m.2.2.length cm] 29)
 rw [show (w.alloc (.cells #[.string a.1,.slice Aa a.2.length ca] 24)).heap.size = w.heap.size+1 by simp] at km
 have RFa:Hid (∀ W,Below w.heap.size w W→RdT W (.agg #[.string a.1,.slice Aa a.2.length ca]) a):=Lib.hid fun W hb=>ra.below hb
 have RFm:Hid (∀ W,Below w.heap.size w W→RdM W (.agg #[.string m.1,.bool m.2.1,.slice Am m.2.2.length cm]) m):=Lib.hid fun W hb=>rm.below hb
 go_enter Tryz.func3,Tryz.ntmps3
 have ka_c0:=ka.here.cell 0 _ rfl
 have ka_c1:=ka.here.cell 1 _ rfl
 go_wp2_with fail
 clear ka_c0 ka_c1
 refine (szT_cal _ a (1048576) _ (capT_of hza) (by omega) (by omega) (RFa.out _ bb0)).mono ?_
 rintro e w1 ⟨rfl,b1⟩
 rw [leftI_of (by omega)]
 have bb1:=Below.next bb0 b1
 replace ka:=ka.below b1
 replace km:=km.below b1
 have hn:decide (((1048576:Int) - szT a:Int) < 0) = false:=decide_eq_false (by omega)
 have km_c0:=km.here.cell 0 _ rfl
 have km_c1:=km.here.cell 1 _ rfl
 have km_c2:=km.here.cell 2 _ rfl
 go_wp2_with fail
 clear km_c0 km_c1 km_c2
 refine (szM_cal _ m (1048576 - szT a) _ (capM_of hzm) (by omega) (by omega) (RFm.out _ bb1)).mono ?_
 rintro e w2 ⟨rfl,b2⟩
 rw [leftI_of (by omega)]
 have bb2:=Below.next bb1 b2
 replace ka:=ka.below b2
 replace km:=km.below b2
 clear hn
 have hn:decide (((1048576:Int) - szT a - szM m:Int) < 0) = false:=decide_eq_false (by omega)
 have HKa:=Lib.hid (ka.lt (w.heap.size) (by simp))
 have HKm:=Lib.hid (km.lt (w.heap.size+1) (by simp))
 have ka_c0:=ka.here.cell 0 _ rfl
 have ka_c1:=ka.here.cell 1 _ rfl
 have km_c0:=km.here.cell 0 _ rfl
 have km_c1:=km.here.cell 1 _ rfl
 have km_c2:=km.here.cell 2 _ rfl
 go_upto_region 10 with fail
 go_cut [10,11,12] (fun s t c2 wx=>NewLocP 34 36 (fun v=>OwnM v R0) (fun v=>OwnQ v R1) w2 s t wx∧c2 = .int .i64 R2)
 case first =>
  have KL:=Lib.hid (show ∀ W,Below w2.heap.size w2 W→W.cell? ⟨w.heap.size,0,none⟩ = some (.string a.1)∧W.cell? ⟨w.heap.size,1,none⟩ = some (.slice Aa a.2.length ca)∧W.cell? ⟨w.heap.size+1,0,none⟩ = some (.string m.1)∧W.cell? ⟨w.heap.size+1,1,none⟩ = some (.bool m.2.1)∧W.cell? ⟨w.heap.size+1,2,none⟩ = some (.slice Am m.2.2.length cm)∧Hid (Below w2.heap.size w2 W) from
   fun W hb=>⟨(ka.below hb).here.cell 0 _ rfl,(ka.below hb).here.cell 1 _ rfl,(km.below hb).here.cell 0 _ rfl,(km.below hb).here.cell 1 _ rfl,(km.below hb).here.cell 2 _ rfl,Lib.hid hb⟩)
  have BBF:=Lib.hid (show ∀ W,Below w2.heap.size w2 W→Below w.heap.size w W from fun W hb=>Below.next bb2 hb)
  have HZa:=Lib.hid hza
  have HZm:=Lib.hid hzm
  have X0:=Lib.hid (show BxP [] w2 w2.drew from BxP.nil_ (Below.refl _ _).drew)
  try clear ka_c0;try clear ka_c1;try clear km_c0;try clear km_c1;try clear km_c2;try clear hn
  try clear hk;try clear hsa;try clear hsm;try clear hsR0;try clear hsR1;try clear hma
  try clear hmm;try clear hmR0;try clear hmR1;try clear hza;try clear hzm;try clear hl
  try clear hla;try clear hlm;try clear hlq;try clear hlk;try clear hlR0;try clear hlR1
  try clear ra;try clear rm;try clear bb0;try clear bb1;try clear bb2;try clear b1
  try clear b2;try clear c1;try clear c2;try clear hq1;try clear hq2;try clear ka
  try clear km;try clear HKa;try clear HKm
  refine wp_region_held_drew (S:=fun W=>W.cell? ⟨w.heap.size,0,none⟩ = some (.string a.1)∧W.cell? ⟨w.heap.size,1,none⟩ = some (.slice Aa a.2.length ca)∧W.cell? ⟨w.heap.size+1,0,none⟩ = some (.string m.1)∧W.cell? ⟨w.heap.size+1,1,none⟩ = some (.bool m.2.1)∧W.cell? ⟨w.heap.size+1,2,none⟩ = some (.slice Am m.2.2.length cm)∧Hid (Below w2.heap.size w2 W)) (by kernel_rfl) ?_ (fun hHeld=>?_)
  ·exact KL.out _ X0.out.2.2
  refine wpAnyH_take (i:=0) (v:=?_) rfl (by kernel_rfl) (by kernel_rfl) (by kernel_rfl) (fun _ _ _ h=>h) (Or.inl ⟨by kernel_rfl,?_⟩) (by assumption) ?_
  rotate_left
  ·(intro w hSw;(try dsimp only at hSw);go_simp;(try with_reducible rfl))
  (try simp only [Act.put,List.getElem_toArray,List.getElem_cons_zero,List.setIfInBounds_toArray,List.set_cons_zero,List.set_cons_succ])
  refine wpAnyH_take (i:=2) (v:=?_) rfl (by kernel_rfl) (by kernel_rfl) (by kernel_rfl) (fun _ _ _ h=>h) (Or.inl ⟨by kernel_rfl,?_⟩) (by assumption) ?_
  rotate_left
  ·(intro w hSw;(try dsimp only at hSw);go_simp;(try with_reducible rfl))
  (try simp only [Act.put,List.getElem_toArray,List.getElem_cons_zero,List.getElem_cons_succ,List.setIfInBounds_toArray,List.set_cons_zero,List.set_cons_succ])
  refine wpAnyH_take (i:=4) (v:=?_) rfl (by kernel_rfl) (by kernel_rfl) (by kernel_rfl) (fun _ _ _ h=>h) (Or.inl ⟨by kernel_rfl,?_⟩) (by assumption) ?_
  rotate_left
  ·(intro w hSw;(try dsimp only at hSw);go_simp;(try with_reducible rfl))
  (try simp only [Act.put,List.getElem_toArray,List.getElem_cons_zero,List.getElem_cons_succ,List.setIfInBounds_toArray,List.set_cons_zero,List.set_cons_succ])
  refine wpAnyH_take (i:=5) (v:=?_) rfl (by kernel_rfl) (by kernel_rfl) (by kernel_rfl) (fun _ _ _ h=>h) (Or.inl ⟨by kernel_rfl,?_⟩) (by assumption) ?_
  rotate_left
  ·(intro w hSw;(try dsimp only at hSw);go_simp;(try with_reducible rfl))
  (try simp only [Act.put,List.getElem_toArray,List.getElem_cons_zero,List.getElem_cons_succ,List.setIfInBounds_toArray,List.set_cons_zero,List.set_cons_succ])
  have X:=X0.out
  clear X0 hHeld
  generalize w2.drew = W at X ⊢
  revert X
  revert W
  apply memoG
  intro key311
  apply memoG
  intro key310
  apply memoG
  intro key301
  apply memoG
  intro key300
  apply memoG
  intro key211
  apply memoG
  intro key210
  apply memoG
  intro key201
  apply memoG
  intro key200
  apply memoG
  intro key111
  apply memoG
  intro key110
  apply memoG
  intro key101
  apply memoG
  intro key100
  apply memoG
  intro key011
  apply memoG
  intro key010
  apply memoG
  intro key001
  ·intro W X
   have hHeld:=KL.out _ X.2.2
   refine wpAnyH_ready (rs:=[1,11,12]) (by kernel_rfl) (by simp) ?_
   refine AllReadyH.cons rfl (fun K hK=>?_) ?_
   ·go_simp
    go_at_call 7
    refine (toT_new _ a _ HZa.out (RFa.out _ (BBF.out _ X.2.2))).mono ?_
    rintro e W2 ⟨ta,Sta,rfl,ota,lta,bta⟩
    refine hK.out _ _ ?_ (fun hHeld2=>?_)
    ·exact KL.out _ (Below.next X.2.2 bta)
    clear hK K hHeld
    (try simp only [Act.put,List.getElem_toArray,List.getElem_cons_zero,List.getElem_cons_succ,List.setIfInBounds_toArray,List.set_cons_zero,List.set_cons_succ])
    have X2:=BxP.call X bta
    clear hHeld2 lta bta X
    clear W
    rename World=>W
    have X:=X2
    clear X2
    revert ota
    revert X
    revert Sta
    revert ta
    revert W
    exact key100
   refine AllReadyH.cons rfl (fun K hK=>?_) ?_
   ·go_simp
    refine hK.out _ _ ?_ (fun hHeld2=>?_)
    ·exact KL.out _ (below_al X.2.2 _)
    clear hK K hHeld hHeld2
    (try simp only [Act.put,List.getElem_toArray,List.getElem_cons_zero,List.getElem_cons_succ,List.setIfInBounds_toArray,List.set_cons_zero,List.set_cons_succ])
    have X2:=BxP.al X #[.string ⟨#[]⟩,.bool false,.slice none 0 0] 34
    clear X
    generalize W.alloc (.cells #[.string ⟨#[]⟩,.bool false,.slice none 0 0] 34) = W2 at *
    generalize W.heap.size = gA at *
    clear W
    rename World=>W
    have X:=X2
    clear X2
    revert X
    revert W
    revert gA
    exact key010
   refine AllReadyH.cons rfl (fun K hK=>?_) ?_
   ·go_simp
    refine hK.out _ _ ?_ (fun hHeld2=>?_)
    ·exact KL.out _ (below_al X.2.2 _)
    clear hK K hHeld hHeld2
    (try simp only [Act.put,List.getElem_toArray,List.getElem_cons_zero,List.getElem_cons_succ,List.setIfInBounds_toArray,List.set_cons_zero,List.set_cons_succ])
    have X2:=BxP.al X #[.bool false,.slice none 0 0,.slice none 0 0] 36
    clear X
    generalize W.alloc (.cells #[.bool false,.slice none 0 0,.slice none 0 0] 36) = W2 at *
    generalize W.heap.size = gB at *
    clear W
    rename World=>W
    have X:=X2
    clear X2
    revert X
    revert W
    revert gB
    exact key001
   exact AllReadyH.nil
  ·intro gB W X
   have hHeld:=KL.out _ X.2.2
   refine wpAnyH_ready (rs:=[1,11]) (by kernel_rfl) (by simp) ?_
   refine AllReadyH.cons rfl (fun K hK=>?_) ?_
   ·go_simp
    go_at_call 7
    refine (toT_new _ a _ HZa.out (RFa.out _ (BBF.out _ X.2.2))).mono ?_
    rintro e W2 ⟨ta,Sta,rfl,ota,lta,bta⟩
    refine hK.out _ _ ?_ (fun hHeld2=>?_)
    ·exact KL.out _ (Below.next X.2.2 bta)
    clear hK K hHeld
    (try simp only [Act.put,List.getElem_toArray,List.getElem_cons_zero,List.getElem_cons_succ,List.setIfInBounds_toArray,List.set_cons_zero,List.set_cons_succ])
    have X2:=BxP.call X bta
    clear hHeld2 lta bta X
    clear W
    rename World=>W
    have X:=X2
    clear X2
    revert ota
    revert X
    revert Sta
    revert ta
    revert W
    revert gB
    exact key101
   refine AllReadyH.cons rfl (fun K hK=>?_) ?_
   ·go_simp
    refine hK.out _ _ ?_ (fun hHeld2=>?_)
    ·exact KL.out _ (below_al X.2.2 _)
    clear hK K hHeld hHeld2
    (try simp only [Act.put,List.getElem_toArray,List.getElem_cons_zero,List.getElem_cons_succ,List.setIfInBounds_toArray,List.set_cons_zero,List.set_cons_succ])
    have X2:=BxP.al X #[.string ⟨#[]⟩,.bool false,.slice none 0 0] 34
    clear X
    generalize W.alloc (.cells #[.string ⟨#[]⟩,.bool false,.slice none 0 0] 34) = W2 at *
    generalize W.heap.size = gA at *
    clear W
    rename World=>W
    have X:=X2
    clear X2
    revert X
    revert W
    revert gB
    revert gA
    exact key011
   exact AllReadyH.nil
  ·intro gA W X
   have hHeld:=KL.out _ X.2.2
   refine wpAnyH_ready (rs:=[1,12]) (by kernel_rfl) (by simp) ?_
   refine AllReadyH.cons rfl (fun K hK=>?_) ?_
   ·go_simp
    go_at_call 7
    refine (toT_new _ a _ HZa.out (RFa.out _ (BBF.out _ X.2.2))).mono ?_
    rintro e W2 ⟨ta,Sta,rfl,ota,lta,bta⟩
    refine hK.out _ _ ?_ (fun hHeld2=>?_)
    ·exact KL.out _ (Below.next X.2.2 bta)
    clear hK K hHeld
    (try simp only [Act.put,List.getElem_toArray,List.getElem_cons_zero,List.getElem_cons_succ,List.setIfInBounds_toArray,List.set_cons_zero,List.set_cons_succ])
    have X2:=BxP.call X bta
    clear hHeld2 lta bta X
    clear W
    rename World=>W
    have X:=X2
    clear X2
    revert ota
    revert X
    revert Sta
    revert ta
    revert W
    revert gA
    exact key110
   refine AllReadyH.cons rfl (fun K hK=>?_) ?_
   ·go_simp
    refine hK.out _ _ ?_ (fun hHeld2=>?_)
    ·exact KL.out _ (below_al X.2.2 _)
    clear hK K hHeld hHeld2
    (try simp only [Act.put,List.getElem_toArray,List.getElem_cons_zero,List.getElem_cons_succ,List.setIfInBounds_toArray,List.set_cons_zero,List.set_cons_succ])
    have X2:=BxP.al X #[.bool false,.slice none 0 0,.slice none 0 0] 36
    clear X
    generalize W.alloc (.cells #[.bool false,.slice none 0 0,.slice none 0 0] 36) = W2 at *
    generalize W.heap.size = gB at *
    clear W
    rename World=>W
    have X:=BxP.symm X2
    clear X2
    revert X
    revert W
    revert gB
    revert gA
    exact key011
   exact AllReadyH.nil
  ·intro gA gB W X
   have hHeld:=KL.out _ X.2.2
   refine wpAnyH_ready (rs:=[1]) (by kernel_rfl) (by simp) ?_
   refine AllReadyH.cons rfl (fun K hK=>?_) ?_
   ·go_simp
    go_at_call 7
    refine (toT_new _ a _ HZa.out (RFa.out _ (BBF.out _ X.2.2))).mono ?_
    rintro e W2 ⟨ta,Sta,rfl,ota,lta,bta⟩
    refine hK.out _ _ ?_ (fun hHeld2=>?_)
    ·exact KL.out _ (Below.next X.2.2 bta)
    clear hK K hHeld
    (try simp only [Act.put,List.getElem_toArray,List.getElem_cons_zero,List.getElem_cons_succ,List.setIfInBounds_toArray,List.set_cons_zero,List.set_cons_succ])
    have X2:=BxP.call X bta
    clear hHeld2 lta bta X
    clear W
    rename World=>W
    have X:=X2
    clear X2
    revert ota
    revert X
    revert Sta
    revert ta
    revert W
    revert gB
    revert gA
    exact key111
   exact AllReadyH.nil
  ·intro W ta Sta X ota
   have hHeld:=KL.out _ X.2.2
   refine wpAnyH_ready (rs:=[3,11,12]) (by kernel_rfl) (by simp) ?_
   refine AllReadyH.cons rfl (fun K hK=>?_) ?_
   ·go_simp
    go_at_call 8
    refine (toM_new _ m _ HZm.out (RFm.out _ (BBF.out _ X.2.2))).mono ?_
    rintro e W2 ⟨tm,Stm,rfl,otm,ltm,btm⟩
    refine hK.out _ _ ?_ (fun hHeld2=>?_)
    ·exact KL.out _ (Below.next X.2.2 btm)
    clear hK K hHeld
    (try simp only [Act.put,List.getElem_toArray,List.getElem_cons_zero,List.getElem_cons_succ,List.setIfInBounds_toArray,List.set_cons_zero,List.set_cons_succ])
    have X2:=BxP.call X btm
    have ota2:=At.below ota btm
    clear hHeld2 ltm btm X ota
    clear W
    rename World=>W
    have X:=X2
    clear X2
    have ota:=ota2
    clear ota2
    revert otm
    revert ota
    revert X
    revert Stm
    revert tm
    revert Sta
    revert ta
    revert W
    exact key200
   refine AllReadyH.cons rfl (fun K hK=>?_) ?_
   ·go_simp
    refine hK.out _ _ ?_ (fun hHeld2=>?_)
    ·exact KL.out _ (below_al X.2.2 _)
    clear hK K hHeld hHeld2
    (try simp only [Act.put,List.getElem_toArray,List.getElem_cons_zero,List.getElem_cons_succ,List.setIfInBounds_toArray,List.set_cons_zero,List.set_cons_succ])
    have X2:=BxP.al X #[.string ⟨#[]⟩,.bool false,.slice none 0 0] 34
    have ota2:=At.below ota (below_al (Below.refl _ _) (.cells #[.string ⟨#[]⟩,.bool false,.slice none 0 0] 34))
    clear X ota
    generalize W.alloc (.cells #[.string ⟨#[]⟩,.bool false,.slice none 0 0] 34) = W2 at *
    generalize W.heap.size = gA at *
    clear W
    rename World=>W
    have X:=X2
    clear X2
    have ota:=ota2
    clear ota2
    revert ota
    revert X
    revert Sta
    revert ta
    revert W
    revert gA
    exact key110
   refine AllReadyH.cons rfl (fun K hK=>?_) ?_
   ·go_simp
    refine hK.out _ _ ?_ (fun hHeld2=>?_)
    ·exact KL.out _ (below_al X.2.2 _)
    clear hK K hHeld hHeld2
    (try simp only [Act.put,List.getElem_toArray,List.getElem_cons_zero,List.getElem_cons_succ,List.setIfInBounds_toArray,List.set_cons_zero,List.set_cons_succ])
    have X2:=BxP.al X #[.bool false,.slice none 0 0,.slice none 0 0] 36
    have ota2:=At.below ota (below_al (Below.refl _ _) (.cells #[.bool false,.slice none 0 0,.slice none 0 0] 36))
    clear X ota
    generalize W.alloc (.cells #[.bool false,.slice none 0 0,.slice none 0 0] 36) = W2 at *
    generalize W.heap.size = gB at *
    clear W
    rename World=>W
    have X:=X2
    clear X2
    have ota:=ota2
    clear ota2
    revert ota
    revert X
    revert Sta
    revert ta
    revert W
    revert gB
    exact key101
   exact AllReadyH.nil
  ·intro gB W ta Sta X ota
   have hHeld:=KL.out _ X.2.2
   refine wpAnyH_ready (rs:=[3,11]) (by kernel_rfl) (by simp) ?_
   refine AllReadyH.cons rfl (fun K hK=>?_) ?_
   ·go_simp
    go_at_call 8
    refine (toM_new _ m _ HZm.out (RFm.out _ (BBF.out _ X.2.2))).mono ?_
    rintro e W2 ⟨tm,Stm,rfl,otm,ltm,btm⟩
    refine hK.out _ _ ?_ (fun hHeld2=>?_)
    ·exact KL.out _ (Below.next X.2.2 btm)
    clear hK K hHeld
    (try simp only [Act.put,List.getElem_toArray,List.getElem_cons_zero,List.getElem_cons_succ,List.setIfInBounds_toArray,List.set_cons_zero,List.set_cons_succ])
    have X2:=BxP.call X btm
    have ota2:=At.below ota btm
    clear hHeld2 ltm btm X ota
    clear W
    rename World=>W
    have X:=X2
    clear X2
    have ota:=ota2
    clear ota2
    revert otm
    revert ota
    revert X
    revert Stm
    revert tm
    revert Sta
    revert ta
    revert W
    revert gB
    exact key201
   refine AllReadyH.cons rfl (fun K hK=>?_) ?_
   ·go_simp
    refine hK.out _ _ ?_ (fun hHeld2=>?_)
    ·exact KL.out _ (below_al X.2.2 _)
    clear hK K hHeld hHeld2
    (try simp only [Act.put,List.getElem_toArray,List.getElem_cons_zero,List.getElem_cons_succ,List.setIfInBounds_toArray,List.set_cons_zero,List.set_cons_succ])
    have X2:=BxP.al X #[.string ⟨#[]⟩,.bool false,.slice none 0 0] 34
    have ota2:=At.below ota (below_al (Below.refl _ _) (.cells #[.string ⟨#[]⟩,.bool false,.slice none 0 0] 34))
    clear X ota
    generalize W.alloc (.cells #[.string ⟨#[]⟩,.bool false,.slice none 0 0] 34) = W2 at *
    generalize W.heap.size = gA at *
    clear W
    rename World=>W
    have X:=X2
    clear X2
    have ota:=ota2
    clear ota2
    revert ota
    revert X
    revert Sta
    revert ta
    revert W
    revert gB
    revert gA
    exact key111
   exact AllReadyH.nil
  ·intro gA W ta Sta X ota
   have hHeld:=KL.out _ X.2.2
   refine wpAnyH_ready (rs:=[3,12]) (by kernel_rfl) (by simp) ?_
   refine AllReadyH.cons rfl (fun K hK=>?_) ?_
   ·go_simp
    go_at_call 8
    refine (toM_new _ m _ HZm.out (RFm.out _ (BBF.out _ X.2.2))).mono ?_
    rintro e W2 ⟨tm,Stm,rfl,otm,ltm,btm⟩
    refine hK.out _ _ ?_ (fun hHeld2=>?_)
    ·exact KL.out _ (Below.next X.2.2 btm)
    clear hK K hHeld
    (try simp only [Act.put,List.getElem_toArray,List.getElem_cons_zero,List.getElem_cons_succ,List.setIfInBounds_toArray,List.set_cons_zero,List.set_cons_succ])
    have X2:=BxP.call X btm
    have ota2:=At.below ota btm
    clear hHeld2 ltm btm X ota
    clear W
    rename World=>W
    have X:=X2
    clear X2
    have ota:=ota2
    clear ota2
    revert otm
    revert ota
    revert X
    revert Stm
    revert tm
    revert Sta
    revert ta
    revert W
    revert gA
    exact key210
   refine AllReadyH.cons rfl (fun K hK=>?_) ?_
   ·go_simp
    refine hK.out _ _ ?_ (fun hHeld2=>?_)
    ·exact KL.out _ (below_al X.2.2 _)
    clear hK K hHeld hHeld2
    (try simp only [Act.put,List.getElem_toArray,List.getElem_cons_zero,List.getElem_cons_succ,List.setIfInBounds_toArray,List.set_cons_zero,List.set_cons_succ])
    have X2:=BxP.al X #[.bool false,.slice none 0 0,.slice none 0 0] 36
    have ota2:=At.below ota (below_al (Below.refl _ _) (.cells #[.bool false,.slice none 0 0,.slice none 0 0] 36))
    clear X ota
    generalize W.alloc (.cells #[.bool false,.slice none 0 0,.slice none 0 0] 36) = W2 at *
    generalize W.heap.size = gB at *
    clear W
    rename World=>W
    have X:=BxP.symm X2
    clear X2
    have ota:=ota2
    clear ota2
    revert ota
    revert X
    revert Sta
    revert ta
    revert W
    revert gB
    revert gA
    exact key111
   exact AllReadyH.nil
  ·intro gA gB W ta Sta X ota
   have hHeld:=KL.out _ X.2.2
   refine wpAnyH_ready (rs:=[3]) (by kernel_rfl) (by simp) ?_
   refine AllReadyH.cons rfl (fun K hK=>?_) ?_
   ·go_simp
    go_at_call 8
    refine (toM_new _ m _ HZm.out (RFm.out _ (BBF.out _ X.2.2))).mono ?_
    rintro e W2 ⟨tm,Stm,rfl,otm,ltm,btm⟩
    refine hK.out _ _ ?_ (fun hHeld2=>?_)
    ·exact KL.out _ (Below.next X.2.2 btm)
    clear hK K hHeld
    (try simp only [Act.put,List.getElem_toArray,List.getElem_cons_zero,List.getElem_cons_succ,List.setIfInBounds_toArray,List.set_cons_zero,List.set_cons_succ])
    have X2:=BxP.call X btm
    have ota2:=At.below ota btm
    clear hHeld2 ltm btm X ota
    clear W
    rename World=>W
    have X:=X2
    clear X2
    have ota:=ota2
    clear ota2
    revert otm
    revert ota
    revert X
    revert Stm
    revert tm
    revert Sta
    revert ta
    revert W
    revert gB
    revert gA
    exact key211
   exact AllReadyH.nil
  ·intro W ta Sta tm Stm X ota otm
   have hHeld:=KL.out _ X.2.2
   refine wpAnyH_ready (rs:=[6,11,12]) (by kernel_rfl) (by simp) ?_
   refine AllReadyH.cons rfl (fun K hK=>?_) ?_
   ·go_simp
    go_at_call 6
    refine (HS.out _ _ _ ota.here otm.here).mono ?_
    rintro e W2 ⟨uf,vf,Sf,Df,rfl,of,pf,hapf,lf,kf,bf⟩
    obtain ⟨Af,cf,rfl⟩:=ownM_form of.here
    obtain ⟨Ah,ch,Bh,dh,rfl⟩:=ownQ_form pf.here
    refine hK.out _ _ ?_ (fun hHeld2=>?_)
    ·exact KL.out _ (Below.next X.2.2 bf)
    clear hK K hHeld
    (try simp only [Act.put,List.getElem_toArray,List.getElem_cons_zero,List.getElem_cons_succ,List.setIfInBounds_toArray,List.set_cons_zero,List.set_cons_succ])
    refine wpAnyH_take (i:=7) (v:=?_) rfl (by kernel_rfl) (by kernel_rfl) (by kernel_rfl) (fun _ _ _ h=>h) (Or.inl ⟨by kernel_rfl,?_⟩) (by assumption) ?_
    rotate_left
    ·(intro w hSw;(try dsimp only at hSw);go_simp;(try with_reducible rfl))
    (try simp only [Act.put,List.getElem_toArray,List.getElem_cons_zero,List.getElem_cons_succ,List.setIfInBounds_toArray,List.set_cons_zero,List.set_cons_succ])
    refine wpAnyH_take (i:=8) (v:=?_) rfl (by kernel_rfl) (by kernel_rfl) (by kernel_rfl) (fun _ _ _ h=>h) (Or.inl ⟨by kernel_rfl,?_⟩) (by assumption) ?_
    rotate_left
    ·(intro w hSw;(try dsimp only at hSw);go_simp;(try with_reducible rfl))
    (try simp only [Act.put,List.getElem_toArray,List.getElem_cons_zero,List.getElem_cons_succ,List.setIfInBounds_toArray,List.set_cons_zero,List.set_cons_succ])
    refine wpAnyH_take (i:=9) (v:=?_) rfl (by kernel_rfl) (by kernel_rfl) (by kernel_rfl) (fun _ _ _ h=>h) (Or.inl ⟨by kernel_rfl,?_⟩) (by assumption) ?_
    rotate_left
    ·(intro w hSw;(try dsimp only at hSw);go_simp;(try with_reducible rfl))
    (try simp only [Act.put,List.getElem_toArray,List.getElem_cons_zero,List.getElem_cons_succ,List.setIfInBounds_toArray,List.set_cons_zero,List.set_cons_succ])
    refine wpAnyH_take (i:=10) (v:=?_) rfl (by kernel_rfl) (by kernel_rfl) (by kernel_rfl) (fun _ _ _ h=>h) (Or.inl ⟨by kernel_rfl,?_⟩) (by assumption) ?_
    rotate_left
    ·(intro w hSw;(try dsimp only at hSw);go_simp;(try with_reducible rfl))
    (try simp only [Act.put,List.getElem_toArray,List.getElem_cons_zero,List.getElem_cons_succ,List.setIfInBounds_toArray,List.set_cons_zero,List.set_cons_succ])
    have RY:=ReadyP.of X bf of pf hapf lf kf
    clear hHeld2 of pf hapf lf kf bf Sf Df X ota otm
    clear Sta Stm W
    rename World=>W
    revert RY
    revert dh
    revert Bh
    revert ch
    revert Ah
    revert cf
    revert Af
    revert tm
    revert ta
    revert W
    exact key300
   refine AllReadyH.cons rfl (fun K hK=>?_) ?_
   ·go_simp
    refine hK.out _ _ ?_ (fun hHeld2=>?_)
    ·exact KL.out _ (below_al X.2.2 _)
    clear hK K hHeld hHeld2
    (try simp only [Act.put,List.getElem_toArray,List.getElem_cons_zero,List.getElem_cons_succ,List.setIfInBounds_toArray,List.set_cons_zero,List.set_cons_succ])
    have X2:=BxP.al X #[.string ⟨#[]⟩,.bool false,.slice none 0 0] 34
    have ota2:=At.below ota (below_al (Below.refl _ _) (.cells #[.string ⟨#[]⟩,.bool false,.slice none 0 0] 34))
    have otm2:=At.below otm (below_al (Below.refl _ _) (.cells #[.string ⟨#[]⟩,.bool false,.slice none 0 0] 34))
    clear X ota otm
    generalize W.alloc (.cells #[.string ⟨#[]⟩,.bool false,.slice none 0 0] 34) = W2 at *
    generalize W.heap.size = gA at *
    clear W
    rename World=>W
    have X:=X2
    clear X2
    have ota:=ota2
    clear ota2
    have otm:=otm2
    clear otm2
    revert otm
    revert ota
    revert X
    revert Stm
    revert tm
    revert Sta
    revert ta
    revert W
    revert gA
    exact key210
   refine AllReadyH.cons rfl (fun K hK=>?_) ?_
   ·go_simp
    refine hK.out _ _ ?_ (fun hHeld2=>?_)
    ·exact KL.out _ (below_al X.2.2 _)
    clear hK K hHeld hHeld2
    (try simp only [Act.put,List.getElem_toArray,List.getElem_cons_zero,List.getElem_cons_succ,List.setIfInBounds_toArray,List.set_cons_zero,List.set_cons_succ])
    have X2:=BxP.al X #[.bool false,.slice none 0 0,.slice none 0 0] 36
    have ota2:=At.below ota (below_al (Below.refl _ _) (.cells #[.bool false,.slice none 0 0,.slice none 0 0] 36))
    have otm2:=At.below otm (below_al (Below.refl _ _) (.cells #[.bool false,.slice none 0 0,.slice none 0 0] 36))
    clear X ota otm
    generalize W.alloc (.cells #[.bool false,.slice none 0 0,.slice none 0 0] 36) = W2 at *
    generalize W.heap.size = gB at *
    clear W
    rename World=>W
    have X:=X2
    clear X2
    have ota:=ota2
    clear ota2
    have otm:=otm2
    clear otm2
    revert otm
    revert ota
    revert X
    revert Stm
    revert tm
    revert Sta
    revert ta
    revert W
    revert gB
    exact key201
   exact AllReadyH.nil
  ·intro gB W ta Sta tm Stm X ota otm
   have hHeld:=KL.out _ X.2.2
   refine wpAnyH_ready (rs:=[6,11]) (by kernel_rfl) (by simp) ?_
   refine AllReadyH.cons rfl (fun K hK=>?_) ?_
   ·go_simp
    go_at_call 6
    refine (HS.out _ _ _ ota.here otm.here).mono ?_
    rintro e W2 ⟨uf,vf,Sf,Df,rfl,of,pf,hapf,lf,kf,bf⟩
    obtain ⟨Af,cf,rfl⟩:=ownM_form of.here
    obtain ⟨Ah,ch,Bh,dh,rfl⟩:=ownQ_form pf.here
    refine hK.out _ _ ?_ (fun hHeld2=>?_)
    ·exact KL.out _ (Below.next X.2.2 bf)
    clear hK K hHeld
    (try simp only [Act.put,List.getElem_toArray,List.getElem_cons_zero,List.getElem_cons_succ,List.setIfInBounds_toArray,List.set_cons_zero,List.set_cons_succ])
    refine wpAnyH_take (i:=7) (v:=?_) rfl (by kernel_rfl) (by kernel_rfl) (by kernel_rfl) (fun _ _ _ h=>h) (Or.inl ⟨by kernel_rfl,?_⟩) (by assumption) ?_
    rotate_left
    ·(intro w hSw;(try dsimp only at hSw);go_simp;(try with_reducible rfl))
    (try simp only [Act.put,List.getElem_toArray,List.getElem_cons_zero,List.getElem_cons_succ,List.setIfInBounds_toArray,List.set_cons_zero,List.set_cons_succ])
    refine wpAnyH_take (i:=8) (v:=?_) rfl (by kernel_rfl) (by kernel_rfl) (by kernel_rfl) (fun _ _ _ h=>h) (Or.inl ⟨by kernel_rfl,?_⟩) (by assumption) ?_
    rotate_left
    ·(intro w hSw;(try dsimp only at hSw);go_simp;(try with_reducible rfl))
    (try simp only [Act.put,List.getElem_toArray,List.getElem_cons_zero,List.getElem_cons_succ,List.setIfInBounds_toArray,List.set_cons_zero,List.set_cons_succ])
    refine wpAnyH_take (i:=9) (v:=?_) rfl (by kernel_rfl) (by kernel_rfl) (by kernel_rfl) (fun _ _ _ h=>h) (Or.inl ⟨by kernel_rfl,?_⟩) (by assumption) ?_
    rotate_left
    ·(intro w hSw;(try dsimp only at hSw);go_simp;(try with_reducible rfl))
    (try simp only [Act.put,List.getElem_toArray,List.getElem_cons_zero,List.getElem_cons_succ,List.setIfInBounds_toArray,List.set_cons_zero,List.set_cons_succ])
    refine wpAnyH_take (i:=10) (v:=?_) rfl (by kernel_rfl) (by kernel_rfl) (by kernel_rfl) (fun _ _ _ h=>h) (Or.inl ⟨by kernel_rfl,?_⟩) (by assumption) ?_
    rotate_left
    ·(intro w hSw;(try dsimp only at hSw);go_simp;(try with_reducible rfl))
    (try simp only [Act.put,List.getElem_toArray,List.getElem_cons_zero,List.getElem_cons_succ,List.setIfInBounds_toArray,List.set_cons_zero,List.set_cons_succ])
    have RY:=ReadyP.of X bf of pf hapf lf kf
    clear hHeld2 of pf hapf lf kf bf Sf Df X ota otm
    clear Sta Stm W
    rename World=>W
    revert RY
    revert dh
    revert Bh
    revert ch
    revert Ah
    revert cf
    revert Af
    revert tm
    revert ta
    revert W
    revert gB
    exact key301
   refine AllReadyH.cons rfl (fun K hK=>?_) ?_
   ·go_simp
    refine hK.out _ _ ?_ (fun hHeld2=>?_)
    ·exact KL.out _ (below_al X.2.2 _)
    clear hK K hHeld hHeld2
    (try simp only [Act.put,List.getElem_toArray,List.getElem_cons_zero,List.getElem_cons_succ,List.setIfInBounds_toArray,List.set_cons_zero,List.set_cons_succ])
    have X2:=BxP.al X #[.string ⟨#[]⟩,.bool false,.slice none 0 0] 34
    have ota2:=At.below ota (below_al (Below.refl _ _) (.cells #[.string ⟨#[]⟩,.bool false,.slice none 0 0] 34))
    have otm2:=At.below otm (below_al (Below.refl _ _) (.cells #[.string ⟨#[]⟩,.bool false,.slice none 0 0] 34))
    clear X ota otm
    generalize W.alloc (.cells #[.string ⟨#[]⟩,.bool false,.slice none 0 0] 34) = W2 at *
    generalize W.heap.size = gA at *
    clear W
    rename World=>W
    have X:=X2
    clear X2
    have ota:=ota2
    clear ota2
    have otm:=otm2
    clear otm2
    revert otm
    revert ota
    revert X
    revert Stm
    revert tm
    revert Sta
    revert ta
    revert W
    revert gB
    revert gA
    exact key211
   exact AllReadyH.nil
  ·intro gA W ta Sta tm Stm X ota otm
   have hHeld:=KL.out _ X.2.2
   refine wpAnyH_ready (rs:=[6,12]) (by kernel_rfl) (by simp) ?_
   refine AllReadyH.cons rfl (fun K hK=>?_) ?_
   ·go_simp
    go_at_call 6
    refine (HS.out _ _ _ ota.here otm.here).mono ?_
    rintro e W2 ⟨uf,vf,Sf,Df,rfl,of,pf,hapf,lf,kf,bf⟩
    obtain ⟨Af,cf,rfl⟩:=ownM_form of.here
    obtain ⟨Ah,ch,Bh,dh,rfl⟩:=ownQ_form pf.here
    refine hK.out _ _ ?_ (fun hHeld2=>?_)
    ·exact KL.out _ (Below.next X.2.2 bf)
    clear hK K hHeld
    (try simp only [Act.put,List.getElem_toArray,List.getElem_cons_zero,List.getElem_cons_succ,List.setIfInBounds_toArray,List.set_cons_zero,List.set_cons_succ])
    refine wpAnyH_take (i:=7) (v:=?_) rfl (by kernel_rfl) (by kernel_rfl) (by kernel_rfl) (fun _ _ _ h=>h) (Or.inl ⟨by kernel_rfl,?_⟩) (by assumption) ?_
    rotate_left
    ·(intro w hSw;(try dsimp only at hSw);go_simp;(try with_reducible rfl))
    (try simp only [Act.put,List.getElem_toArray,List.getElem_cons_zero,List.getElem_cons_succ,List.setIfInBounds_toArray,List.set_cons_zero,List.set_cons_succ])
    refine wpAnyH_take (i:=8) (v:=?_) rfl (by kernel_rfl) (by kernel_rfl) (by kernel_rfl) (fun _ _ _ h=>h) (Or.inl ⟨by kernel_rfl,?_⟩) (by assumption) ?_
    rotate_left
    ·(intro w hSw;(try dsimp only at hSw);go_simp;(try with_reducible rfl))
    (try simp only [Act.put,List.getElem_toArray,List.getElem_cons_zero,List.getElem_cons_succ,List.setIfInBounds_toArray,List.set_cons_zero,List.set_cons_succ])
    refine wpAnyH_take (i:=9) (v:=?_) rfl (by kernel_rfl) (by kernel_rfl) (by kernel_rfl) (fun _ _ _ h=>h) (Or.inl ⟨by kernel_rfl,?_⟩) (by assumption) ?_
    rotate_left
    ·(intro w hSw;(try dsimp only at hSw);go_simp;(try with_reducible rfl))
    (try simp only [Act.put,List.getElem_toArray,List.getElem_cons_zero,List.getElem_cons_succ,List.setIfInBounds_toArray,List.set_cons_zero,List.set_cons_succ])
    refine wpAnyH_take (i:=10) (v:=?_) rfl (by kernel_rfl) (by kernel_rfl) (by kernel_rfl) (fun _ _ _ h=>h) (Or.inl ⟨by kernel_rfl,?_⟩) (by assumption) ?_
    rotate_left
    ·(intro w hSw;(try dsimp only at hSw);go_simp;(try with_reducible rfl))
    (try simp only [Act.put,List.getElem_toArray,List.getElem_cons_zero,List.getElem_cons_succ,List.setIfInBounds_toArray,List.set_cons_zero,List.set_cons_succ])
    have RY:=ReadyP.of X bf of pf hapf lf kf
    clear hHeld2 of pf hapf lf kf bf Sf Df X ota otm
    clear Sta Stm W
    rename World=>W
    revert RY
    revert dh
    revert Bh
    revert ch
    revert Ah
    revert cf
    revert Af
    revert tm
    revert ta
    revert W
    revert gA
    exact key310
   refine AllReadyH.cons rfl (fun K hK=>?_) ?_
   ·go_simp
    refine hK.out _ _ ?_ (fun hHeld2=>?_)
    ·exact KL.out _ (below_al X.2.2 _)
    clear hK K hHeld hHeld2
    (try simp only [Act.put,List.getElem_toArray,List.getElem_cons_zero,List.getElem_cons_succ,List.setIfInBounds_toArray,List.set_cons_zero,List.set_cons_succ])
    have X2:=BxP.al X #[.bool false,.slice none 0 0,.slice none 0 0] 36
    have ota2:=At.below ota (below_al (Below.refl _ _) (.cells #[.bool false,.slice none 0 0,.slice none 0 0] 36))
    have otm2:=At.below otm (below_al (Below.refl _ _) (.cells #[.bool false,.slice none 0 0,.slice none 0 0] 36))
    clear X ota otm
    generalize W.alloc (.cells #[.bool false,.slice none 0 0,.slice none 0 0] 36) = W2 at *
    generalize W.heap.size = gB at *
    clear W
    rename World=>W
    have X:=BxP.symm X2
    clear X2
    have ota:=ota2
    clear ota2
    have otm:=otm2
    clear otm2
    revert otm
    revert ota
    revert X
    revert Stm
    revert tm
    revert Sta
    revert ta
    revert W
    revert gB
    revert gA
    exact key211
   exact AllReadyH.nil
  ·intro gA gB W ta Sta tm Stm X ota otm
   have hHeld:=KL.out _ X.2.2
   refine wpAnyH_ready (rs:=[6]) (by kernel_rfl) (by simp) ?_
   refine AllReadyH.cons rfl (fun K hK=>?_) ?_
   ·go_simp
    go_at_call 6
    refine (HS.out _ _ _ ota.here otm.here).mono ?_
    rintro e W2 ⟨uf,vf,Sf,Df,rfl,of,pf,hapf,lf,kf,bf⟩
    obtain ⟨Af,cf,rfl⟩:=ownM_form of.here
    obtain ⟨Ah,ch,Bh,dh,rfl⟩:=ownQ_form pf.here
    refine hK.out _ _ ?_ (fun hHeld2=>?_)
    ·exact KL.out _ (Below.next X.2.2 bf)
    clear hK K hHeld
    (try simp only [Act.put,List.getElem_toArray,List.getElem_cons_zero,List.getElem_cons_succ,List.setIfInBounds_toArray,List.set_cons_zero,List.set_cons_succ])
    refine wpAnyH_take (i:=7) (v:=?_) rfl (by kernel_rfl) (by kernel_rfl) (by kernel_rfl) (fun _ _ _ h=>h) (Or.inl ⟨by kernel_rfl,?_⟩) (by assumption) ?_
    rotate_left
    ·(intro w hSw;(try dsimp only at hSw);go_simp;(try with_reducible rfl))
    (try simp only [Act.put,List.getElem_toArray,List.getElem_cons_zero,List.getElem_cons_succ,List.setIfInBounds_toArray,List.set_cons_zero,List.set_cons_succ])
    refine wpAnyH_take (i:=8) (v:=?_) rfl (by kernel_rfl) (by kernel_rfl) (by kernel_rfl) (fun _ _ _ h=>h) (Or.inl ⟨by kernel_rfl,?_⟩) (by assumption) ?_
    rotate_left
    ·(intro w hSw;(try dsimp only at hSw);go_simp;(try with_reducible rfl))
    (try simp only [Act.put,List.getElem_toArray,List.getElem_cons_zero,List.getElem_cons_succ,List.setIfInBounds_toArray,List.set_cons_zero,List.set_cons_succ])
    refine wpAnyH_take (i:=9) (v:=?_) rfl (by kernel_rfl) (by kernel_rfl) (by kernel_rfl) (fun _ _ _ h=>h) (Or.inl ⟨by kernel_rfl,?_⟩) (by assumption) ?_
    rotate_left
    ·(intro w hSw;(try dsimp only at hSw);go_simp;(try with_reducible rfl))
    (try simp only [Act.put,List.getElem_toArray,List.getElem_cons_zero,List.getElem_cons_succ,List.setIfInBounds_toArray,List.set_cons_zero,List.set_cons_succ])
    refine wpAnyH_take (i:=10) (v:=?_) rfl (by kernel_rfl) (by kernel_rfl) (by kernel_rfl) (fun _ _ _ h=>h) (Or.inl ⟨by kernel_rfl,?_⟩) (by assumption) ?_
    rotate_left
    ·(intro w hSw;(try dsimp only at hSw);go_simp;(try with_reducible rfl))
    (try simp only [Act.put,List.getElem_toArray,List.getElem_cons_zero,List.getElem_cons_succ,List.setIfInBounds_toArray,List.set_cons_zero,List.set_cons_succ])
    have RY:=ReadyP.of X bf of pf hapf lf kf
    clear hHeld2 of pf hapf lf kf bf Sf Df X ota otm
    clear Sta Stm W
    rename World=>W
    revert RY
    revert dh
    revert Bh
    revert ch
    revert Ah
    revert cf
    revert Af
    revert tm
    revert ta
    revert W
    revert gB
    revert gA
    exact key311
   exact AllReadyH.nil
  ·intro W ta tm Af cf Ah ch Bh dh RY
   have hHeld:=KL.out _ RY.1.2.2
   refine wpAnyH_ready (rs:=[11,12]) (by kernel_rfl) (by simp) ?_
   refine AllReadyH.cons rfl (fun K hK=>?_) ?_
   ·go_simp
    refine hK.out _ _ ?_ (fun hHeld2=>?_)
    ·exact KL.out _ (below_al RY.1.2.2 _)
    clear hK K hHeld hHeld2
    (try simp only [Act.put,List.getElem_toArray,List.getElem_cons_zero,List.getElem_cons_succ,List.setIfInBounds_toArray,List.set_cons_zero,List.set_cons_succ])
    have RY2:=ReadyP.al RY #[.string ⟨#[]⟩,.bool false,.slice none 0 0] 34
    clear RY
    generalize W.alloc (.cells #[.string ⟨#[]⟩,.bool false,.slice none 0 0] 34) = W2 at *
    generalize W.heap.size = gA at *
    clear W
    rename World=>W
    have RY:=RY2
    clear RY2
    revert RY
    revert dh
    revert Bh
    revert ch
    revert Ah
    revert cf
    revert Af
    revert tm
    revert ta
    revert W
    revert gA
    exact key310
   refine AllReadyH.cons rfl (fun K hK=>?_) ?_
   ·go_simp
    refine hK.out _ _ ?_ (fun hHeld2=>?_)
    ·exact KL.out _ (below_al RY.1.2.2 _)
    clear hK K hHeld hHeld2
    (try simp only [Act.put,List.getElem_toArray,List.getElem_cons_zero,List.getElem_cons_succ,List.setIfInBounds_toArray,List.set_cons_zero,List.set_cons_succ])
    have RY2:=ReadyP.al RY #[.bool false,.slice none 0 0,.slice none 0 0] 36
    clear RY
    generalize W.alloc (.cells #[.bool false,.slice none 0 0,.slice none 0 0] 36) = W2 at *
    generalize W.heap.size = gB at *
    clear W
    rename World=>W
    have RY:=RY2
    clear RY2
    revert RY
    revert dh
    revert Bh
    revert ch
    revert Ah
    revert cf
    revert Af
    revert tm
    revert ta
    revert W
    revert gB
    exact key301
   exact AllReadyH.nil
  ·intro gB W ta tm Af cf Ah ch Bh dh RY
   have hHeld:=KL.out _ RY.1.2.2
   refine wpAnyH_ready (rs:=[11]) (by kernel_rfl) (by simp) ?_
   refine AllReadyH.cons rfl (fun K hK=>?_) ?_
   ·go_simp
    refine hK.out _ _ ?_ (fun hHeld2=>?_)
    ·exact KL.out _ (below_al RY.1.2.2 _)
    clear hK K hHeld hHeld2
    (try simp only [Act.put,List.getElem_toArray,List.getElem_cons_zero,List.getElem_cons_succ,List.setIfInBounds_toArray,List.set_cons_zero,List.set_cons_succ])
    have RY2:=ReadyP.al RY #[.string ⟨#[]⟩,.bool false,.slice none 0 0] 34
    clear RY
    generalize W.alloc (.cells #[.string ⟨#[]⟩,.bool false,.slice none 0 0] 34) = W2 at *
    generalize W.heap.size = gA at *
    clear W
    rename World=>W
    have RY:=RY2
    clear RY2
    revert RY
    revert dh
    revert Bh
    revert ch
    revert Ah
    revert cf
    revert Af
    revert tm
    revert ta
    revert W
    revert gB
    revert gA
    exact key311
   exact AllReadyH.nil
  ·intro gA W ta tm Af cf Ah ch Bh dh RY
   have hHeld:=KL.out _ RY.1.2.2
   refine wpAnyH_ready (rs:=[12]) (by kernel_rfl) (by simp) ?_
   refine AllReadyH.cons rfl (fun K hK=>?_) ?_
   ·go_simp
    refine hK.out _ _ ?_ (fun hHeld2=>?_)
    ·exact KL.out _ (below_al RY.1.2.2 _)
    clear hK K hHeld hHeld2
    (try simp only [Act.put,List.getElem_toArray,List.getElem_cons_zero,List.getElem_cons_succ,List.setIfInBounds_toArray,List.set_cons_zero,List.set_cons_succ])
    have RY2:=ReadyP.al RY #[.bool false,.slice none 0 0,.slice none 0 0] 36
    clear RY
    generalize W.alloc (.cells #[.bool false,.slice none 0 0,.slice none 0 0] 36) = W2 at *
    generalize W.heap.size = gB at *
    clear W
    rename World=>W
    have RY:=ReadyP.symm RY2
    clear RY2
    revert RY
    revert dh
    revert Bh
    revert ch
    revert Ah
    revert cf
    revert Af
    revert tm
    revert ta
    revert W
    revert gB
    revert gA
    exact key311
   exact AllReadyH.nil
  ·intro gA gB W ta tm Af cf Ah ch Bh dh RY
   have hHeld:=KL.out _ RY.1.2.2
   have RY2:=ReadyP.two RY
   obtain ⟨⟨c1,c2,c3⟩,⟨f1,f2,f3⟩,⟨c4,c5,c6⟩,⟨f4,f5,f6⟩,e1,e2⟩:=RY2
   have hg:=(RY.1.2.1 (gA,#[.string ⟨#[]⟩,.bool false,.slice none 0 0],34) (by simp)).1
   have hm:=(RY.1.2.1 (gB,#[.bool false,.slice none 0 0,.slice none 0 0],36) (by simp)).1
   dsimp only at hg hm
   refine wpAnyH_ready (rs:=[13]) (by kernel_rfl) (by simp) ?_
   refine AllReadyH.cons rfl (fun K hK=>?_) ?_
   ·go_simp
    refine hK.out _ _ ?_ (fun hHeld2=>?_)
    ·refine KL.out _ ?_
     (repeat (first | with_reducible refine below_setP ?_ (by first | assumption | exact RY.1.2.2.size | exact Nat.le_succ_of_le RY.1.2.2.size) | with_reducible refine below_al ?_ _))
     exact RY.1.2.2
    clear hK K hHeld
    have hHeld:=hHeld2
    clear hHeld2
    (try simp only [Act.put,List.getElem_toArray,List.getElem_cons_zero,List.getElem_cons_succ,List.setIfInBounds_toArray,List.set_cons_zero,List.set_cons_succ])
    refine wpAnyH_ready (rs:=[14]) (by kernel_rfl) (by simp) ?_
    refine AllReadyH.cons rfl (fun K hK=>?_) ?_
    ·go_simp
     refine hK.out _ _ ?_ (fun hHeld2=>?_)
     ·refine KL.out _ ?_
      (repeat (first | with_reducible refine below_setP ?_ (by first | assumption | exact RY.1.2.2.size | exact Nat.le_succ_of_le RY.1.2.2.size) | with_reducible refine below_al ?_ _))
      exact RY.1.2.2
     clear hK K hHeld
     have hHeld:=hHeld2
     clear hHeld2
     (try simp only [Act.put,List.getElem_toArray,List.getElem_cons_zero,List.getElem_cons_succ,List.setIfInBounds_toArray,List.set_cons_zero,List.set_cons_succ])
     refine wpAnyH_take (i:=15) (v:=?_) rfl (by kernel_rfl) (by kernel_rfl) (by kernel_rfl) (fun _ _ _ h=>h) (Or.inl ⟨by kernel_rfl,?_⟩) (by assumption) ?_
     rotate_left
     ·(intro w hSw;(try dsimp only at hSw);go_simp;(try with_reducible rfl))
     (try simp only [Act.put,List.getElem_toArray,List.getElem_cons_zero,List.getElem_cons_succ,List.setIfInBounds_toArray,List.set_cons_zero,List.set_cons_succ])
     refine wpAnyH_done (by kernel_rfl) ?_ _
     go_wp2_with fail
     go_meet
     first | with_reducible exact ⟨locP_both RY,rfl⟩ | with_reducible exact ⟨locP_both2 RY,rfl⟩ | with_reducible exact ⟨locP_both (ReadyP.symm RY),rfl⟩ | with_reducible exact ⟨locP_both2 (ReadyP.symm RY),rfl⟩
    exact AllReadyH.nil
   exact AllReadyH.nil
 rename World=>w3
 obtain ⟨⟨gw0,gw1,csw0,csw1,Sw0,Sw1,rfl,rfl,kw0,kw1,ow0,ow1,apw,nw0,nw1,lw0,lw1,b3⟩,rfl⟩:=hcut
 obtain ⟨Aw0,cw0,ew0⟩:=ownM_form ow0.here
 injection ew0 with ew0
 subst ew0
 obtain ⟨Aw1,cw1,Bw1,dw1,ew1⟩:=ownQ_form ow1.here
 injection ew1 with ew1
 subst ew1
 have HAPw:=Lib.hid apw
 clear apw
 have bb3:=Below.next bb2 b3
 replace ka:=ka.below b3
 replace km:=km.below b3
 have ka_c0:=ka.here.cell 0 _ rfl
 have ka_c1:=ka.here.cell 1 _ rfl
 go_upto_region 11 with fail
 go_cut [13] (fun s wx=>NewLocV 41 (fun v=>OwnT v a) w3 s wx)
 case first =>
  go_wp2_with fail
  refine (toT_new _ a _ hza (RFa.out _ bb3)).mono ?_
  rintro e wt ⟨ut,St,rfl,ot,lt,bt⟩
  obtain ⟨At,ct,rfl⟩:=ownT_form ot.here
  go_wp2_with fail
  go_meet
  exact newLocV_last ot lt (Nat.le_refl _) bt
 rename World=>w4
 clear ka_c0 ka_c1
 obtain ⟨gxa,csxa,Sxa,rfl,kxa,oxa,nxa,lxa,b4⟩:=hcut
 obtain ⟨Axa,cxa,exa⟩:=ownT_form oxa.here
 injection exa with exa
 subst exa
 have bb4:=Below.next bb3 b4
 replace ka:=ka.below b4
 replace km:=km.below b4
 replace kw0:=kw0.below b4
 replace ow0:=ow0.below b4
 replace kw1:=kw1.below b4
 replace ow1:=ow1.below b4
 have km_c0:=km.here.cell 0 _ rfl
 have km_c1:=km.here.cell 1 _ rfl
 have km_c2:=km.here.cell 2 _ rfl
 go_upto_region 12 with fail
 go_cut [14] (fun s wx=>NewLocV 34 (fun v=>OwnM v m) w4 s wx)
 case first =>
  go_wp2_with fail
  refine (toM_new _ m _ hzm (RFm.out _ bb4)).mono ?_
  rintro e wt ⟨ut,St,rfl,ot,lt,bt⟩
  obtain ⟨At,ct,rfl⟩:=ownM_form ot.here
  go_wp2_with fail
  go_meet
  exact newLocV_last ot lt (Nat.le_refl _) bt
 rename World=>w5
 clear km_c0 km_c1 km_c2
 obtain ⟨gxm,csxm,Sxm,rfl,kxm,oxm,nxm,lxm,b5⟩:=hcut
 obtain ⟨Axm,cxm,exm⟩:=ownM_form oxm.here
 injection exm with exm
 subst exm
 have bb5:=Below.next bb4 b5
 replace ka:=ka.below b5
 replace km:=km.below b5
 replace kw0:=kw0.below b5
 replace ow0:=ow0.below b5
 replace kw1:=kw1.below b5
 replace ow1:=ow1.below b5
 replace kxa:=kxa.below b5
 replace oxa:=oxa.below b5
 have kxa_c0:=kxa.here.cell 0 _ rfl
 have kxa_c1:=kxa.here.cell 1 _ rfl
 have kxm_c0:=kxm.here.cell 0 _ rfl
 have kxm_c1:=kxm.here.cell 1 _ rfl
 have kxm_c2:=kxm.here.cell 2 _ rfl
 go_upto_region 13 with fail
 go_cut [15,16,17] (fun s t c2 wx=>NewLocP 34 36 (fun v=>OwnM v R0) (fun v=>OwnQ v R1) w5 s t wx∧c2 = .int .i64 R2)
 case first =>
  go_wp2_with fail
  refine (HI.out _ _ _ oxa.here oxm.here (HT0.out.below bb5) (HT1.out.below bb5) (HT2.out.below bb5)).mono ?_
  rintro e wf ⟨uf,vf,Sf,Df,rfl,of,pf,hapf,lf,kf,bf⟩
  obtain ⟨Af,cf,rfl⟩:=ownM_form of.here
  obtain ⟨Ah,ch,Bh,dh,rfl⟩:=ownQ_form pf.here
  have RY:=ReadyP.of (BxP.nil_ (Below.refl w5.heap.size w5)) bf of pf hapf lf kf
  go_wp2_with fail
  go_meet
  first | exact ⟨locP_late RY,rfl⟩ | exact ⟨locP_late2 RY,rfl⟩
 rename World=>w6
 clear kxa_c0 kxa_c1 kxm_c0 kxm_c1 kxm_c2
 obtain ⟨⟨gg0,gg1,csg0,csg1,Sg0,Sg1,rfl,rfl,kg0,kg1,og0,og1,apg,ng0,ng1,lg0,lg1,b6⟩,rfl⟩:=hcut
 obtain ⟨Ag0,cg0,eg0⟩:=ownM_form og0.here
 injection eg0 with eg0
 subst eg0
 obtain ⟨Ag1,cg1,Bg1,dg1,eg1⟩:=ownQ_form og1.here
 injection eg1 with eg1
 subst eg1
 have HAPg:=Lib.hid apg
 clear apg
 have bb6:=Below.next bb5 b6
 replace ka:=ka.below b6
 replace km:=km.below b6
 replace kw0:=kw0.below b6
 replace ow0:=ow0.below b6
 replace kw1:=kw1.below b6
 replace ow1:=ow1.below b6
 replace kxa:=kxa.below b6
 replace oxa:=oxa.below b6
 replace kxm:=kxm.below b6
 replace oxm:=oxm.below b6
 have kg0_c0:=kg0.here.cell 0 _ rfl
 have kg0_c1:=kg0.here.cell 1 _ rfl
 have kg0_c2:=kg0.here.cell 2 _ rfl
 have kw0_c0:=kw0.here.cell 0 _ rfl
 have kw0_c1:=kw0.here.cell 1 _ rfl
 have kw0_c2:=kw0.here.cell 2 _ rfl
 go_wp2_with fail
 clear kg0_c0 kg0_c1 kg0_c2 kw0_c0 kw0_c1 kw0_c2
 refine (eqM_cal _ _ R0 R0 _ (capM_of (by omega)) (OwnM.rd og0.here) (OwnM.rd ow0.here)).mono ?_
 rintro e w7 ⟨rfl,b7⟩
 rw [decide_refl]
 have bb7:=Below.next bb6 b7
 replace ka:=ka.below b7
 replace km:=km.below b7
 replace kw0:=kw0.below b7
 replace ow0:=ow0.below b7
 replace kw1:=kw1.below b7
 replace ow1:=ow1.below b7
 replace kxa:=kxa.below b7
 replace oxa:=oxa.below b7
 replace kxm:=kxm.below b7
 replace oxm:=oxm.below b7
 replace kg0:=kg0.below b7
 replace og0:=og0.below b7
 replace kg1:=kg1.below b7
 replace og1:=og1.below b7
 have kg1_c0:=kg1.here.cell 0 _ rfl
 have kg1_c1:=kg1.here.cell 1 _ rfl
 have kg1_c2:=kg1.here.cell 2 _ rfl
 have kw1_c0:=kw1.here.cell 0 _ rfl
 have kw1_c1:=kw1.here.cell 1 _ rfl
 have kw1_c2:=kw1.here.cell 2 _ rfl
 go_wp2_with fail
 clear kg1_c0 kg1_c1 kg1_c2 kw1_c0 kw1_c1 kw1_c2
 refine (eqQ_cal _ _ R1 R1 _ (capQ_of (by omega)) (OwnQ.rd og1.here) (OwnQ.rd ow1.here)).mono ?_
 rintro e w8 ⟨rfl,b8⟩
 rw [decide_refl]
 have bb8:=Below.next bb7 b8
 replace ka:=ka.below b8
 replace km:=km.below b8
 replace kw0:=kw0.below b8
 replace ow0:=ow0.below b8
 replace kw1:=kw1.below b8
 replace ow1:=ow1.below b8
 replace kxa:=kxa.below b8
 replace oxa:=oxa.below b8
 replace kxm:=kxm.below b8
 replace oxm:=oxm.below b8
 replace kg0:=kg0.below b8
 replace og0:=og0.below b8
 replace kg1:=kg1.below b8
 replace og1:=og1.below b8
 have ka_c0:=ka.here.cell 0 _ rfl
 have ka_c1:=ka.here.cell 1 _ rfl
 have kxa_c0:=kxa.here.cell 0 _ rfl
 have kxa_c1:=kxa.here.cell 1 _ rfl
 go_wp2_with fail
 have HB0:=Lib.hid (show Below w8.heap.size w8 w8.drew from (Below.refl _ _).drew)
 have KL:=Lib.hid (show ∀ W,Below w8.heap.size w8 W→W.cell? ⟨w.heap.size,0,none⟩ = some (.string a.1)∧W.cell? ⟨w.heap.size,1,none⟩ = some (.slice Aa a.2.length ca)∧W.cell? ⟨gxa,0,none⟩ = some (.string a.1)∧W.cell? ⟨gxa,1,none⟩ = some (.slice Axa a.2.length cxa)∧Hid (Below w8.heap.size w8 W) from
  fun W hb=>⟨(ka.below hb).here.cell 0 _ rfl,(ka.below hb).here.cell 1 _ rfl,(kxa.below hb).here.cell 0 _ rfl,(kxa.below hb).here.cell 1 _ rfl,Lib.hid hb⟩)
 have BBF:=Lib.hid (show ∀ W,Below w8.heap.size w8 W→Below w.heap.size w W from fun W hb=>Below.next bb8 hb)
 have OXF:=Lib.hid (show ∀ W,Below w8.heap.size w8 W→OwnT (.agg #[.string a.1,.slice Axa a.2.length cxa]) a W from fun W hb=>(oxa.below hb).here)
 clear ka_c0 ka_c1 kxa_c0 kxa_c1
 go_region_held3 (fun W=>W.cell? ⟨w.heap.size,0,none⟩ = some (.string a.1)∧W.cell? ⟨w.heap.size,1,none⟩ = some (.slice Aa a.2.length ca)∧W.cell? ⟨gxa,0,none⟩ = some (.string a.1)∧W.cell? ⟨gxa,1,none⟩ = some (.slice Axa a.2.length cxa)∧Hid (Below w8.heap.size w8 W))
  ((refine KL.out _ ?_;(first | exact HBe.out | exact HBt.out | exact HB0.out | fail)))
  (first
    | (go_at_call 7;(have hBB:=(‹_∧_∧_∧_∧Hid (Below w8.heap.size w8 _)›).2.2.2.2);(with_reducible refine (toT_new _ a _ hza (RFa.out _ (BBF.out _ hBB.out))).mono ?_);rintro e wt ⟨t,St,rfl,ot,lt,bt⟩;have HBt:=Lib.hid (Below.next hBB.out bt);clear hBB)
    | (go_at_call 12;(have hBB:=(‹_∧_∧_∧_∧Hid (Below w8.heap.size w8 _)›).2.2.2.2);(with_reducible refine (eqT_cal _ _ a a _ (capTS_of hza) (OwnT.rd (OXF.out _ hBB.out)) (OwnT.rd ot.here)).mono ?_);rintro e w9 ⟨rfl,be⟩;rw [decide_refl];have HBe:=Lib.hid (Below.next hBB.out be);clear hBB))
 have b9:=HBe.out
 have bb9:=Below.next bb8 b9
 replace ka:=ka.below b9
 replace km:=km.below b9
 replace kw0:=kw0.below b9
 replace ow0:=ow0.below b9
 replace kw1:=kw1.below b9
 replace ow1:=ow1.below b9
 replace kxa:=kxa.below b9
 replace oxa:=oxa.below b9
 replace kxm:=kxm.below b9
 replace oxm:=oxm.below b9
 replace kg0:=kg0.below b9
 replace og0:=og0.below b9
 replace kg1:=kg1.below b9
 replace og1:=og1.below b9
 clear HB0 KL BBF OXF HBt HBe ot lt
 have km_c0:=km.here.cell 0 _ rfl
 have km_c1:=km.here.cell 1 _ rfl
 have km_c2:=km.here.cell 2 _ rfl
 have kxm_c0:=kxm.here.cell 0 _ rfl
 have kxm_c1:=kxm.here.cell 1 _ rfl
 have kxm_c2:=kxm.here.cell 2 _ rfl
 go_wp2_with fail
 have HB0:=Lib.hid (show Below w9.heap.size w9 w9.drew from (Below.refl _ _).drew)
 have KL:=Lib.hid (show ∀ W,Below w9.heap.size w9 W→W.cell? ⟨w.heap.size+1,0,none⟩ = some (.string m.1)∧W.cell? ⟨w.heap.size+1,1,none⟩ = some (.bool m.2.1)∧W.cell? ⟨w.heap.size+1,2,none⟩ = some (.slice Am m.2.2.length cm)∧W.cell? ⟨gxm,0,none⟩ = some (.string m.1)∧W.cell? ⟨gxm,1,none⟩ = some (.bool m.2.1)∧W.cell? ⟨gxm,2,none⟩ = some (.slice Axm m.2.2.length cxm)∧Hid (Below w9.heap.size w9 W) from
  fun W hb=>⟨(km.below hb).here.cell 0 _ rfl,(km.below hb).here.cell 1 _ rfl,(km.below hb).here.cell 2 _ rfl,(kxm.below hb).here.cell 0 _ rfl,(kxm.below hb).here.cell 1 _ rfl,(kxm.below hb).here.cell 2 _ rfl,Lib.hid hb⟩)
 have BBF:=Lib.hid (show ∀ W,Below w9.heap.size w9 W→Below w.heap.size w W from fun W hb=>Below.next bb9 hb)
 have OXF:=Lib.hid (show ∀ W,Below w9.heap.size w9 W→OwnM (.agg #[.string m.1,.bool m.2.1,.slice Axm m.2.2.length cxm]) m W from fun W hb=>(oxm.below hb).here)
 clear km_c0 km_c1 km_c2 kxm_c0 kxm_c1 kxm_c2
 go_region_held3 (fun W=>W.cell? ⟨w.heap.size+1,0,none⟩ = some (.string m.1)∧W.cell? ⟨w.heap.size+1,1,none⟩ = some (.bool m.2.1)∧W.cell? ⟨w.heap.size+1,2,none⟩ = some (.slice Am m.2.2.length cm)∧W.cell? ⟨gxm,0,none⟩ = some (.string m.1)∧W.cell? ⟨gxm,1,none⟩ = some (.bool m.2.1)∧W.cell? ⟨gxm,2,none⟩ = some (.slice Axm m.2.2.length cxm)∧Hid (Below w9.heap.size w9 W))
  ((refine KL.out _ ?_;(first | exact HBe.out | exact HBt.out | exact HB0.out | fail)))
  (first
    | (go_at_call 8;(have hBB:=(‹_∧_∧_∧_∧_∧_∧Hid (Below w9.heap.size w9 _)›).2.2.2.2.2.2);(with_reducible refine (toM_new _ m _ hzm (RFm.out _ (BBF.out _ hBB.out))).mono ?_);rintro e wt ⟨t,St,rfl,ot,lt,bt⟩;have HBt:=Lib.hid (Below.next hBB.out bt);clear hBB)
    | (go_at_call 10;(have hBB:=(‹_∧_∧_∧_∧_∧_∧Hid (Below w9.heap.size w9 _)›).2.2.2.2.2.2);(with_reducible refine (eqM_cal _ _ m m _ (capM_of hzm) (OwnM.rd (OXF.out _ hBB.out)) (OwnM.rd ot.here)).mono ?_);rintro e w10 ⟨rfl,be⟩;rw [decide_refl];have HBe:=Lib.hid (Below.next hBB.out be);clear hBB))
 have b10:=HBe.out
 have bb10:=Below.next bb9 b10
 replace ka:=ka.below b10
 replace km:=km.below b10
 replace kw0:=kw0.below b10
 replace ow0:=ow0.below b10
 replace kw1:=kw1.below b10
 replace ow1:=ow1.below b10
 replace kxa:=kxa.below b10
 replace oxa:=oxa.below b10
 replace kxm:=kxm.below b10
 replace oxm:=oxm.below b10
 replace kg0:=kg0.below b10
 replace og0:=og0.below b10
 replace kg1:=kg1.below b10
 replace og1:=og1.below b10
 clear HB0 KL BBF OXF HBt HBe ot lt
 have z1:=b1.size
 have z2:=b2.size
 have z3:=b3.size
 have z4:=b4.size
 have z5:=b5.size
 have z6:=b6.size
 have z7:=b7.size
 have z8:=b8.size
 have z9:=b9.size
 have z10:=b10.size
 have AP_xa_xm:=Lib.hid (Within.apart lxa lxm (.inl (by omega)))
 have AP_xa_g0:=Lib.hid (Within.apart lxa lg0 (.inl (by omega)))
 have AP_xa_g1:=Lib.hid (Within.apart lxa lg1 (.inl (by omega)))
 have AP_xm_g0:=Lib.hid (Within.apart lxm lg0 (.inl (by omega)))
 have AP_xm_g1:=Lib.hid (Within.apart lxm lg1 (.inl (by omega)))
 have AP_w0_xa:=Lib.hid (Within.apart lw0 lxa (.inl (by omega)))
 have AP_w0_xm:=Lib.hid (Within.apart lw0 lxm (.inl (by omega)))
 have AP_w0_g0:=Lib.hid (Within.apart lw0 lg0 (.inl (by omega)))
 have AP_w0_g1:=Lib.hid (Within.apart lw0 lg1 (.inl (by omega)))
 have AP_w1_xa:=Lib.hid (Within.apart lw1 lxa (.inl (by omega)))
 have AP_w1_xm:=Lib.hid (Within.apart lw1 lxm (.inl (by omega)))
 have AP_w1_g0:=Lib.hid (Within.apart lw1 lg0 (.inl (by omega)))
 have AP_w1_g1:=Lib.hid (Within.apart lw1 lg1 (.inl (by omega)))
 have AP_g0_g1:=HAPg
 have F_xa:=Lib.hid (Within.from (B:=w.heap.size) lxa (by have:=bb2.size;omega))
 have N_xa:=Lib.hid nxa
 have KX_a_xa:=Lib.hid (show ∀ i ∈ [w.heap.size],i ∉ gxa :: Sxa from fun i hi hm=>by have h1:=(lxa i hm).1;have h2:=HKa.out;simp at hi;omega)
 have KX_m_xa:=Lib.hid (show ∀ i ∈ [w.heap.size+1],i ∉ gxa :: Sxa from fun i hi hm=>by have h1:=(lxa i hm).1;have h2:=HKm.out;simp at hi;omega)
 have F_xm:=Lib.hid (Within.from (B:=w.heap.size) lxm (by have:=bb2.size;omega))
 have N_xm:=Lib.hid nxm
 have KX_a_xm:=Lib.hid (show ∀ i ∈ [w.heap.size],i ∉ gxm :: Sxm from fun i hi hm=>by have h1:=(lxm i hm).1;have h2:=HKa.out;simp at hi;omega)
 have KX_m_xm:=Lib.hid (show ∀ i ∈ [w.heap.size+1],i ∉ gxm :: Sxm from fun i hi hm=>by have h1:=(lxm i hm).1;have h2:=HKm.out;simp at hi;omega)
 have F_g0:=Lib.hid (Within.from (B:=w.heap.size) lg0 (by have:=bb2.size;omega))
 have N_g0:=Lib.hid ng0
 have KX_a_g0:=Lib.hid (show ∀ i ∈ [w.heap.size],i ∉ gg0 :: Sg0 from fun i hi hm=>by have h1:=(lg0 i hm).1;have h2:=HKa.out;simp at hi;omega)
 have KX_m_g0:=Lib.hid (show ∀ i ∈ [w.heap.size+1],i ∉ gg0 :: Sg0 from fun i hi hm=>by have h1:=(lg0 i hm).1;have h2:=HKm.out;simp at hi;omega)
 have F_g1:=Lib.hid (Within.from (B:=w.heap.size) lg1 (by have:=bb2.size;omega))
 have N_g1:=Lib.hid ng1
 have KX_a_g1:=Lib.hid (show ∀ i ∈ [w.heap.size],i ∉ gg1 :: Sg1 from fun i hi hm=>by have h1:=(lg1 i hm).1;have h2:=HKa.out;simp at hi;omega)
 have KX_m_g1:=Lib.hid (show ∀ i ∈ [w.heap.size+1],i ∉ gg1 :: Sg1 from fun i hi hm=>by have h1:=(lg1 i hm).1;have h2:=HKm.out;simp at hi;omega)
 clear z1 z2 z3 z4 z5 z6 z7 z8 z9 z10
 have kxa_c0:=kxa.here.cell 0 _ rfl
 have kxa_c1:=kxa.here.cell 1 _ rfl
 go_wp2_with fail
 clear kxa_c0 kxa_c1
 refine (markT_cal _ a _ (1) _ (by omega) (by omega) oxa).mono ?_
 rintro e w11 ⟨rfl,mkxa,c11⟩
 clear oxa
 have bb11:=below_chg bb10 c11 bb10.size (fun i hi=>F_xa.out i (List.mem_cons_of_mem _ hi))
 replace ka:=ka.chg c11 (fun i hi hm=>KX_a_xa.out i hi (List.mem_cons_of_mem _ hm))
 replace km:=km.chg c11 (fun i hi hm=>KX_m_xa.out i hi (List.mem_cons_of_mem _ hm))
 replace kw0:=kw0.chg c11 (fun i hi hm=>AP_w0_xa.out i (by simp at hi;subst hi;exact List.mem_cons_self ..) (List.mem_cons_of_mem _ hm))
 replace ow0:=ow0.chg c11 (fun i hi hm=>AP_w0_xa.out i (List.mem_cons_of_mem _ hi) (List.mem_cons_of_mem _ hm))
 replace kw1:=kw1.chg c11 (fun i hi hm=>AP_w1_xa.out i (by simp at hi;subst hi;exact List.mem_cons_self ..) (List.mem_cons_of_mem _ hm))
 replace ow1:=ow1.chg c11 (fun i hi hm=>AP_w1_xa.out i (List.mem_cons_of_mem _ hi) (List.mem_cons_of_mem _ hm))
 replace kxa:=kxa.chg c11 (fun i hi hm=>by simp at hi;subst hi;exact N_xa.out hm)
 replace kxm:=kxm.chg c11 (fun i hi hm=>(apart_symm AP_xa_xm.out) i (by simp at hi;subst hi;exact List.mem_cons_self ..) (List.mem_cons_of_mem _ hm))
 replace oxm:=oxm.chg c11 (fun i hi hm=>(apart_symm AP_xa_xm.out) i (List.mem_cons_of_mem _ hi) (List.mem_cons_of_mem _ hm))
 replace kg0:=kg0.chg c11 (fun i hi hm=>(apart_symm AP_xa_g0.out) i (by simp at hi;subst hi;exact List.mem_cons_self ..) (List.mem_cons_of_mem _ hm))
 replace og0:=og0.chg c11 (fun i hi hm=>(apart_symm AP_xa_g0.out) i (List.mem_cons_of_mem _ hi) (List.mem_cons_of_mem _ hm))
 replace kg1:=kg1.chg c11 (fun i hi hm=>(apart_symm AP_xa_g1.out) i (by simp at hi;subst hi;exact List.mem_cons_self ..) (List.mem_cons_of_mem _ hm))
 replace og1:=og1.chg c11 (fun i hi hm=>(apart_symm AP_xa_g1.out) i (List.mem_cons_of_mem _ hi) (List.mem_cons_of_mem _ hm))
 have kxm_c0:=kxm.here.cell 0 _ rfl
 have kxm_c1:=kxm.here.cell 1 _ rfl
 have kxm_c2:=kxm.here.cell 2 _ rfl
 go_wp2_with fail
 clear kxm_c0 kxm_c1 kxm_c2
 refine (markM_cal _ m _ (1+mkT a) _ (by omega) (by omega) oxm).mono ?_
 rintro e w12 ⟨rfl,mkxm,c12⟩
 clear oxm
 have bb12:=below_chg bb11 c12 bb11.size (fun i hi=>F_xm.out i (List.mem_cons_of_mem _ hi))
 replace ka:=ka.chg c12 (fun i hi hm=>KX_a_xm.out i hi (List.mem_cons_of_mem _ hm))
 replace km:=km.chg c12 (fun i hi hm=>KX_m_xm.out i hi (List.mem_cons_of_mem _ hm))
 replace kw0:=kw0.chg c12 (fun i hi hm=>AP_w0_xm.out i (by simp at hi;subst hi;exact List.mem_cons_self ..) (List.mem_cons_of_mem _ hm))
 replace ow0:=ow0.chg c12 (fun i hi hm=>AP_w0_xm.out i (List.mem_cons_of_mem _ hi) (List.mem_cons_of_mem _ hm))
 replace kw1:=kw1.chg c12 (fun i hi hm=>AP_w1_xm.out i (by simp at hi;subst hi;exact List.mem_cons_self ..) (List.mem_cons_of_mem _ hm))
 replace ow1:=ow1.chg c12 (fun i hi hm=>AP_w1_xm.out i (List.mem_cons_of_mem _ hi) (List.mem_cons_of_mem _ hm))
 replace kxa:=kxa.chg c12 (fun i hi hm=>AP_xa_xm.out i (by simp at hi;subst hi;exact List.mem_cons_self ..) (List.mem_cons_of_mem _ hm))
 replace kxm:=kxm.chg c12 (fun i hi hm=>by simp at hi;subst hi;exact N_xm.out hm)
 replace kg0:=kg0.chg c12 (fun i hi hm=>(apart_symm AP_xm_g0.out) i (by simp at hi;subst hi;exact List.mem_cons_self ..) (List.mem_cons_of_mem _ hm))
 replace og0:=og0.chg c12 (fun i hi hm=>(apart_symm AP_xm_g0.out) i (List.mem_cons_of_mem _ hi) (List.mem_cons_of_mem _ hm))
 replace kg1:=kg1.chg c12 (fun i hi hm=>(apart_symm AP_xm_g1.out) i (by simp at hi;subst hi;exact List.mem_cons_self ..) (List.mem_cons_of_mem _ hm))
 replace og1:=og1.chg c12 (fun i hi hm=>(apart_symm AP_xm_g1.out) i (List.mem_cons_of_mem _ hi) (List.mem_cons_of_mem _ hm))
 replace mkxa:=mkxa.chg c12 (fun i hi hm=>AP_xa_xm.out i (List.mem_cons_of_mem _ hi) (List.mem_cons_of_mem _ hm))
 have hk:decide (((1+mkT a+mkM m):Int) < 0) = false:=decide_eq_false (by omega)
 have kg0_c0:=kg0.here.cell 0 _ rfl
 have kg0_c1:=kg0.here.cell 1 _ rfl
 have kg0_c2:=kg0.here.cell 2 _ rfl
 have kw0_c0:=kw0.here.cell 0 _ rfl
 have kw0_c1:=kw0.here.cell 1 _ rfl
 have kw0_c2:=kw0.here.cell 2 _ rfl
 go_wp2_with fail
 clear kg0_c0 kg0_c1 kg0_c2 kw0_c0 kw0_c1 kw0_c2
 refine (eqM_cal _ _ R0 R0 _ (capM_of (by omega)) (OwnM.rd og0.here) (OwnM.rd ow0.here)).mono ?_
 rintro e w13 ⟨rfl,b13⟩
 rw [decide_refl]
 have bb13:=Below.next bb12 b13
 replace ka:=ka.below b13
 replace km:=km.below b13
 replace kw0:=kw0.below b13
 replace ow0:=ow0.below b13
 replace kw1:=kw1.below b13
 replace ow1:=ow1.below b13
 replace kxa:=kxa.below b13
 replace kxm:=kxm.below b13
 replace kg0:=kg0.below b13
 replace og0:=og0.below b13
 replace kg1:=kg1.below b13
 replace og1:=og1.below b13
 replace mkxa:=mkxa.below b13
 replace mkxm:=mkxm.below b13
 have kg1_c0:=kg1.here.cell 0 _ rfl
 have kg1_c1:=kg1.here.cell 1 _ rfl
 have kg1_c2:=kg1.here.cell 2 _ rfl
 have kw1_c0:=kw1.here.cell 0 _ rfl
 have kw1_c1:=kw1.here.cell 1 _ rfl
 have kw1_c2:=kw1.here.cell 2 _ rfl
 go_wp2_with fail
 clear kg1_c0 kg1_c1 kg1_c2 kw1_c0 kw1_c1 kw1_c2
 refine (eqQ_cal _ _ R1 R1 _ (capQ_of (by omega)) (OwnQ.rd og1.here) (OwnQ.rd ow1.here)).mono ?_
 rintro e w14 ⟨rfl,b14⟩
 rw [decide_refl]
 have bb14:=Below.next bb13 b14
 replace ka:=ka.below b14
 replace km:=km.below b14
 replace kw0:=kw0.below b14
 replace ow0:=ow0.below b14
 replace kw1:=kw1.below b14
 replace ow1:=ow1.below b14
 replace kxa:=kxa.below b14
 replace kxm:=kxm.below b14
 replace kg0:=kg0.below b14
 replace og0:=og0.below b14
 replace kg1:=kg1.below b14
 replace og1:=og1.below b14
 replace mkxa:=mkxa.below b14
 replace mkxm:=mkxm.below b14
 clear hk
 have kg0_c0:=kg0.here.cell 0 _ rfl
 have kg0_c1:=kg0.here.cell 1 _ rfl
 have kg0_c2:=kg0.here.cell 2 _ rfl
 go_wp2_with fail
 clear kg0_c0 kg0_c1 kg0_c2
 refine (markM_cal _ R0 _ (1) _ (by omega) (by omega) og0).mono ?_
 rintro e w15 ⟨rfl,mkg0,c15⟩
 clear og0
 have bb15:=below_chg bb14 c15 bb14.size (fun i hi=>F_g0.out i (List.mem_cons_of_mem _ hi))
 replace ka:=ka.chg c15 (fun i hi hm=>KX_a_g0.out i hi (List.mem_cons_of_mem _ hm))
 replace km:=km.chg c15 (fun i hi hm=>KX_m_g0.out i hi (List.mem_cons_of_mem _ hm))
 replace kw0:=kw0.chg c15 (fun i hi hm=>AP_w0_g0.out i (by simp at hi;subst hi;exact List.mem_cons_self ..) (List.mem_cons_of_mem _ hm))
 replace ow0:=ow0.chg c15 (fun i hi hm=>AP_w0_g0.out i (List.mem_cons_of_mem _ hi) (List.mem_cons_of_mem _ hm))
 replace kw1:=kw1.chg c15 (fun i hi hm=>AP_w1_g0.out i (by simp at hi;subst hi;exact List.mem_cons_self ..) (List.mem_cons_of_mem _ hm))
 replace ow1:=ow1.chg c15 (fun i hi hm=>AP_w1_g0.out i (List.mem_cons_of_mem _ hi) (List.mem_cons_of_mem _ hm))
 replace kxa:=kxa.chg c15 (fun i hi hm=>AP_xa_g0.out i (by simp at hi;subst hi;exact List.mem_cons_self ..) (List.mem_cons_of_mem _ hm))
 replace kxm:=kxm.chg c15 (fun i hi hm=>AP_xm_g0.out i (by simp at hi;subst hi;exact List.mem_cons_self ..) (List.mem_cons_of_mem _ hm))
 replace kg0:=kg0.chg c15 (fun i hi hm=>by simp at hi;subst hi;exact N_g0.out hm)
 replace kg1:=kg1.chg c15 (fun i hi hm=>(apart_symm AP_g0_g1.out) i (by simp at hi;subst hi;exact List.mem_cons_self ..) (List.mem_cons_of_mem _ hm))
 replace og1:=og1.chg c15 (fun i hi hm=>(apart_symm AP_g0_g1.out) i (List.mem_cons_of_mem _ hi) (List.mem_cons_of_mem _ hm))
 replace mkxa:=mkxa.chg c15 (fun i hi hm=>AP_xa_g0.out i (List.mem_cons_of_mem _ hi) (List.mem_cons_of_mem _ hm))
 replace mkxm:=mkxm.chg c15 (fun i hi hm=>AP_xm_g0.out i (List.mem_cons_of_mem _ hi) (List.mem_cons_of_mem _ hm))
 have kg1_c0:=kg1.here.cell 0 _ rfl
 have kg1_c1:=kg1.here.cell 1 _ rfl
 have kg1_c2:=kg1.here.cell 2 _ rfl
 go_wp2_with fail
 clear kg1_c0 kg1_c1 kg1_c2
 refine (markQ_cal _ R1 _ (1+mkM R0) _ (by omega) (by omega) og1).mono ?_
 rintro e w16 ⟨rfl,mkg1,c16⟩
 clear og1
 have bb16:=below_chg bb15 c16 bb15.size (fun i hi=>F_g1.out i (List.mem_cons_of_mem _ hi))
 replace ka:=ka.chg c16 (fun i hi hm=>KX_a_g1.out i hi (List.mem_cons_of_mem _ hm))
 replace km:=km.chg c16 (fun i hi hm=>KX_m_g1.out i hi (List.mem_cons_of_mem _ hm))
 replace kw0:=kw0.chg c16 (fun i hi hm=>AP_w0_g1.out i (by simp at hi;subst hi;exact List.mem_cons_self ..) (List.mem_cons_of_mem _ hm))
 replace ow0:=ow0.chg c16 (fun i hi hm=>AP_w0_g1.out i (List.mem_cons_of_mem _ hi) (List.mem_cons_of_mem _ hm))
 replace kw1:=kw1.chg c16 (fun i hi hm=>AP_w1_g1.out i (by simp at hi;subst hi;exact List.mem_cons_self ..) (List.mem_cons_of_mem _ hm))
 replace ow1:=ow1.chg c16 (fun i hi hm=>AP_w1_g1.out i (List.mem_cons_of_mem _ hi) (List.mem_cons_of_mem _ hm))
 replace kxa:=kxa.chg c16 (fun i hi hm=>AP_xa_g1.out i (by simp at hi;subst hi;exact List.mem_cons_self ..) (List.mem_cons_of_mem _ hm))
 replace kxm:=kxm.chg c16 (fun i hi hm=>AP_xm_g1.out i (by simp at hi;subst hi;exact List.mem_cons_self ..) (List.mem_cons_of_mem _ hm))
 replace kg0:=kg0.chg c16 (fun i hi hm=>AP_g0_g1.out i (by simp at hi;subst hi;exact List.mem_cons_self ..) (List.mem_cons_of_mem _ hm))
 replace kg1:=kg1.chg c16 (fun i hi hm=>by simp at hi;subst hi;exact N_g1.out hm)
 replace mkxa:=mkxa.chg c16 (fun i hi hm=>AP_xa_g1.out i (List.mem_cons_of_mem _ hi) (List.mem_cons_of_mem _ hm))
 replace mkxm:=mkxm.chg c16 (fun i hi hm=>AP_xm_g1.out i (List.mem_cons_of_mem _ hi) (List.mem_cons_of_mem _ hm))
 replace mkg0:=mkg0.chg c16 (fun i hi hm=>AP_g0_g1.out i (List.mem_cons_of_mem _ hi) (List.mem_cons_of_mem _ hm))
 have kg0_c0:=kg0.here.cell 0 _ rfl
 have kg0_c1:=kg0.here.cell 1 _ rfl
 have kg0_c2:=kg0.here.cell 2 _ rfl
 go_wp2_with fail
 clear kg0_c0 kg0_c1 kg0_c2
 refine (heldM_cal _ R0 (1) _ (by omega) (by omega) mkg0.here).mono ?_
 rintro e w17 ⟨rfl,b17⟩
 have bb17:=Below.next bb16 b17
 replace ka:=ka.below b17
 replace km:=km.below b17
 replace kw0:=kw0.below b17
 replace ow0:=ow0.below b17
 replace kw1:=kw1.below b17
 replace ow1:=ow1.below b17
 replace kxa:=kxa.below b17
 replace kxm:=kxm.below b17
 replace kg0:=kg0.below b17
 replace kg1:=kg1.below b17
 replace mkxa:=mkxa.below b17
 replace mkxm:=mkxm.below b17
 replace mkg0:=mkg0.below b17
 replace mkg1:=mkg1.below b17
 have hq17:decide ((1:Int)+mkM R0 < 0) = false:=decide_eq_false (by omega)
 have kg1_c0:=kg1.here.cell 0 _ rfl
 have kg1_c1:=kg1.here.cell 1 _ rfl
 have kg1_c2:=kg1.here.cell 2 _ rfl
 go_wp2_with fail
 clear kg1_c0 kg1_c1 kg1_c2
 refine (heldQ_cal _ R1 (1+mkM R0) _ (by omega) (by omega) mkg1.here).mono ?_
 rintro e w18 ⟨rfl,b18⟩
 have bb18:=Below.next bb17 b18
 replace ka:=ka.below b18
 replace km:=km.below b18
 replace kw0:=kw0.below b18
 replace ow0:=ow0.below b18
 replace kw1:=kw1.below b18
 replace ow1:=ow1.below b18
 replace kxa:=kxa.below b18
 replace kxm:=kxm.below b18
 replace kg0:=kg0.below b18
 replace kg1:=kg1.below b18
 replace mkxa:=mkxa.below b18
 replace mkxm:=mkxm.below b18
 replace mkg0:=mkg0.below b18
 replace mkg1:=mkg1.below b18
 have hq18:decide ((1+mkM R0:Int)+szQ R1 < 0) = false:=decide_eq_false (by omega)
 have ka_c0:=ka.here.cell 0 _ rfl
 have ka_c1:=ka.here.cell 1 _ rfl
 have km_c0:=km.here.cell 0 _ rfl
 have km_c1:=km.here.cell 1 _ rfl
 have km_c2:=km.here.cell 2 _ rfl
 go_upto_region 37 with fail
 go_cut [21,22,23] (fun s t c2 wx=>NewLocP 34 36 (fun v=>OwnM v R0) (fun v=>OwnQ v R1) w18 s t wx∧c2 = .int .i64 R2)
 case first =>
  have KL:=Lib.hid (show ∀ W,Below w18.heap.size w18 W→W.cell? ⟨w.heap.size,0,none⟩ = some (.string a.1)∧W.cell? ⟨w.heap.size,1,none⟩ = some (.slice Aa a.2.length ca)∧W.cell? ⟨w.heap.size+1,0,none⟩ = some (.string m.1)∧W.cell? ⟨w.heap.size+1,1,none⟩ = some (.bool m.2.1)∧W.cell? ⟨w.heap.size+1,2,none⟩ = some (.slice Am m.2.2.length cm)∧Hid (Below w18.heap.size w18 W) from
   fun W hb=>⟨(ka.below hb).here.cell 0 _ rfl,(ka.below hb).here.cell 1 _ rfl,(km.below hb).here.cell 0 _ rfl,(km.below hb).here.cell 1 _ rfl,(km.below hb).here.cell 2 _ rfl,Lib.hid hb⟩)
  have BBF:=Lib.hid (show ∀ W,Below w18.heap.size w18 W→Below w.heap.size w W from fun W hb=>Below.next bb18 hb)
  have HZa:=Lib.hid hza
  have HZm:=Lib.hid hzm
  have X0:=Lib.hid (show BxP [] w18 w18.drew from BxP.nil_ (Below.refl _ _).drew)
  try clear ka_c0;try clear ka_c1;try clear km_c0;try clear km_c1;try clear km_c2;try clear hn
  try clear hk;try clear hsa;try clear hsm;try clear hsR0;try clear hsR1;try clear hma
  try clear hmm;try clear hmR0;try clear hmR1;try clear hza;try clear hzm;try clear hl
  try clear hla;try clear hlm;try clear hlq;try clear hlk;try clear hlR0;try clear hlR1
  try clear ra;try clear rm;try clear bb0;try clear bb1;try clear bb2;try clear bb3
  try clear bb4;try clear bb5;try clear bb6;try clear bb7;try clear bb8;try clear bb9
  try clear bb10;try clear bb11;try clear bb12;try clear bb13;try clear bb14;try clear bb15
  try clear bb16;try clear bb17;try clear bb18;try clear b1;try clear b2;try clear b3
  try clear b4;try clear b5;try clear b6;try clear b7;try clear b8;try clear b9
  try clear b10;try clear b11;try clear b12;try clear b13;try clear b14;try clear b15
  try clear b16;try clear b17;try clear b18;try clear c1;try clear c2;try clear c3
  try clear c4;try clear c5;try clear c6;try clear c7;try clear c8;try clear c9
  try clear c10;try clear c11;try clear c12;try clear c13;try clear c14;try clear c15
  try clear c16;try clear c17;try clear c18;try clear hq1;try clear hq2;try clear hq3
  try clear hq4;try clear hq5;try clear hq6;try clear hq7;try clear hq8;try clear hq9
  try clear hq10;try clear hq11;try clear hq12;try clear hq13;try clear hq14;try clear hq15
  try clear hq16;try clear hq17;try clear hq18;try clear ka;try clear km;try clear kw0
  try clear ow0;try clear kw1;try clear ow1;try clear kxa;try clear kxm;try clear kg0
  try clear kg1;try clear mkxa;try clear mkxm;try clear mkg0;try clear mkg1;try clear HKa
  try clear HKm
  refine wp_region_held_drew (S:=fun W=>W.cell? ⟨w.heap.size,0,none⟩ = some (.string a.1)∧W.cell? ⟨w.heap.size,1,none⟩ = some (.slice Aa a.2.length ca)∧W.cell? ⟨w.heap.size+1,0,none⟩ = some (.string m.1)∧W.cell? ⟨w.heap.size+1,1,none⟩ = some (.bool m.2.1)∧W.cell? ⟨w.heap.size+1,2,none⟩ = some (.slice Am m.2.2.length cm)∧Hid (Below w18.heap.size w18 W)) (by kernel_rfl) ?_ (fun hHeld=>?_)
  ·exact KL.out _ X0.out.2.2
  refine wpAnyH_take (i:=0) (v:=?_) rfl (by kernel_rfl) (by kernel_rfl) (by kernel_rfl) (fun _ _ _ h=>h) (Or.inl ⟨by kernel_rfl,?_⟩) (by assumption) ?_
  rotate_left
  ·(intro w hSw;(try dsimp only at hSw);go_simp;(try with_reducible rfl))
  (try simp only [Act.put,List.getElem_toArray,List.getElem_cons_zero,List.setIfInBounds_toArray,List.set_cons_zero,List.set_cons_succ])
  refine wpAnyH_take (i:=2) (v:=?_) rfl (by kernel_rfl) (by kernel_rfl) (by kernel_rfl) (fun _ _ _ h=>h) (Or.inl ⟨by kernel_rfl,?_⟩) (by assumption) ?_
  rotate_left
  ·(intro w hSw;(try dsimp only at hSw);go_simp;(try with_reducible rfl))
  (try simp only [Act.put,List.getElem_toArray,List.getElem_cons_zero,List.getElem_cons_succ,List.setIfInBounds_toArray,List.set_cons_zero,List.set_cons_succ])
  refine wpAnyH_take (i:=4) (v:=?_) rfl (by kernel_rfl) (by kernel_rfl) (by kernel_rfl) (fun _ _ _ h=>h) (Or.inl ⟨by kernel_rfl,?_⟩) (by assumption) ?_
  rotate_left
  ·(intro w hSw;(try dsimp only at hSw);go_simp;(try with_reducible rfl))
  (try simp only [Act.put,List.getElem_toArray,List.getElem_cons_zero,List.getElem_cons_succ,List.setIfInBounds_toArray,List.set_cons_zero,List.set_cons_succ])
  refine wpAnyH_take (i:=5) (v:=?_) rfl (by kernel_rfl) (by kernel_rfl) (by kernel_rfl) (fun _ _ _ h=>h) (Or.inl ⟨by kernel_rfl,?_⟩) (by assumption) ?_
  rotate_left
  ·(intro w hSw;(try dsimp only at hSw);go_simp;(try with_reducible rfl))
  (try simp only [Act.put,List.getElem_toArray,List.getElem_cons_zero,List.getElem_cons_succ,List.setIfInBounds_toArray,List.set_cons_zero,List.set_cons_succ])
  have X:=X0.out
  clear X0 hHeld
  generalize w18.drew = W at X ⊢
  revert X
  revert W
  apply memoG
  intro key311
  apply memoG
  intro key310
  apply memoG
  intro key301
  apply memoG
  intro key300
  apply memoG
  intro key211
  apply memoG
  intro key210
  apply memoG
  intro key201
  apply memoG
  intro key200
  apply memoG
  intro key111
  apply memoG
  intro key110
  apply memoG
  intro key101
  apply memoG
  intro key100
  apply memoG
  intro key011
  apply memoG
  intro key010
  apply memoG
  intro key001
  ·intro W X
   have hHeld:=KL.out _ X.2.2
   refine wpAnyH_ready (rs:=[1,11,12]) (by kernel_rfl) (by simp) ?_
   refine AllReadyH.cons rfl (fun K hK=>?_) ?_
   ·go_simp
    go_at_call 7
    refine (toT_new _ a _ HZa.out (RFa.out _ (BBF.out _ X.2.2))).mono ?_
    rintro e W2 ⟨ta,Sta,rfl,ota,lta,bta⟩
    refine hK.out _ _ ?_ (fun hHeld2=>?_)
    ·exact KL.out _ (Below.next X.2.2 bta)
    clear hK K hHeld
    (try simp only [Act.put,List.getElem_toArray,List.getElem_cons_zero,List.getElem_cons_succ,List.setIfInBounds_toArray,List.set_cons_zero,List.set_cons_succ])
    have X2:=BxP.call X bta
    clear hHeld2 lta bta X
    clear W
    rename World=>W
    have X:=X2
    clear X2
    revert ota
    revert X
    revert Sta
    revert ta
    revert W
    exact key100
   refine AllReadyH.cons rfl (fun K hK=>?_) ?_
   ·go_simp
    refine hK.out _ _ ?_ (fun hHeld2=>?_)
    ·exact KL.out _ (below_al X.2.2 _)
    clear hK K hHeld hHeld2
    (try simp only [Act.put,List.getElem_toArray,List.getElem_cons_zero,List.getElem_cons_succ,List.setIfInBounds_toArray,List.set_cons_zero,List.set_cons_succ])
    have X2:=BxP.al X #[.string ⟨#[]⟩,.bool false,.slice none 0 0] 34
    clear X
    generalize W.alloc (.cells #[.string ⟨#[]⟩,.bool false,.slice none 0 0] 34) = W2 at *
    generalize W.heap.size = gA at *
    clear W
    rename World=>W
    have X:=X2
    clear X2
    revert X
    revert W
    revert gA
    exact key010
   refine AllReadyH.cons rfl (fun K hK=>?_) ?_
   ·go_simp
    refine hK.out _ _ ?_ (fun hHeld2=>?_)
    ·exact KL.out _ (below_al X.2.2 _)
    clear hK K hHeld hHeld2
    (try simp only [Act.put,List.getElem_toArray,List.getElem_cons_zero,List.getElem_cons_succ,List.setIfInBounds_toArray,List.set_cons_zero,List.set_cons_succ])
    have X2:=BxP.al X #[.bool false,.slice none 0 0,.slice none 0 0] 36
    clear X
    generalize W.alloc (.cells #[.bool false,.slice none 0 0,.slice none 0 0] 36) = W2 at *
    generalize W.heap.size = gB at *
    clear W
    rename World=>W
    have X:=X2
    clear X2
    revert X
    revert W
    revert gB
    exact key001
   exact AllReadyH.nil
  ·intro gB W X
   have hHeld:=KL.out _ X.2.2
   refine wpAnyH_ready (rs:=[1,11]) (by kernel_rfl) (by simp) ?_
   refine AllReadyH.cons rfl (fun K hK=>?_) ?_
   ·go_simp
    go_at_call 7
    refine (toT_new _ a _ HZa.out (RFa.out _ (BBF.out _ X.2.2))).mono ?_
    rintro e W2 ⟨ta,Sta,rfl,ota,lta,bta⟩
    refine hK.out _ _ ?_ (fun hHeld2=>?_)
    ·exact KL.out _ (Below.next X.2.2 bta)
    clear hK K hHeld
    (try simp only [Act.put,List.getElem_toArray,List.getElem_cons_zero,List.getElem_cons_succ,List.setIfInBounds_toArray,List.set_cons_zero,List.set_cons_succ])
    have X2:=BxP.call X bta
    clear hHeld2 lta bta X
    clear W
    rename World=>W
    have X:=X2
    clear X2
    revert ota
    revert X
    revert Sta
    revert ta
    revert W
    revert gB
    exact key101
   refine AllReadyH.cons rfl (fun K hK=>?_) ?_
   ·go_simp
    refine hK.out _ _ ?_ (fun hHeld2=>?_)
    ·exact KL.out _ (below_al X.2.2 _)
    clear hK K hHeld hHeld2
    (try simp only [Act.put,List.getElem_toArray,List.getElem_cons_zero,List.getElem_cons_succ,List.setIfInBounds_toArray,List.set_cons_zero,List.set_cons_succ])
    have X2:=BxP.al X #[.string ⟨#[]⟩,.bool false,.slice none 0 0] 34
    clear X
    generalize W.alloc (.cells #[.string ⟨#[]⟩,.bool false,.slice none 0 0] 34) = W2 at *
    generalize W.heap.size = gA at *
    clear W
    rename World=>W
    have X:=X2
    clear X2
    revert X
    revert W
    revert gB
    revert gA
    exact key011
   exact AllReadyH.nil
  ·intro gA W X
   have hHeld:=KL.out _ X.2.2
   refine wpAnyH_ready (rs:=[1,12]) (by kernel_rfl) (by simp) ?_
   refine AllReadyH.cons rfl (fun K hK=>?_) ?_
   ·go_simp
    go_at_call 7
    refine (toT_new _ a _ HZa.out (RFa.out _ (BBF.out _ X.2.2))).mono ?_
    rintro e W2 ⟨ta,Sta,rfl,ota,lta,bta⟩
    refine hK.out _ _ ?_ (fun hHeld2=>?_)
    ·exact KL.out _ (Below.next X.2.2 bta)
    clear hK K hHeld
    (try simp only [Act.put,List.getElem_toArray,List.getElem_cons_zero,List.getElem_cons_succ,List.setIfInBounds_toArray,List.set_cons_zero,List.set_cons_succ])
    have X2:=BxP.call X bta
    clear hHeld2 lta bta X
    clear W
    rename World=>W
    have X:=X2
    clear X2
    revert ota
    revert X
    revert Sta
    revert ta
    revert W
    revert gA
    exact key110
   refine AllReadyH.cons rfl (fun K hK=>?_) ?_
   ·go_simp
    refine hK.out _ _ ?_ (fun hHeld2=>?_)
    ·exact KL.out _ (below_al X.2.2 _)
    clear hK K hHeld hHeld2
    (try simp only [Act.put,List.getElem_toArray,List.getElem_cons_zero,List.getElem_cons_succ,List.setIfInBounds_toArray,List.set_cons_zero,List.set_cons_succ])
    have X2:=BxP.al X #[.bool false,.slice none 0 0,.slice none 0 0] 36
    clear X
    generalize W.alloc (.cells #[.bool false,.slice none 0 0,.slice none 0 0] 36) = W2 at *
    generalize W.heap.size = gB at *
    clear W
    rename World=>W
    have X:=BxP.symm X2
    clear X2
    revert X
    revert W
    revert gB
    revert gA
    exact key011
   exact AllReadyH.nil
  ·intro gA gB W X
   have hHeld:=KL.out _ X.2.2
   refine wpAnyH_ready (rs:=[1]) (by kernel_rfl) (by simp) ?_
   refine AllReadyH.cons rfl (fun K hK=>?_) ?_
   ·go_simp
    go_at_call 7
    refine (toT_new _ a _ HZa.out (RFa.out _ (BBF.out _ X.2.2))).mono ?_
    rintro e W2 ⟨ta,Sta,rfl,ota,lta,bta⟩
    refine hK.out _ _ ?_ (fun hHeld2=>?_)
    ·exact KL.out _ (Below.next X.2.2 bta)
    clear hK K hHeld
    (try simp only [Act.put,List.getElem_toArray,List.getElem_cons_zero,List.getElem_cons_succ,List.setIfInBounds_toArray,List.set_cons_zero,List.set_cons_succ])
    have X2:=BxP.call X bta
    clear hHeld2 lta bta X
    clear W
    rename World=>W
    have X:=X2
    clear X2
    revert ota
    revert X
    revert Sta
    revert ta
    revert W
    revert gB
    revert gA
    exact key111
   exact AllReadyH.nil
  ·intro W ta Sta X ota
   have hHeld:=KL.out _ X.2.2
   refine wpAnyH_ready (rs:=[3,11,12]) (by kernel_rfl) (by simp) ?_
   refine AllReadyH.cons rfl (fun K hK=>?_) ?_
   ·go_simp
    go_at_call 8
    refine (toM_new _ m _ HZm.out (RFm.out _ (BBF.out _ X.2.2))).mono ?_
    rintro e W2 ⟨tm,Stm,rfl,otm,ltm,btm⟩
    refine hK.out _ _ ?_ (fun hHeld2=>?_)
    ·exact KL.out _ (Below.next X.2.2 btm)
    clear hK K hHeld
    (try simp only [Act.put,List.getElem_toArray,List.getElem_cons_zero,List.getElem_cons_succ,List.setIfInBounds_toArray,List.set_cons_zero,List.set_cons_succ])
    have X2:=BxP.call X btm
    have ota2:=At.below ota btm
    clear hHeld2 ltm btm X ota
    clear W
    rename World=>W
    have X:=X2
    clear X2
    have ota:=ota2
    clear ota2
    revert otm
    revert ota
    revert X
    revert Stm
    revert tm
    revert Sta
    revert ta
    revert W
    exact key200
   refine AllReadyH.cons rfl (fun K hK=>?_) ?_
   ·go_simp
    refine hK.out _ _ ?_ (fun hHeld2=>?_)
    ·exact KL.out _ (below_al X.2.2 _)
    clear hK K hHeld hHeld2
    (try simp only [Act.put,List.getElem_toArray,List.getElem_cons_zero,List.getElem_cons_succ,List.setIfInBounds_toArray,List.set_cons_zero,List.set_cons_succ])
    have X2:=BxP.al X #[.string ⟨#[]⟩,.bool false,.slice none 0 0] 34
    have ota2:=At.below ota (below_al (Below.refl _ _) (.cells #[.string ⟨#[]⟩,.bool false,.slice none 0 0] 34))
    clear X ota
    generalize W.alloc (.cells #[.string ⟨#[]⟩,.bool false,.slice none 0 0] 34) = W2 at *
    generalize W.heap.size = gA at *
    clear W
    rename World=>W
    have X:=X2
    clear X2
    have ota:=ota2
    clear ota2
    revert ota
    revert X
    revert Sta
    revert ta
    revert W
    revert gA
    exact key110
   refine AllReadyH.cons rfl (fun K hK=>?_) ?_
   ·go_simp
    refine hK.out _ _ ?_ (fun hHeld2=>?_)
    ·exact KL.out _ (below_al X.2.2 _)
    clear hK K hHeld hHeld2
    (try simp only [Act.put,List.getElem_toArray,List.getElem_cons_zero,List.getElem_cons_succ,List.setIfInBounds_toArray,List.set_cons_zero,List.set_cons_succ])
    have X2:=BxP.al X #[.bool false,.slice none 0 0,.slice none 0 0] 36
    have ota2:=At.below ota (below_al (Below.refl _ _) (.cells #[.bool false,.slice none 0 0,.slice none 0 0] 36))
    clear X ota
    generalize W.alloc (.cells #[.bool false,.slice none 0 0,.slice none 0 0] 36) = W2 at *
    generalize W.heap.size = gB at *
    clear W
    rename World=>W
    have X:=X2
    clear X2
    have ota:=ota2
    clear ota2
    revert ota
    revert X
    revert Sta
    revert ta
    revert W
    revert gB
    exact key101
   exact AllReadyH.nil
  ·intro gB W ta Sta X ota
   have hHeld:=KL.out _ X.2.2
   refine wpAnyH_ready (rs:=[3,11]) (by kernel_rfl) (by simp) ?_
   refine AllReadyH.cons rfl (fun K hK=>?_) ?_
   ·go_simp
    go_at_call 8
    refine (toM_new _ m _ HZm.out (RFm.out _ (BBF.out _ X.2.2))).mono ?_
    rintro e W2 ⟨tm,Stm,rfl,otm,ltm,btm⟩
    refine hK.out _ _ ?_ (fun hHeld2=>?_)
    ·exact KL.out _ (Below.next X.2.2 btm)
    clear hK K hHeld
    (try simp only [Act.put,List.getElem_toArray,List.getElem_cons_zero,List.getElem_cons_succ,List.setIfInBounds_toArray,List.set_cons_zero,List.set_cons_succ])
    have X2:=BxP.call X btm
    have ota2:=At.below ota btm
    clear hHeld2 ltm btm X ota
    clear W
    rename World=>W
    have X:=X2
    clear X2
    have ota:=ota2
    clear ota2
    revert otm
    revert ota
    revert X
    revert Stm
    revert tm
    revert Sta
    revert ta
    revert W
    revert gB
    exact key201
   refine AllReadyH.cons rfl (fun K hK=>?_) ?_
   ·go_simp
    refine hK.out _ _ ?_ (fun hHeld2=>?_)
    ·exact KL.out _ (below_al X.2.2 _)
    clear hK K hHeld hHeld2
    (try simp only [Act.put,List.getElem_toArray,List.getElem_cons_zero,List.getElem_cons_succ,List.setIfInBounds_toArray,List.set_cons_zero,List.set_cons_succ])
    have X2:=BxP.al X #[.string ⟨#[]⟩,.bool false,.slice none 0 0] 34
    have ota2:=At.below ota (below_al (Below.refl _ _) (.cells #[.string ⟨#[]⟩,.bool false,.slice none 0 0] 34))
    clear X ota
    generalize W.alloc (.cells #[.string ⟨#[]⟩,.bool false,.slice none 0 0] 34) = W2 at *
    generalize W.heap.size = gA at *
    clear W
    rename World=>W
    have X:=X2
    clear X2
    have ota:=ota2
    clear ota2
    revert ota
    revert X
    revert Sta
    revert ta
    revert W
    revert gB
    revert gA
    exact key111
   exact AllReadyH.nil
  ·intro gA W ta Sta X ota
   have hHeld:=KL.out _ X.2.2
   refine wpAnyH_ready (rs:=[3,12]) (by kernel_rfl) (by simp) ?_
   refine AllReadyH.cons rfl (fun K hK=>?_) ?_
   ·go_simp
    go_at_call 8
    refine (toM_new _ m _ HZm.out (RFm.out _ (BBF.out _ X.2.2))).mono ?_
    rintro e W2 ⟨tm,Stm,rfl,otm,ltm,btm⟩
    refine hK.out _ _ ?_ (fun hHeld2=>?_)
    ·exact KL.out _ (Below.next X.2.2 btm)
    clear hK K hHeld
    (try simp only [Act.put,List.getElem_toArray,List.getElem_cons_zero,List.getElem_cons_succ,List.setIfInBounds_toArray,List.set_cons_zero,List.set_cons_succ])
    have X2:=BxP.call X btm
    have ota2:=At.below ota btm
    clear hHeld2 ltm btm X ota
    clear W
    rename World=>W
    have X:=X2
    clear X2
    have ota:=ota2
    clear ota2
    revert otm
    revert ota
    revert X
    revert Stm
    revert tm
    revert Sta
    revert ta
    revert W
    revert gA
    exact key210
   refine AllReadyH.cons rfl (fun K hK=>?_) ?_
   ·go_simp
    refine hK.out _ _ ?_ (fun hHeld2=>?_)
    ·exact KL.out _ (below_al X.2.2 _)
    clear hK K hHeld hHeld2
    (try simp only [Act.put,List.getElem_toArray,List.getElem_cons_zero,List.getElem_cons_succ,List.setIfInBounds_toArray,List.set_cons_zero,List.set_cons_succ])
    have X2:=BxP.al X #[.bool false,.slice none 0 0,.slice none 0 0] 36
    have ota2:=At.below ota (below_al (Below.refl _ _) (.cells #[.bool false,.slice none 0 0,.slice none 0 0] 36))
    clear X ota
    generalize W.alloc (.cells #[.bool false,.slice none 0 0,.slice none 0 0] 36) = W2 at *
    generalize W.heap.size = gB at *
    clear W
    rename World=>W
    have X:=BxP.symm X2
    clear X2
    have ota:=ota2
    clear ota2
    revert ota
    revert X
    revert Sta
    revert ta
    revert W
    revert gB
    revert gA
    exact key111
   exact AllReadyH.nil
  ·intro gA gB W ta Sta X ota
   have hHeld:=KL.out _ X.2.2
   refine wpAnyH_ready (rs:=[3]) (by kernel_rfl) (by simp) ?_
   refine AllReadyH.cons rfl (fun K hK=>?_) ?_
   ·go_simp
    go_at_call 8
    refine (toM_new _ m _ HZm.out (RFm.out _ (BBF.out _ X.2.2))).mono ?_
    rintro e W2 ⟨tm,Stm,rfl,otm,ltm,btm⟩
    refine hK.out _ _ ?_ (fun hHeld2=>?_)
    ·exact KL.out _ (Below.next X.2.2 btm)
    clear hK K hHeld
    (try simp only [Act.put,List.getElem_toArray,List.getElem_cons_zero,List.getElem_cons_succ,List.setIfInBounds_toArray,List.set_cons_zero,List.set_cons_succ])
    have X2:=BxP.call X btm
    have ota2:=At.below ota btm
    clear hHeld2 ltm btm X ota
    clear W
    rename World=>W
    have X:=X2
    clear X2
    have ota:=ota2
    clear ota2
    revert otm
    revert ota
    revert X
    revert Stm
    revert tm
    revert Sta
    revert ta
    revert W
    revert gB
    revert gA
    exact key211
   exact AllReadyH.nil
  ·intro W ta Sta tm Stm X ota otm
   have hHeld:=KL.out _ X.2.2
   refine wpAnyH_ready (rs:=[6,11,12]) (by kernel_rfl) (by simp) ?_
   refine AllReadyH.cons rfl (fun K hK=>?_) ?_
   ·go_simp
    go_at_call 9
    refine (HI.out _ _ _ ota.here otm.here (HT0.out.below (BBF.out _ X.2.2)) (HT1.out.below (BBF.out _ X.2.2)) (HT2.out.below (BBF.out _ X.2.2))).mono ?_
    rintro e W2 ⟨uf,vf,Sf,Df,rfl,of,pf,hapf,lf,kf,bf⟩
    obtain ⟨Af,cf,rfl⟩:=ownM_form of.here
    obtain ⟨Ah,ch,Bh,dh,rfl⟩:=ownQ_form pf.here
    refine hK.out _ _ ?_ (fun hHeld2=>?_)
    ·exact KL.out _ (Below.next X.2.2 bf)
    clear hK K hHeld
    (try simp only [Act.put,List.getElem_toArray,List.getElem_cons_zero,List.getElem_cons_succ,List.setIfInBounds_toArray,List.set_cons_zero,List.set_cons_succ])
    refine wpAnyH_take (i:=7) (v:=?_) rfl (by kernel_rfl) (by kernel_rfl) (by kernel_rfl) (fun _ _ _ h=>h) (Or.inl ⟨by kernel_rfl,?_⟩) (by assumption) ?_
    rotate_left
    ·(intro w hSw;(try dsimp only at hSw);go_simp;(try with_reducible rfl))
    (try simp only [Act.put,List.getElem_toArray,List.getElem_cons_zero,List.getElem_cons_succ,List.setIfInBounds_toArray,List.set_cons_zero,List.set_cons_succ])
    refine wpAnyH_take (i:=8) (v:=?_) rfl (by kernel_rfl) (by kernel_rfl) (by kernel_rfl) (fun _ _ _ h=>h) (Or.inl ⟨by kernel_rfl,?_⟩) (by assumption) ?_
    rotate_left
    ·(intro w hSw;(try dsimp only at hSw);go_simp;(try with_reducible rfl))
    (try simp only [Act.put,List.getElem_toArray,List.getElem_cons_zero,List.getElem_cons_succ,List.setIfInBounds_toArray,List.set_cons_zero,List.set_cons_succ])
    refine wpAnyH_take (i:=9) (v:=?_) rfl (by kernel_rfl) (by kernel_rfl) (by kernel_rfl) (fun _ _ _ h=>h) (Or.inl ⟨by kernel_rfl,?_⟩) (by assumption) ?_
    rotate_left
    ·(intro w hSw;(try dsimp only at hSw);go_simp;(try with_reducible rfl))
    (try simp only [Act.put,List.getElem_toArray,List.getElem_cons_zero,List.getElem_cons_succ,List.setIfInBounds_toArray,List.set_cons_zero,List.set_cons_succ])
    refine wpAnyH_take (i:=10) (v:=?_) rfl (by kernel_rfl) (by kernel_rfl) (by kernel_rfl) (fun _ _ _ h=>h) (Or.inl ⟨by kernel_rfl,?_⟩) (by assumption) ?_
    rotate_left
    ·(intro w hSw;(try dsimp only at hSw);go_simp;(try with_reducible rfl))
    (try simp only [Act.put,List.getElem_toArray,List.getElem_cons_zero,List.getElem_cons_succ,List.setIfInBounds_toArray,List.set_cons_zero,List.set_cons_succ])
    have RY:=ReadyP.of X bf of pf hapf lf kf
    clear hHeld2 of pf hapf lf kf bf Sf Df X ota otm
    clear Sta Stm W
    rename World=>W
    revert RY
    revert dh
    revert Bh
    revert ch
    revert Ah
    revert cf
    revert Af
    revert tm
    revert ta
    revert W
    exact key300
   refine AllReadyH.cons rfl (fun K hK=>?_) ?_
   ·go_simp
    refine hK.out _ _ ?_ (fun hHeld2=>?_)
    ·exact KL.out _ (below_al X.2.2 _)
    clear hK K hHeld hHeld2
    (try simp only [Act.put,List.getElem_toArray,List.getElem_cons_zero,List.getElem_cons_succ,List.setIfInBounds_toArray,List.set_cons_zero,List.set_cons_succ])
    have X2:=BxP.al X #[.string ⟨#[]⟩,.bool false,.slice none 0 0] 34
    have ota2:=At.below ota (below_al (Below.refl _ _) (.cells #[.string ⟨#[]⟩,.bool false,.slice none 0 0] 34))
    have otm2:=At.below otm (below_al (Below.refl _ _) (.cells #[.string ⟨#[]⟩,.bool false,.slice none 0 0] 34))
    clear X ota otm
    generalize W.alloc (.cells #[.string ⟨#[]⟩,.bool false,.slice none 0 0] 34) = W2 at *
    generalize W.heap.size = gA at *
    clear W
    rename World=>W
    have X:=X2
    clear X2
    have ota:=ota2
    clear ota2
    have otm:=otm2
    clear otm2
    revert otm
    revert ota
    revert X
    revert Stm
    revert tm
    revert Sta
    revert ta
    revert W
    revert gA
    exact key210
   refine AllReadyH.cons rfl (fun K hK=>?_) ?_
   ·go_simp
    refine hK.out _ _ ?_ (fun hHeld2=>?_)
    ·exact KL.out _ (below_al X.2.2 _)
    clear hK K hHeld hHeld2
    (try simp only [Act.put,List.getElem_toArray,List.getElem_cons_zero,List.getElem_cons_succ,List.setIfInBounds_toArray,List.set_cons_zero,List.set_cons_succ])
    have X2:=BxP.al X #[.bool false,.slice none 0 0,.slice none 0 0] 36
    have ota2:=At.below ota (below_al (Below.refl _ _) (.cells #[.bool false,.slice none 0 0,.slice none 0 0] 36))
    have otm2:=At.below otm (below_al (Below.refl _ _) (.cells #[.bool false,.slice none 0 0,.slice none 0 0] 36))
    clear X ota otm
    generalize W.alloc (.cells #[.bool false,.slice none 0 0,.slice none 0 0] 36) = W2 at *
    generalize W.heap.size = gB at *
    clear W
    rename World=>W
    have X:=X2
    clear X2
    have ota:=ota2
    clear ota2
    have otm:=otm2
    clear otm2
    revert otm
    revert ota
    revert X
    revert Stm
    revert tm
    revert Sta
    revert ta
    revert W
    revert gB
    exact key201
   exact AllReadyH.nil
  ·intro gB W ta Sta tm Stm X ota otm
   have hHeld:=KL.out _ X.2.2
   refine wpAnyH_ready (rs:=[6,11]) (by kernel_rfl) (by simp) ?_
   refine AllReadyH.cons rfl (fun K hK=>?_) ?_
   ·go_simp
    go_at_call 9
    refine (HI.out _ _ _ ota.here otm.here (HT0.out.below (BBF.out _ X.2.2)) (HT1.out.below (BBF.out _ X.2.2)) (HT2.out.below (BBF.out _ X.2.2))).mono ?_
    rintro e W2 ⟨uf,vf,Sf,Df,rfl,of,pf,hapf,lf,kf,bf⟩
    obtain ⟨Af,cf,rfl⟩:=ownM_form of.here
    obtain ⟨Ah,ch,Bh,dh,rfl⟩:=ownQ_form pf.here
    refine hK.out _ _ ?_ (fun hHeld2=>?_)
    ·exact KL.out _ (Below.next X.2.2 bf)
    clear hK K hHeld
    (try simp only [Act.put,List.getElem_toArray,List.getElem_cons_zero,List.getElem_cons_succ,List.setIfInBounds_toArray,List.set_cons_zero,List.set_cons_succ])
    refine wpAnyH_take (i:=7) (v:=?_) rfl (by kernel_rfl) (by kernel_rfl) (by kernel_rfl) (fun _ _ _ h=>h) (Or.inl ⟨by kernel_rfl,?_⟩) (by assumption) ?_
    rotate_left
    ·(intro w hSw;(try dsimp only at hSw);go_simp;(try with_reducible rfl))
    (try simp only [Act.put,List.getElem_toArray,List.getElem_cons_zero,List.getElem_cons_succ,List.setIfInBounds_toArray,List.set_cons_zero,List.set_cons_succ])
    refine wpAnyH_take (i:=8) (v:=?_) rfl (by kernel_rfl) (by kernel_rfl) (by kernel_rfl) (fun _ _ _ h=>h) (Or.inl ⟨by kernel_rfl,?_⟩) (by assumption) ?_
    rotate_left
    ·(intro w hSw;(try dsimp only at hSw);go_simp;(try with_reducible rfl))
    (try simp only [Act.put,List.getElem_toArray,List.getElem_cons_zero,List.getElem_cons_succ,List.setIfInBounds_toArray,List.set_cons_zero,List.set_cons_succ])
    refine wpAnyH_take (i:=9) (v:=?_) rfl (by kernel_rfl) (by kernel_rfl) (by kernel_rfl) (fun _ _ _ h=>h) (Or.inl ⟨by kernel_rfl,?_⟩) (by assumption) ?_
    rotate_left
    ·(intro w hSw;(try dsimp only at hSw);go_simp;(try with_reducible rfl))
    (try simp only [Act.put,List.getElem_toArray,List.getElem_cons_zero,List.getElem_cons_succ,List.setIfInBounds_toArray,List.set_cons_zero,List.set_cons_succ])
    refine wpAnyH_take (i:=10) (v:=?_) rfl (by kernel_rfl) (by kernel_rfl) (by kernel_rfl) (fun _ _ _ h=>h) (Or.inl ⟨by kernel_rfl,?_⟩) (by assumption) ?_
    rotate_left
    ·(intro w hSw;(try dsimp only at hSw);go_simp;(try with_reducible rfl))
    (try simp only [Act.put,List.getElem_toArray,List.getElem_cons_zero,List.getElem_cons_succ,List.setIfInBounds_toArray,List.set_cons_zero,List.set_cons_succ])
    have RY:=ReadyP.of X bf of pf hapf lf kf
    clear hHeld2 of pf hapf lf kf bf Sf Df X ota otm
    clear Sta Stm W
    rename World=>W
    revert RY
    revert dh
    revert Bh
    revert ch
    revert Ah
    revert cf
    revert Af
    revert tm
    revert ta
    revert W
    revert gB
    exact key301
   refine AllReadyH.cons rfl (fun K hK=>?_) ?_
   ·go_simp
    refine hK.out _ _ ?_ (fun hHeld2=>?_)
    ·exact KL.out _ (below_al X.2.2 _)
    clear hK K hHeld hHeld2
    (try simp only [Act.put,List.getElem_toArray,List.getElem_cons_zero,List.getElem_cons_succ,List.setIfInBounds_toArray,List.set_cons_zero,List.set_cons_succ])
    have X2:=BxP.al X #[.string ⟨#[]⟩,.bool false,.slice none 0 0] 34
    have ota2:=At.below ota (below_al (Below.refl _ _) (.cells #[.string ⟨#[]⟩,.bool false,.slice none 0 0] 34))
    have otm2:=At.below otm (below_al (Below.refl _ _) (.cells #[.string ⟨#[]⟩,.bool false,.slice none 0 0] 34))
    clear X ota otm
    generalize W.alloc (.cells #[.string ⟨#[]⟩,.bool false,.slice none 0 0] 34) = W2 at *
    generalize W.heap.size = gA at *
    clear W
    rename World=>W
    have X:=X2
    clear X2
    have ota:=ota2
    clear ota2
    have otm:=otm2
    clear otm2
    revert otm
    revert ota
    revert X
    revert Stm
    revert tm
    revert Sta
    revert ta
    revert W
    revert gB
    revert gA
    exact key211
   exact AllReadyH.nil
  ·intro gA W ta Sta tm Stm X ota otm
   have hHeld:=KL.out _ X.2.2
   refine wpAnyH_ready (rs:=[6,12]) (by kernel_rfl) (by simp) ?_
   refine AllReadyH.cons rfl (fun K hK=>?_) ?_
   ·go_simp
    go_at_call 9
    refine (HI.out _ _ _ ota.here otm.here (HT0.out.below (BBF.out _ X.2.2)) (HT1.out.below (BBF.out _ X.2.2)) (HT2.out.below (BBF.out _ X.2.2))).mono ?_
    rintro e W2 ⟨uf,vf,Sf,Df,rfl,of,pf,hapf,lf,kf,bf⟩
    obtain ⟨Af,cf,rfl⟩:=ownM_form of.here
    obtain ⟨Ah,ch,Bh,dh,rfl⟩:=ownQ_form pf.here
    refine hK.out _ _ ?_ (fun hHeld2=>?_)
    ·exact KL.out _ (Below.next X.2.2 bf)
    clear hK K hHeld
    (try simp only [Act.put,List.getElem_toArray,List.getElem_cons_zero,List.getElem_cons_succ,List.setIfInBounds_toArray,List.set_cons_zero,List.set_cons_succ])
    refine wpAnyH_take (i:=7) (v:=?_) rfl (by kernel_rfl) (by kernel_rfl) (by kernel_rfl) (fun _ _ _ h=>h) (Or.inl ⟨by kernel_rfl,?_⟩) (by assumption) ?_
    rotate_left
    ·(intro w hSw;(try dsimp only at hSw);go_simp;(try with_reducible rfl))
    (try simp only [Act.put,List.getElem_toArray,List.getElem_cons_zero,List.getElem_cons_succ,List.setIfInBounds_toArray,List.set_cons_zero,List.set_cons_succ])
    refine wpAnyH_take (i:=8) (v:=?_) rfl (by kernel_rfl) (by kernel_rfl) (by kernel_rfl) (fun _ _ _ h=>h) (Or.inl ⟨by kernel_rfl,?_⟩) (by assumption) ?_
    rotate_left
    ·(intro w hSw;(try dsimp only at hSw);go_simp;(try with_reducible rfl))
    (try simp only [Act.put,List.getElem_toArray,List.getElem_cons_zero,List.getElem_cons_succ,List.setIfInBounds_toArray,List.set_cons_zero,List.set_cons_succ])
    refine wpAnyH_take (i:=9) (v:=?_) rfl (by kernel_rfl) (by kernel_rfl) (by kernel_rfl) (fun _ _ _ h=>h) (Or.inl ⟨by kernel_rfl,?_⟩) (by assumption) ?_
    rotate_left
    ·(intro w hSw;(try dsimp only at hSw);go_simp;(try with_reducible rfl))
    (try simp only [Act.put,List.getElem_toArray,List.getElem_cons_zero,List.getElem_cons_succ,List.setIfInBounds_toArray,List.set_cons_zero,List.set_cons_succ])
    refine wpAnyH_take (i:=10) (v:=?_) rfl (by kernel_rfl) (by kernel_rfl) (by kernel_rfl) (fun _ _ _ h=>h) (Or.inl ⟨by kernel_rfl,?_⟩) (by assumption) ?_
    rotate_left
    ·(intro w hSw;(try dsimp only at hSw);go_simp;(try with_reducible rfl))
    (try simp only [Act.put,List.getElem_toArray,List.getElem_cons_zero,List.getElem_cons_succ,List.setIfInBounds_toArray,List.set_cons_zero,List.set_cons_succ])
    have RY:=ReadyP.of X bf of pf hapf lf kf
    clear hHeld2 of pf hapf lf kf bf Sf Df X ota otm
    clear Sta Stm W
    rename World=>W
    revert RY
    revert dh
    revert Bh
    revert ch
    revert Ah
    revert cf
    revert Af
    revert tm
    revert ta
    revert W
    revert gA
    exact key310
   refine AllReadyH.cons rfl (fun K hK=>?_) ?_
   ·go_simp
    refine hK.out _ _ ?_ (fun hHeld2=>?_)
    ·exact KL.out _ (below_al X.2.2 _)
    clear hK K hHeld hHeld2
    (try simp only [Act.put,List.getElem_toArray,List.getElem_cons_zero,List.getElem_cons_succ,List.setIfInBounds_toArray,List.set_cons_zero,List.set_cons_succ])
    have X2:=BxP.al X #[.bool false,.slice none 0 0,.slice none 0 0] 36
    have ota2:=At.below ota (below_al (Below.refl _ _) (.cells #[.bool false,.slice none 0 0,.slice none 0 0] 36))
    have otm2:=At.below otm (below_al (Below.refl _ _) (.cells #[.bool false,.slice none 0 0,.slice none 0 0] 36))
    clear X ota otm
    generalize W.alloc (.cells #[.bool false,.slice none 0 0,.slice none 0 0] 36) = W2 at *
    generalize W.heap.size = gB at *
    clear W
    rename World=>W
    have X:=BxP.symm X2
    clear X2
    have ota:=ota2
    clear ota2
    have otm:=otm2
    clear otm2
    revert otm
    revert ota
    revert X
    revert Stm
    revert tm
    revert Sta
    revert ta
    revert W
    revert gB
    revert gA
    exact key211
   exact AllReadyH.nil
  ·intro gA gB W ta Sta tm Stm X ota otm
   have hHeld:=KL.out _ X.2.2
   refine wpAnyH_ready (rs:=[6]) (by kernel_rfl) (by simp) ?_
   refine AllReadyH.cons rfl (fun K hK=>?_) ?_
   ·go_simp
    go_at_call 9
    refine (HI.out _ _ _ ota.here otm.here (HT0.out.below (BBF.out _ X.2.2)) (HT1.out.below (BBF.out _ X.2.2)) (HT2.out.below (BBF.out _ X.2.2))).mono ?_
    rintro e W2 ⟨uf,vf,Sf,Df,rfl,of,pf,hapf,lf,kf,bf⟩
    obtain ⟨Af,cf,rfl⟩:=ownM_form of.here
    obtain ⟨Ah,ch,Bh,dh,rfl⟩:=ownQ_form pf.here
    refine hK.out _ _ ?_ (fun hHeld2=>?_)
    ·exact KL.out _ (Below.next X.2.2 bf)
    clear hK K hHeld
    (try simp only [Act.put,List.getElem_toArray,List.getElem_cons_zero,List.getElem_cons_succ,List.setIfInBounds_toArray,List.set_cons_zero,List.set_cons_succ])
    refine wpAnyH_take (i:=7) (v:=?_) rfl (by kernel_rfl) (by kernel_rfl) (by kernel_rfl) (fun _ _ _ h=>h) (Or.inl ⟨by kernel_rfl,?_⟩) (by assumption) ?_
    rotate_left
    ·(intro w hSw;(try dsimp only at hSw);go_simp;(try with_reducible rfl))
    (try simp only [Act.put,List.getElem_toArray,List.getElem_cons_zero,List.getElem_cons_succ,List.setIfInBounds_toArray,List.set_cons_zero,List.set_cons_succ])
    refine wpAnyH_take (i:=8) (v:=?_) rfl (by kernel_rfl) (by kernel_rfl) (by kernel_rfl) (fun _ _ _ h=>h) (Or.inl ⟨by kernel_rfl,?_⟩) (by assumption) ?_
    rotate_left
    ·(intro w hSw;(try dsimp only at hSw);go_simp;(try with_reducible rfl))
    (try simp only [Act.put,List.getElem_toArray,List.getElem_cons_zero,List.getElem_cons_succ,List.setIfInBounds_toArray,List.set_cons_zero,List.set_cons_succ])
    refine wpAnyH_take (i:=9) (v:=?_) rfl (by kernel_rfl) (by kernel_rfl) (by kernel_rfl) (fun _ _ _ h=>h) (Or.inl ⟨by kernel_rfl,?_⟩) (by assumption) ?_
    rotate_left
    ·(intro w hSw;(try dsimp only at hSw);go_simp;(try with_reducible rfl))
    (try simp only [Act.put,List.getElem_toArray,List.getElem_cons_zero,List.getElem_cons_succ,List.setIfInBounds_toArray,List.set_cons_zero,List.set_cons_succ])
    refine wpAnyH_take (i:=10) (v:=?_) rfl (by kernel_rfl) (by kernel_rfl) (by kernel_rfl) (fun _ _ _ h=>h) (Or.inl ⟨by kernel_rfl,?_⟩) (by assumption) ?_
    rotate_left
    ·(intro w hSw;(try dsimp only at hSw);go_simp;(try with_reducible rfl))
    (try simp only [Act.put,List.getElem_toArray,List.getElem_cons_zero,List.getElem_cons_succ,List.setIfInBounds_toArray,List.set_cons_zero,List.set_cons_succ])
    have RY:=ReadyP.of X bf of pf hapf lf kf
    clear hHeld2 of pf hapf lf kf bf Sf Df X ota otm
    clear Sta Stm W
    rename World=>W
    revert RY
    revert dh
    revert Bh
    revert ch
    revert Ah
    revert cf
    revert Af
    revert tm
    revert ta
    revert W
    revert gB
    revert gA
    exact key311
   exact AllReadyH.nil
  ·intro W ta tm Af cf Ah ch Bh dh RY
   have hHeld:=KL.out _ RY.1.2.2
   refine wpAnyH_ready (rs:=[11,12]) (by kernel_rfl) (by simp) ?_
   refine AllReadyH.cons rfl (fun K hK=>?_) ?_
   ·go_simp
    refine hK.out _ _ ?_ (fun hHeld2=>?_)
    ·exact KL.out _ (below_al RY.1.2.2 _)
    clear hK K hHeld hHeld2
    (try simp only [Act.put,List.getElem_toArray,List.getElem_cons_zero,List.getElem_cons_succ,List.setIfInBounds_toArray,List.set_cons_zero,List.set_cons_succ])
    have RY2:=ReadyP.al RY #[.string ⟨#[]⟩,.bool false,.slice none 0 0] 34
    clear RY
    generalize W.alloc (.cells #[.string ⟨#[]⟩,.bool false,.slice none 0 0] 34) = W2 at *
    generalize W.heap.size = gA at *
    clear W
    rename World=>W
    have RY:=RY2
    clear RY2
    revert RY
    revert dh
    revert Bh
    revert ch
    revert Ah
    revert cf
    revert Af
    revert tm
    revert ta
    revert W
    revert gA
    exact key310
   refine AllReadyH.cons rfl (fun K hK=>?_) ?_
   ·go_simp
    refine hK.out _ _ ?_ (fun hHeld2=>?_)
    ·exact KL.out _ (below_al RY.1.2.2 _)
    clear hK K hHeld hHeld2
    (try simp only [Act.put,List.getElem_toArray,List.getElem_cons_zero,List.getElem_cons_succ,List.setIfInBounds_toArray,List.set_cons_zero,List.set_cons_succ])
    have RY2:=ReadyP.al RY #[.bool false,.slice none 0 0,.slice none 0 0] 36
    clear RY
    generalize W.alloc (.cells #[.bool false,.slice none 0 0,.slice none 0 0] 36) = W2 at *
    generalize W.heap.size = gB at *
    clear W
    rename World=>W
    have RY:=RY2
    clear RY2
    revert RY
    revert dh
    revert Bh
    revert ch
    revert Ah
    revert cf
    revert Af
    revert tm
    revert ta
    revert W
    revert gB
    exact key301
   exact AllReadyH.nil
  ·intro gB W ta tm Af cf Ah ch Bh dh RY
   have hHeld:=KL.out _ RY.1.2.2
   refine wpAnyH_ready (rs:=[11]) (by kernel_rfl) (by simp) ?_
   refine AllReadyH.cons rfl (fun K hK=>?_) ?_
   ·go_simp
    refine hK.out _ _ ?_ (fun hHeld2=>?_)
    ·exact KL.out _ (below_al RY.1.2.2 _)
    clear hK K hHeld hHeld2
    (try simp only [Act.put,List.getElem_toArray,List.getElem_cons_zero,List.getElem_cons_succ,List.setIfInBounds_toArray,List.set_cons_zero,List.set_cons_succ])
    have RY2:=ReadyP.al RY #[.string ⟨#[]⟩,.bool false,.slice none 0 0] 34
    clear RY
    generalize W.alloc (.cells #[.string ⟨#[]⟩,.bool false,.slice none 0 0] 34) = W2 at *
    generalize W.heap.size = gA at *
    clear W
    rename World=>W
    have RY:=RY2
    clear RY2
    revert RY
    revert dh
    revert Bh
    revert ch
    revert Ah
    revert cf
    revert Af
    revert tm
    revert ta
    revert W
    revert gB
    revert gA
    exact key311
   exact AllReadyH.nil
  ·intro gA W ta tm Af cf Ah ch Bh dh RY
   have hHeld:=KL.out _ RY.1.2.2
   refine wpAnyH_ready (rs:=[12]) (by kernel_rfl) (by simp) ?_
   refine AllReadyH.cons rfl (fun K hK=>?_) ?_
   ·go_simp
    refine hK.out _ _ ?_ (fun hHeld2=>?_)
    ·exact KL.out _ (below_al RY.1.2.2 _)
    clear hK K hHeld hHeld2
    (try simp only [Act.put,List.getElem_toArray,List.getElem_cons_zero,List.getElem_cons_succ,List.setIfInBounds_toArray,List.set_cons_zero,List.set_cons_succ])
    have RY2:=ReadyP.al RY #[.bool false,.slice none 0 0,.slice none 0 0] 36
    clear RY
    generalize W.alloc (.cells #[.bool false,.slice none 0 0,.slice none 0 0] 36) = W2 at *
    generalize W.heap.size = gB at *
    clear W
    rename World=>W
    have RY:=ReadyP.symm RY2
    clear RY2
    revert RY
    revert dh
    revert Bh
    revert ch
    revert Ah
    revert cf
    revert Af
    revert tm
    revert ta
    revert W
    revert gB
    revert gA
    exact key311
   exact AllReadyH.nil
  ·intro gA gB W ta tm Af cf Ah ch Bh dh RY
   have hHeld:=KL.out _ RY.1.2.2
   have RY2:=ReadyP.two RY
   obtain ⟨⟨c1,c2,c3⟩,⟨f1,f2,f3⟩,⟨c4,c5,c6⟩,⟨f4,f5,f6⟩,e1,e2⟩:=RY2
   have hg:=(RY.1.2.1 (gA,#[.string ⟨#[]⟩,.bool false,.slice none 0 0],34) (by simp)).1
   have hm:=(RY.1.2.1 (gB,#[.bool false,.slice none 0 0,.slice none 0 0],36) (by simp)).1
   dsimp only at hg hm
   refine wpAnyH_ready (rs:=[13]) (by kernel_rfl) (by simp) ?_
   refine AllReadyH.cons rfl (fun K hK=>?_) ?_
   ·go_simp
    refine hK.out _ _ ?_ (fun hHeld2=>?_)
    ·refine KL.out _ ?_
     (repeat (first | with_reducible refine below_setP ?_ (by first | assumption | exact RY.1.2.2.size | exact Nat.le_succ_of_le RY.1.2.2.size) | with_reducible refine below_al ?_ _))
     exact RY.1.2.2
    clear hK K hHeld
    have hHeld:=hHeld2
    clear hHeld2
    (try simp only [Act.put,List.getElem_toArray,List.getElem_cons_zero,List.getElem_cons_succ,List.setIfInBounds_toArray,List.set_cons_zero,List.set_cons_succ])
    refine wpAnyH_ready (rs:=[14]) (by kernel_rfl) (by simp) ?_
    refine AllReadyH.cons rfl (fun K hK=>?_) ?_
    ·go_simp
     refine hK.out _ _ ?_ (fun hHeld2=>?_)
     ·refine KL.out _ ?_
      (repeat (first | with_reducible refine below_setP ?_ (by first | assumption | exact RY.1.2.2.size | exact Nat.le_succ_of_le RY.1.2.2.size) | with_reducible refine below_al ?_ _))
      exact RY.1.2.2
     clear hK K hHeld
     have hHeld:=hHeld2
     clear hHeld2
     (try simp only [Act.put,List.getElem_toArray,List.getElem_cons_zero,List.getElem_cons_succ,List.setIfInBounds_toArray,List.set_cons_zero,List.set_cons_succ])
     refine wpAnyH_take (i:=15) (v:=?_) rfl (by kernel_rfl) (by kernel_rfl) (by kernel_rfl) (fun _ _ _ h=>h) (Or.inl ⟨by kernel_rfl,?_⟩) (by assumption) ?_
     rotate_left
     ·(intro w hSw;(try dsimp only at hSw);go_simp;(try with_reducible rfl))
     (try simp only [Act.put,List.getElem_toArray,List.getElem_cons_zero,List.getElem_cons_succ,List.setIfInBounds_toArray,List.set_cons_zero,List.set_cons_succ])
     refine wpAnyH_done (by kernel_rfl) ?_ _
     go_wp2_with fail
     go_meet
     first | with_reducible exact ⟨locP_both RY,rfl⟩ | with_reducible exact ⟨locP_both2 RY,rfl⟩ | with_reducible exact ⟨locP_both (ReadyP.symm RY),rfl⟩ | with_reducible exact ⟨locP_both2 (ReadyP.symm RY),rfl⟩
    exact AllReadyH.nil
   exact AllReadyH.nil
 rename World=>w19
 obtain ⟨⟨gh0,gh1,csh0,csh1,Sh0,Sh1,rfl,rfl,kh0,kh1,oh0,oh1,aph,nh0,nh1,lh0,lh1,b19⟩,rfl⟩:=hcut
 obtain ⟨Ah0,ch0,eh0⟩:=ownM_form oh0.here
 injection eh0 with eh0
 subst eh0
 obtain ⟨Ah1,ch1,Bh1,dh1,eh1⟩:=ownQ_form oh1.here
 injection eh1 with eh1
 subst eh1
 have HAPh:=Lib.hid aph
 clear aph
 have bb19:=Below.next bb18 b19
 replace ka:=ka.below b19
 replace km:=km.below b19
 replace kw0:=kw0.below b19
 replace ow0:=ow0.below b19
 replace kw1:=kw1.below b19
 replace ow1:=ow1.below b19
 replace kxa:=kxa.below b19
 replace kxm:=kxm.below b19
 replace kg0:=kg0.below b19
 replace kg1:=kg1.below b19
 replace mkxa:=mkxa.below b19
 replace mkxm:=mkxm.below b19
 replace mkg0:=mkg0.below b19
 replace mkg1:=mkg1.below b19
 have kh0_c0:=kh0.here.cell 0 _ rfl
 have kh0_c1:=kh0.here.cell 1 _ rfl
 have kh0_c2:=kh0.here.cell 2 _ rfl
 have kw0_c0:=kw0.here.cell 0 _ rfl
 have kw0_c1:=kw0.here.cell 1 _ rfl
 have kw0_c2:=kw0.here.cell 2 _ rfl
 go_wp2_with fail
 clear kh0_c0 kh0_c1 kh0_c2 kw0_c0 kw0_c1 kw0_c2
 refine (eqM_cal _ _ R0 R0 _ (capM_of (by omega)) (OwnM.rd oh0.here) (OwnM.rd ow0.here)).mono ?_
 rintro e w20 ⟨rfl,b20⟩
 rw [decide_refl]
 have bb20:=Below.next bb19 b20
 replace ka:=ka.below b20
 replace km:=km.below b20
 replace kw0:=kw0.below b20
 replace ow0:=ow0.below b20
 replace kw1:=kw1.below b20
 replace ow1:=ow1.below b20
 replace kxa:=kxa.below b20
 replace kxm:=kxm.below b20
 replace kg0:=kg0.below b20
 replace kg1:=kg1.below b20
 replace mkxa:=mkxa.below b20
 replace mkxm:=mkxm.below b20
 replace mkg0:=mkg0.below b20
 replace mkg1:=mkg1.below b20
 replace kh0:=kh0.below b20
 replace oh0:=oh0.below b20
 replace kh1:=kh1.below b20
 replace oh1:=oh1.below b20
 have kh1_c0:=kh1.here.cell 0 _ rfl
 have kh1_c1:=kh1.here.cell 1 _ rfl
 have kh1_c2:=kh1.here.cell 2 _ rfl
 have kw1_c0:=kw1.here.cell 0 _ rfl
 have kw1_c1:=kw1.here.cell 1 _ rfl
 have kw1_c2:=kw1.here.cell 2 _ rfl
 go_wp2_with fail
 clear kh1_c0 kh1_c1 kh1_c2 kw1_c0 kw1_c1 kw1_c2
 refine (eqQ_cal _ _ R1 R1 _ (capQ_of (by omega)) (OwnQ.rd oh1.here) (OwnQ.rd ow1.here)).mono ?_
 rintro e w21 ⟨rfl,b21⟩
 rw [decide_refl]
 have bb21:=Below.next bb20 b21
 replace ka:=ka.below b21
 replace km:=km.below b21
 replace kw0:=kw0.below b21
 replace ow0:=ow0.below b21
 replace kw1:=kw1.below b21
 replace ow1:=ow1.below b21
 replace kxa:=kxa.below b21
 replace kxm:=kxm.below b21
 replace kg0:=kg0.below b21
 replace kg1:=kg1.below b21
 replace mkxa:=mkxa.below b21
 replace mkxm:=mkxm.below b21
 replace mkg0:=mkg0.below b21
 replace mkg1:=mkg1.below b21
 replace kh0:=kh0.below b21
 replace oh0:=oh0.below b21
 replace kh1:=kh1.below b21
 replace oh1:=oh1.below b21
 have kg0_c0:=kg0.here.cell 0 _ rfl
 have kg0_c1:=kg0.here.cell 1 _ rfl
 have kg0_c2:=kg0.here.cell 2 _ rfl
 go_wp2_with fail
 clear kg0_c0 kg0_c1 kg0_c2
 refine (heldM_cal _ R0 (1) _ (by omega) (by omega) mkg0.here).mono ?_
 rintro e w22 ⟨rfl,b22⟩
 have bb22:=Below.next bb21 b22
 replace ka:=ka.below b22
 replace km:=km.below b22
 replace kw0:=kw0.below b22
 replace ow0:=ow0.below b22
 replace kw1:=kw1.below b22
 replace ow1:=ow1.below b22
 replace kxa:=kxa.below b22
 replace kxm:=kxm.below b22
 replace kg0:=kg0.below b22
 replace kg1:=kg1.below b22
 replace mkxa:=mkxa.below b22
 replace mkxm:=mkxm.below b22
 replace mkg0:=mkg0.below b22
 replace mkg1:=mkg1.below b22
 replace kh0:=kh0.below b22
 replace oh0:=oh0.below b22
 replace kh1:=kh1.below b22
 replace oh1:=oh1.below b22
 have hq22:decide ((1:Int)+mkM R0 < 0) = false:=decide_eq_false (by omega)
 have kg1_c0:=kg1.here.cell 0 _ rfl
 have kg1_c1:=kg1.here.cell 1 _ rfl
 have kg1_c2:=kg1.here.cell 2 _ rfl
 go_wp2_with fail
 clear kg1_c0 kg1_c1 kg1_c2
 refine (heldQ_cal _ R1 (1+mkM R0) _ (by omega) (by omega) mkg1.here).mono ?_
 rintro e w23 ⟨rfl,b23⟩
 have bb23:=Below.next bb22 b23
 replace ka:=ka.below b23
 replace km:=km.below b23
 replace kw0:=kw0.below b23
 replace ow0:=ow0.below b23
 replace kw1:=kw1.below b23
 replace ow1:=ow1.below b23
 replace kxa:=kxa.below b23
 replace kxm:=kxm.below b23
 replace kg0:=kg0.below b23
 replace kg1:=kg1.below b23
 replace mkxa:=mkxa.below b23
 replace mkxm:=mkxm.below b23
 replace mkg0:=mkg0.below b23
 replace mkg1:=mkg1.below b23
 replace kh0:=kh0.below b23
 replace oh0:=oh0.below b23
 replace kh1:=kh1.below b23
 replace oh1:=oh1.below b23
 have hq23:decide ((1+mkM R0:Int)+szQ R1 < 0) = false:=decide_eq_false (by omega)
 go_wp2
 go_ret
 exact ⟨rfl,bb23⟩
def errV (n:Int):Value:=if n = 0 then .nilIface else .iface 97 (.agg #[.int .i64 n])
theorem errV_pos {n:Int} (h:¬ n = 0):errV n = .iface 97 (.agg #[.int .i64 n]):=if_neg h
def PostE (n:Int) (w:World) (e:Ending) (w':World):Prop:=e = .returned (errV n)∧Below w.heap.size w w'
def chkN (t:TI) (l:List MI) (c:ByteArray) (k:Int):Int:=if formB t l c k = false then 1 else if noneB t l c = true then 2 else 0
theorem chk_form {t:TI} {l:List MI} {c:ByteArray} {k:Int} (h:formB t l c k = false):chkN t l c k = 1:=if_pos h
theorem chk_rate {t:TI} {l:List MI} {c:ByteArray} {k:Int} (h:formB t l c k = true) (h2:noneB t l c = true):chkN t l c k = 2:=by unfold chkN;rw [if_neg (by rw [h];decide),if_pos h2]
theorem chk_good {t:TI} {l:List MI} {c:ByteArray} {k:Int} (h:formB t l c k = true) (h2:noneB t l c = false):chkN t l c k = 0:=by unfold chkN;rw [if_neg (by rw [h];decide),if_neg (by rw [h2];decide)]
theorem any_not {l:List MI}:(l.any fun x=>!okM x) = !l.all okM:=by
 induction l with
 | nil=>rfl
 | cons x l ih=>simp only [List.any_cons,List.all_cons,ih,Bool.not_and]
theorem form_bad {t:TI} {l:List MI} {c:ByteArray} {k:Int} (h:okT t = false ∨ knownC c = false ∨ modeB k = false ∨ l.all okM = false):formB t l c k = false:=by
 unfold formB
 rcases h with h | h | h | h <;> rw [h] <;> simp
theorem form_good {t:TI} {l:List MI} {c:ByteArray} {k:Int} (h1:okT t = true) (h2:knownC c = true) (h3:modeB k = true) (h4:l.all okM = true):formB t l c k = true:=by
 unfold formB
 rw [h1,h2,h3,h4]
 rfl
end Go.Proofs.YtipbdpdmefcofabGreatDoor
