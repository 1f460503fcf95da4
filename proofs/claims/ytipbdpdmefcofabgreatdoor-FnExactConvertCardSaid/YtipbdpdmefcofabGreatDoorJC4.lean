import Derived.Laws.EntriesVeiled
import Derived.Deep.MidRow
import Derived.Deep.RegionHeld3
import Derived.Deep.DeepCutAuto
import Derived.Laws.OwnMore
import Derived.Test.YtipbdpdmefcofabGreatDoorJC3
set_option maxRecDepth 100000
namespace Go.Proofs.YtipbdpdmefcofabGreatDoor
open Go.RowKit
theorem one_val:nval [1] = 1:=rfl
theorem one_dig:DigN [1]∧[(1:Int)].getLastD 1 ≠ 0:=by
 refine ⟨fun d hd=>?_,by decide⟩
 simp at hd
 omega
theorem one_limbs:limbs 1 = [1]:=by rw [limbs,dif_neg (by decide),show 1 / 1000000000 = 0 from rfl,limbs,dif_pos rfl];rfl
theorem box_row {g:Nat} {cs:Array Value} {T:TypeId} {w:World} (h:BoxAt g cs T w):Row w 0 w.heap.size (.slice (some ⟨g,0,none⟩) cs.size cs.size) cs.toList:=by
 have hg:=(Array.getElem?_eq_some_iff.1 h).1
 refine ⟨some ⟨g,0,none⟩,cs.size,by simp,fun j u hj=>⟨⟨g,0,none⟩,rfl,Nat.zero_le _,hg,?_⟩⟩
 have e1:(Addr.add ⟨g,0,none⟩ j) = ⟨g,j,none⟩:=by
  unfold Addr.add
  cases j with
  | zero=>rfl
  | succ n=>simp
 rw [e1,Lib.cell_of_heap h]
 simpa using hj
theorem gcdN_small (a b:List Int):(gcdN a b).length ≤ 50:=by
 unfold gcdN
 split
 ·rename_i h
  have pa:=natOk_limbs h.1
  have pb:=natOk_limbs h.2
  have la:=(natOk_parts h.1).2.1
  have lb:=(natOk_parts h.2).2.1
  have na:=nval_ok h.1
  have nb:=nval_ok h.2
  by_cases h0:0 < (nval a).toNat
  ·have hm:=limbs_mono (m:=((Nat.gcd (nval a).toNat (nval b).toNat:Nat):Int)) (n:=nval a) (by omega) (by have:=Nat.gcd_le_left (nval b).toNat h0;omega)
   rw [Int.toNat_natCast,← pa] at hm
   omega
  ·rw [show (nval a).toNat = 0 by omega,Nat.gcd_zero_left,← pb]
   exact lb
 ·simp
theorem gcd_one_iff {x:QI} (h1:natOkB x.1.2 = true) (h2:natOkB x.2 = true):(cmpI (nval (gcdN x.1.2 x.2)) (nval [1]) = 0) ↔ Nat.gcd (nval x.1.2).toNat (nval x.2).toNat = 1:=by
 unfold gcdN
 rw [if_pos ⟨h1,h2⟩,limbs_val,one_val]
 unfold cmpI
 split
 ·omega
 ·split <;> omega
set_option maxHeartbeats 1000000 in
theorem specRatOk_any (v:Value) (x:QI) (w:World) (hz:szQ x ≤ 1048576) (h:OwnQ v x w) :
 Calls Tryz.prog 63 #[v] w (Postb (okQ x) w):=by
 obtain ⟨u,d,rfl,ou,od,hap⟩:=h
 obtain ⟨A,c,rfl⟩:=own_len ou
 obtain ⟨B,f,rfl⟩:=own_len od
 have hl:=szQ_len hz
 have hl1:=hl.1
 have hl2:=hl.2
 have bb0:Below w.heap.size w (w.alloc (.cells #[.bool x.1.1,.slice A x.1.2.length c,.slice B x.2.length f] 36)):=below_al (Below.refl _ _) _
 have kr:=box_new w #[.bool x.1.1,.slice A x.1.2.length c,.slice B x.2.length f] 36
 have OU:=Lib.hid (show ∀ W,Below w.heap.size w W→OwnI (.slice A x.1.2.length c) x.1.2 W from fun W hb=>own_below ou hb)
 have OD:=Lib.hid (show ∀ W,Below w.heap.size w W→OwnI (.slice B x.2.length f) x.2 W from fun W hb=>own_below od hb)
 clear ou od hap hl hz
 have kr_c0:=kr.here.cell 0 _ rfl
 have kr_c1:=kr.here.cell 1 _ rfl
 go_enter Tryz.func63,Tryz.ntmps63
 go_wp2_with fail
 refine (specIntOk_any _ x.1 _ hl1 (OwnS.rd (OwnS.mk (x:=x.1) (OU.out _ bb0)))).mono ?_
 rintro e w1 ⟨rfl,b1⟩
 have bb1:=Below.next bb0 b1
 replace kr:=kr.below b1
 clear kr_c0 kr_c1
 by_cases ok1:okS x.1 = true
 ·rw [ok1]
  have HO1:=Lib.hid ok1
  have kr_c0:=kr.here.cell 0 _ rfl
  have kr_c1:=kr.here.cell 1 _ rfl
  have kr_c2:=kr.here.cell 2 _ rfl
  clear ok1
  go_wp2_with fail
  refine (specNatOk_any _ x.2 _ _ _ hl2 (OD.out _ bb1).row).mono ?_
  rintro e w2 ⟨rfl,rfl⟩
  by_cases ok2:natOkB x.2 = true
  ·rw [ok2]
   have HO2:=Lib.hid ok2
   clear ok2
   by_cases hs:0 < x.2.length∧x.2.length ≤ 18∧x.1.2.length ≤ 18
   ·have h1:((x.2.length:Int) == 0) = false:=by rw [beq_eq_false_iff_ne];omega
    have h2:decide ((18:Int) < (x.2.length:Int)) = false:=decide_eq_false (by omega)
    have h3:decide ((18:Int) < (x.1.2.length:Int)) = false:=decide_eq_false (by omega)
    have HG:=Lib.hid (gcd_one_iff (okS_parts HO1.out).1 HO2.out)
    have HV:=Lib.hid (show okQ x = decide (Nat.gcd (nval x.1.2).toNat (nval x.2).toNat = 1) by unfold okQ;rw [HO1.out,HO2.out];simp [hs])
    have hgl:(gcdN x.1.2 x.2).length ≤ 1048576:=by have:=gcdN_small x.1.2 x.2;omega
    have HD:=Lib.hid (show DigN (gcdN x.1.2 x.2)∧(gcdN x.1.2 x.2).getLastD 1 ≠ 0 by unfold gcdN;split;exact ⟨limbs_digN _,limbs_lastN _⟩;exact ⟨fun d hd=>(by cases hd),by decide⟩)
    clear hs
    go_wp2_with fail
    refine (specNatGcd_any _ _ x.1.2 x.2 0 _ 0 _ _ hl1 hl2 (Nat.le_refl _) (Nat.le_refl _) (own_noCap (OU.out _ bb1)) (own_noCap (OD.out _ bb1)) (OU.out _ bb1).row (OD.out _ bb1).row).mono ?_
    rintro e w2 ⟨v2,rfl,o2,b2⟩
    have bb2:=Below.next bb1 b2
    go_wp2_with fail
    have hrow:=box_row (box_new w2 #[.int .i64 1] 3).here
    have o2':=own_up o2 (below_al (Below.refl _ _) (.cells #[.int .i64 1] 3))
    refine (specCmp_any _ _ (gcdN x.1.2 x.2) [1] _ _ _ _ _ hgl (by decide) HD.out one_dig (Row.of_own o2') hrow).mono ?_
    rintro e w3 ⟨rfl,q3,rfl⟩
    have HB:=Lib.hid (Below.next bb2 (below_al (Below.refl _ _) (.cells #[.int .i64 1] 3)))
    have HZ:(cmpI (nval (gcdN x.1.2 x.2)) (nval [1]) == 0) = okQ x:=by
     rw [HV.out]
     by_cases hg:cmpI (nval (gcdN x.1.2 x.2)) (nval [1]) = 0
     ·rw [decide_eq_true (HG.out.1 hg),hg];rfl
     ·rw [decide_eq_false (fun e=>hg (HG.out.2 e)),beq_eq_false_iff_ne];exact hg
    generalize cmpI (nval (gcdN x.1.2 x.2)) (nval [1]) = z at *
    generalize okQ x = b at *
    clear o2 o2' hrow hgl h1 h2 h3 hl1 hl2 HG HV
    go_wp2
    go_ret
    exact ⟨rfl,below_drewN HB.out q3⟩
   ·have HV:=Lib.hid (show okQ x = false by unfold okQ;rw [HO1.out,HO2.out,decide_eq_false (fun h=>hs ⟨h.1,h.2.1,h.2.2.1⟩)];rfl)
    by_cases g1:0 < x.2.length
    ·have h1:((x.2.length:Int) == 0) = false:=by rw [beq_eq_false_iff_ne];omega
     by_cases g2:x.2.length ≤ 18
     ·have h2:decide ((18:Int) < (x.2.length:Int)) = false:=decide_eq_false (by omega)
      have h3:decide ((18:Int) < (x.1.2.length:Int)) = true:=decide_eq_true (by omega)
      clear hs g1 g2
      go_wp2
      go_ret
      exact ⟨ret_bool HV.out.symm,bb1⟩
     ·have h2:decide ((18:Int) < (x.2.length:Int)) = true:=decide_eq_true (by omega)
      clear hs g1 g2
      go_wp2
      go_ret
      exact ⟨ret_bool HV.out.symm,bb1⟩
    ·have h1:((x.2.length:Int) == 0) = true:=by rw [beq_iff_eq];omega
     clear hs g1
     go_wp2
     go_ret
     exact ⟨ret_bool HV.out.symm,bb1⟩
  ·have ok2':natOkB x.2 = false:=by simpa using ok2
   have HV:=Lib.hid (show okQ x = false by unfold okQ;rw [HO1.out,ok2'];rfl)
   rw [ok2']
   clear ok2 ok2'
   go_wp2
   go_ret
   exact ⟨ret_bool HV.out.symm,bb1⟩
 ·have ok1':okS x.1 = false:=by simpa using ok1
  have HV:=Lib.hid (show okQ x = false by unfold okQ;rw [ok1'];rfl)
  rw [ok1']
  clear ok1 ok1'
  go_wp2
  go_ret
  exact ⟨ret_bool HV.out.symm,bb1⟩
theorem trim_ok (n:Nat):trimL (limbs n) = limbs n:=trim_last _ (limbs_lastN n)
theorem oneCells (l:List Int):∀ u ∈ intsV l,u.oneCell' = true:=fun u hu=>by obtain ⟨x,_,rfl⟩:=List.mem_map.1 hu;rfl
theorem newQb_ret {r:Nat} {u d c0 c1 c2:Value} {x:QI} {b:Bool} {w W:World} {B C:Nat} (hb:BoxAt r #[c0,c1,c2] 36 W) (o:W.ownsRow B 3 1 u x.1.2.length (intsV x.1.2)) (p:W.ownsRow C 3 1 d x.2.length (intsV x.2))
 (hap:∀ g,u.ownBlock = some g→d.ownBlock ≠ some g) (hB:w.heap.size ≤ B) (hC:w.heap.size ≤ C) (hr:w.heap.size ≤ r) (hW:Below w.heap.size w W) :
 PostQb x b w (.returned (.tuple #[.agg #[.bool x.1.1,u,d],.bool b])) (((W.setCell ⟨r,0,none⟩ (.bool x.1.1)).setCell ⟨r,1,none⟩ u).setCell ⟨r,2,none⟩ d):=by
 have hn1:=Lib.ownBlock_ne o hb (by decide)
 have hn2:=Lib.ownBlock_ne p hb (by decide)
 have hc:Chg [r] W (((W.setCell ⟨r,0,none⟩ (.bool x.1.1)).setCell ⟨r,1,none⟩ u).setCell ⟨r,2,none⟩ d):=(((Chg.refl _ _).setCell (by simp) _).setCell (by simp) _).setCell (by simp) _
 have hz:=hc.size
 refine ⟨_,partsB u d,rfl,(partsQ_at o p hap).chg hc (fun i hi hm=>?_),fun i hi=>?_,below_set3 hW hr⟩
 ·simp at hm
  subst hm
  rcases List.mem_append.1 hi with hi | hi
  ·exact hn1 (by simpa using hi)
  ·exact hn2 (by simpa using hi)
 ·rcases List.mem_append.1 hi with hi | hi
  ·have:=own_lt o (g:=i) (by simpa using hi)
   omega
  ·have:=own_lt p (g:=i) (by simpa using hi)
   omega
theorem ownQ_zero (w:World):OwnQ (.agg #[.bool false,.slice none 0 0,.slice none 0 0]) zeroQ w:=⟨_,_,rfl,World.ownsRow_nil _ _ _ _,World.ownsRow_nil _ _ _ _,fun g hg=>by cases hg⟩
theorem newQb_zero {w W:World} (b:Bool) (hW:Below w.heap.size w W):PostQb zeroQ b w (.returned (.tuple #[.agg #[.bool false,.slice none 0 0,.slice none 0 0],.bool b])) W :=
 ⟨_,[],rfl,⟨ownQ_zero _,(fun g hg=>by cases hg),fun w' _=>ownQ_zero _⟩,(fun g hg=>by cases hg),hW⟩
theorem div_toNat (a b:Nat):((a:Int) / (b:Int)).toNat = a / b:=by rw [← Int.natCast_ediv];exact Int.toNat_natCast _
set_option maxHeartbeats 1000000 in
theorem l05Low_any (n:Bool) (va vb:Value) (X Y:Nat) (w:World) (hX:(limbs X).length ≤ 50) (hY:(limbs Y).length ≤ 50) (oa:OwnI va (limbs X) w) (ob:OwnI vb (limbs Y) w) :
 Calls Tryz.prog 64 #[.bool n,va,vb] w (PostQb (lowQ n X Y).1 (lowQ n X Y).2 w):=by
 obtain ⟨i0,hi0,hz0,hz1,hz2⟩:=info_parts intInfo
 have bb0:=below_al (Below.refl w.heap.size w) (.cells #[.bool false,.slice none 0 0,.slice none 0 0] 36)
 have kr:=box_new w #[.bool false,.slice none 0 0,.slice none 0 0] 36
 have oa1:=own_up oa bb0
 have ob1:=own_up ob bb0
 clear oa ob
 go_enter Tryz.func64,Tryz.ntmps64
 go_wp2_with fail
 refine (specTrim_any _ _ _ _ (by omega) oa1).mono ?_
 rintro e w1 ⟨rfl,v1,rfl,o1⟩
 rw [trim_ok] at o1
 go_wp2_with fail
 refine (specTrim_any _ _ _ _ (by omega) ob1).mono ?_
 rintro e w1 ⟨rfl,v2,rfl,o2⟩
 rw [trim_ok] at o2
 obtain ⟨A1,c1,rfl⟩:=own_len o1
 obtain ⟨A2,c2,rfl⟩:=own_len o2
 clear oa1 ob1
 by_cases hy:0 < (limbs Y).length
 ·have h1:(((limbs Y).length:Int) == 0) = false:=by rw [beq_eq_false_iff_ne];omega
  have hY0:=limbs_some hy
  go_wp2_with fail
  refine (l05Gcd_any _ _ X Y _ hX hY o1 o2).mono ?_
  rintro e w3 ⟨v3,rfl,o3,b3⟩
  have bb3:=Below.next bb0 b3
  replace kr:=kr.below b3
  replace o1:=own_up o1 b3
  replace o2:=own_up o2 b3
  have HG:=Lib.hid (Nat.gcd_pos_of_pos_right X hY0)
  have hgl:(limbs (Nat.gcd X Y)).length ≤ 50:=by
   have:=limbs_mono (m:=((Nat.gcd X Y:Nat):Int)) (n:=(Y:Int)) (by omega) (by have:=Nat.gcd_le_right X hY0;omega)
   rw [Int.toNat_natCast,Int.toNat_natCast] at this
   omega
  have hg0:0 < (limbs (Nat.gcd X Y)).length:=by
   rcases Nat.eq_zero_or_pos (limbs (Nat.gcd X Y)).length with h | h
   ·have:=(limbs_zero_iff _).1 h
    have:=HG.out
    omega
   ·exact h
  have HLOW:=Lib.hid (show lowQ n X Y = if (limbs (X / Nat.gcd X Y)).length ≤ 18∧(limbs (Y / Nat.gcd X Y)).length ≤ 18 then ((mkS n (limbs (X / Nat.gcd X Y)),limbs (Y / Nat.gcd X Y)),true) else (zeroQ,false) by unfold lowQ;simp [show Y ≠ 0 by omega])
  clear hy hY0
  go_wp2_with fail
  refine (specDiv_any _ _ (limbs X) (limbs (Nat.gcd X Y)) _ _ _ _ _ hX hgl hg0 (Nat.le_refl _) (Nat.le_refl _) (limbs_digN _) ⟨limbs_digN _,limbs_lastN _⟩ (Row.of_own o1) (Row.of_own o3)).mono ?_
  rintro e w4 ⟨v4,v5,rfl,o4,o5,_,b4⟩
  rw [limbs_val,limbs_val,div_toNat] at o4
  have bb4:=Below.next bb3 b4
  replace kr:=kr.below b4
  replace o2:=own_up o2 b4
  replace o3:=own_up o3 b4
  clear o1 o5
  go_wp2_with fail
  refine (specDiv_any _ _ (limbs Y) (limbs (Nat.gcd X Y)) _ _ _ _ _ hY hgl hg0 (Nat.le_refl _) (Nat.le_refl _) (limbs_digN _) ⟨limbs_digN _,limbs_lastN _⟩ (Row.of_own o2) (Row.of_own o3)).mono ?_
  rintro e w5 ⟨v6,v7,rfl,o6,o7,_,b5⟩
  rw [limbs_val,limbs_val,div_toNat] at o6
  have bb5:=Below.next bb4 b5
  replace kr:=kr.below b5
  replace o4:=own_up o4 b5
  obtain ⟨A4,c4,rfl⟩:=own_len o4
  obtain ⟨A6,c6,rfl⟩:=own_len o6
  clear o2 o3 o7 hg0 hgl
  have hz5:=b5.size
  have hz4:=b4.size
  have hz3:=b3.size
  by_cases hp:(limbs (X / Nat.gcd X Y)).length ≤ 18
  ·have h2:decide ((18:Int) < ((limbs (X / Nat.gcd X Y)).length:Int)) = false:=decide_eq_false (by omega)
   by_cases hq:(limbs (Y / Nat.gcd X Y)).length ≤ 18
   ·have h3:decide ((18:Int) < ((limbs (Y / Nat.gcd X Y)).length:Int)) = false:=decide_eq_false (by omega)
    have HV:=Lib.hid (show lowQ n X Y = ((mkS n (limbs (X / Nat.gcd X Y)),limbs (Y / Nat.gcd X Y)),true) by rw [HLOW.out,if_pos ⟨hp,hq⟩])
    go_wp2_with fail
    refine (l04Make_any n _ (limbs (X / Nat.gcd X Y)) _ _ (by omega) o4).mono ?_
    rintro e w6 ⟨u6,rfl,o8,b6⟩
    rw [trim_ok] at o8 ⊢
    have bb6:=Below.next bb5 b6
    replace kr:=kr.below b6
    replace o6:=own_up o6 b6
    obtain ⟨A8,c8,rfl⟩:=own_len o8
    clear hp h2 h3 o4
    have HONE:=Lib.hid oneCells
    go_wp2_with (at_builtin;refine append_row rfl _ _ 25 rfl w6.heap.size 3 i0 (.int .i64 0) 8 Tryz.underlying25 hi0 hz0 hz1 hz2 rfl _ 0 [] rfl (World.ownsRow_made w6 #[] 0 (Nat.le_refl _) (Nat.zero_le _) rfl) _ _ _ (intsV (limbs (Y / Nat.gcd X Y))) rfl ((Row.of_own o6).below (below_al (Below.refl _ _) _) (Nat.le_refl _)) (own_noCap o6) (HONE.out _) ?c3 ?c4 ?c5 ?_)
    case c3=>rw [intsV_length];unfold maxLen;omega
    case c4=>rw [intsV_length];omega
    case c5=>simp
    intro v9 w7 o9 g9
    have b7:Below w6.heap.size w6 w7:=((Below.refl _ w6).alloc (Nat.le_refl _) _).grown g9 (by simp) (fun k hk=>by cases hk;exact Nat.le_refl _)
    have bb7:=Below.next bb6 b7
    have hz6:=b6.size
    replace kr:=kr.below b7
    have hap:∀ g,(Value.slice A8 (mkS n (limbs (X / Nat.gcd X Y))).2.length c8).ownBlock = some g→v9.ownBlock ≠ some g:=fun g h1 h2=>by
     have:=(own_lt o8 h1).2
     have:=(own_lt o9 h2).1
     omega
    replace o8:=own_up o8 b7
    replace o9:w7.ownsRow w6.heap.size 3 1 v9 (limbs (Y / Nat.gcd X Y)).length (intsV (limbs (Y / Nat.gcd X Y))):=by simpa [intsV_length] using o9
    obtain ⟨A9,c9,rfl⟩:=own_len o9
    have cz0:=kr.here.cell 0 _ rfl
    have cz1:=kr.here.cell 1 _ rfl
    have cz2:=kr.here.cell 2 _ rfl
    have fz0:=Lib.frozen_of_heap kr.here 0
    have fz1:=Lib.frozen_of_heap kr.here 1
    have fz2:=Lib.frozen_of_heap kr.here 2
    have HR:=Lib.hid (newQb_ret (x:=(mkS n (limbs (X / Nat.gcd X Y)),limbs (Y / Nat.gcd X Y))) (b:=true) kr.here o8 o9 hap bb5.size bb6.size (Nat.le_refl _) bb7)
    clear g9 b7 hap o8 o9 o6 kr HONE hq
    go_wp2
    refine bodyPost_ret (v:=.tuple #[.agg #[.bool _,.slice A8 _ c8,.slice A9 _ c9],.bool true]) (by simp [results,Tryz.results64,go_sem,cz0,cz1,cz2];exact ⟨rfl,rfl,rfl⟩) rfl ?_
    rw [HV.out]
    exact HR.out
   ·have h3:decide ((18:Int) < ((limbs (Y / Nat.gcd X Y)).length:Int)) = true:=decide_eq_true (by omega)
    have HV:=Lib.hid (show lowQ n X Y = (zeroQ,false) by rw [HLOW.out,if_neg (fun h=>hq h.2)])
    have cz0:=kr.here.cell 0 _ rfl
    have cz1:=kr.here.cell 1 _ rfl
    have cz2:=kr.here.cell 2 _ rfl
    have fz0:=Lib.frozen_of_heap kr.here 0
    have fz1:=Lib.frozen_of_heap kr.here 1
    have fz2:=Lib.frozen_of_heap kr.here 2
    clear hp hq o4 o6 kr
    go_wp2
    refine bodyPost_ret (v:=.tuple #[.agg #[.bool false,.slice none 0 0,.slice none 0 0],.bool false]) (by simp [results,Tryz.results64,go_sem,cz0,cz1,cz2]) rfl ?_
    rw [HV.out]
    exact newQb_zero _ (below_set3 bb5 (Nat.le_refl _))
  ·have h2:decide ((18:Int) < ((limbs (X / Nat.gcd X Y)).length:Int)) = true:=decide_eq_true (by omega)
   have HV:=Lib.hid (show lowQ n X Y = (zeroQ,false) by rw [HLOW.out,if_neg (fun h=>hp h.1)])
   have cz0:=kr.here.cell 0 _ rfl
   have cz1:=kr.here.cell 1 _ rfl
   have cz2:=kr.here.cell 2 _ rfl
   have fz0:=Lib.frozen_of_heap kr.here 0
   have fz1:=Lib.frozen_of_heap kr.here 1
   have fz2:=Lib.frozen_of_heap kr.here 2
   clear hp o4 o6 kr
   go_wp2
   refine bodyPost_ret (v:=.tuple #[.agg #[.bool false,.slice none 0 0,.slice none 0 0],.bool false]) (by simp [results,Tryz.results64,go_sem,cz0,cz1,cz2]) rfl ?_
   rw [HV.out]
   exact newQb_zero _ (below_set3 bb5 (Nat.le_refl _))
 ·have h1:(((limbs Y).length:Int) == 0) = true:=by rw [beq_iff_eq];omega
  have HV:=Lib.hid (show lowQ n X Y = (zeroQ,false) by unfold lowQ;simp [limbs_empty hy])
  have cz0:=kr.here.cell 0 _ rfl
  have cz1:=kr.here.cell 1 _ rfl
  have cz2:=kr.here.cell 2 _ rfl
  have fz0:=Lib.frozen_of_heap kr.here 0
  have fz1:=Lib.frozen_of_heap kr.here 1
  have fz2:=Lib.frozen_of_heap kr.here 2
  clear hy o1 o2 kr
  go_wp2
  refine bodyPost_ret (v:=.tuple #[.agg #[.bool false,.slice none 0 0,.slice none 0 0],.bool false]) (by simp [results,Tryz.results64,go_sem,cz0,cz1,cz2]) rfl ?_
  rw [HV.out]
  exact newQb_zero _ bb0
def topN (q:QI):Nat:=(nval q.1.2).toNat
structure Parts (q:QI):Prop where
 okn:okS q.1 = true
 okd:natOkB q.2 = true
 n50:q.1.2.length ≤ 18
 d50:q.2.length ≤ 18
 n:q.1.2 = limbs (topN q)
 d:q.2 = limbs (denQ q)
 nlt:(topN q:Int) < bp 18
 dlt:(denQ q:Int) < bp 18
 pos:0 < denQ q
 top:numQ q = if q.1.1 = true then -(topN q:Int) else topN q
theorem parts_of {q:QI} (h:okQ q = true):Parts q:=by
 obtain ⟨h1,h2,h3,h4,h5,h6⟩:=okQ_parts h
 have p1:=okS_parts h1
 have n1:=nval_ok p1.1
 have n2:=nval_ok h2
 have l1:=nval_lt _ (natOk_parts p1.1).1
 have l2:=nval_lt _ (natOk_parts h2).1
 have m1:=bp_mono h5
 have m2:=bp_mono h4
 refine ⟨h1,h2,h5,h4,natOk_limbs p1.1,natOk_limbs h2,by unfold topN;omega,by unfold denQ;omega,denQ_pos h,?_⟩
 unfold numQ valS topN
 split <;> omega
theorem prod_lt {X Y:Nat} (hx:(X:Int) < bp 18) (hy:(Y:Int) < bp 18):((X * Y:Nat):Int) < bp 36:=by
 have e:bp 36 = bp 18 * bp 18:=bp_add 18 18
 have p:=bp_pos 18
 rw [e,Int.natCast_mul]
 rcases Nat.eq_zero_or_pos Y with h | h
 ·subst h
  have:=Int.mul_pos p p
  simpa using this
 ·have h1:(X:Int) * Y < bp 18 * Y:=Int.mul_lt_mul_of_pos_right hx (by omega)
  have h2:bp 18 * (Y:Int) ≤ bp 18 * bp 18:=Int.mul_le_mul_of_nonneg_left (by omega) (by omega)
  omega
theorem prod_len {X Y:Nat} (hx:(X:Int) < bp 18) (hy:(Y:Int) < bp 18):(limbs (X * Y)).length ≤ 36:=limbs_length_le _ 36 (prod_lt hx hy)
theorem mul_toNat {a b:List Int} (ha:natOkB a = true) (hb:natOkB b = true):(nval a * nval b).toNat = (nval a).toNat * (nval b).toNat:=by
 have n1:=nval_ok ha
 have n2:=nval_ok hb
 rw [Int.toNat_mul n1 n2]
theorem bp37:bp 36+bp 36 ≤ bp 37:=by
 have e:bp 37 = 1000000000 * bp 36:=rfl
 have p:=bp_pos 36
 omega
theorem cross_ofZ {n:Bool} {X Y:Nat}:mkS n (limbs (X * Y)) = ofZ (if n = true then -((X * Y:Nat):Int) else ((X * Y:Nat):Int))∧okS (mkS n (limbs (X * Y))) = true∧(mkS n (limbs (X * Y))).2.length ≤ 50:=by
 rw [mkS_limbs]
 exact ⟨rfl,ofZ_ok _,ofZ_len _⟩
theorem cross_val {n:Bool} {X Y:Nat} (hx:(X:Int) < bp 18) (hy:(Y:Int) < bp 18):valS (mkS n (limbs (X * Y))) = (if n = true then -(X:Int) else X) * Y:=by
 have h:=limbs_length_le _ 36 (prod_lt hx hy)
 rw [mkS_limbs,ofZ_val]
 ·split
  ·rw [Int.natCast_mul,Int.neg_mul]
  ·rw [Int.natCast_mul]
 ·rw [show (if n = true then -((X * Y:Nat):Int) else ((X * Y:Nat):Int)).natAbs = X * Y by split <;> omega]
  omega
theorem abs_lt {z:Int} {m:Nat} {b:Int} (h:z.natAbs = m) (hb:(m:Int) < b):-b < z∧z < b:=by omega
theorem cross_lt {n:Bool} {X Y:Nat} (hx:(X:Int) < bp 18) (hy:(Y:Int) < bp 18):-(bp 36) < (if n = true then -(X:Int) else X) * Y∧(if n = true then -(X:Int) else X) * Y < bp 36:=by
 have h:=prod_lt hx hy
 refine abs_lt (m:=X * Y) ?_ h
 split
 ·rw [Int.neg_mul,Int.natAbs_neg,← Int.natCast_mul];omega
 ·rw [← Int.natCast_mul];omega
theorem sum_ofZ {z:Int} (h1:-(bp 37) < z) (h2:z < bp 37):ofZ z = (decide (z < 0),limbs z.natAbs)∧(limbs z.natAbs).length ≤ 37:=by
 have hl:=limbs_length_le z.natAbs 37 (by omega)
 unfold ofZ
 rw [if_pos (by omega)]
 exact ⟨rfl,hl⟩
theorem lowQ_sz (n:Bool) (a b:Nat):szQ (lowQ n a b).1 ≤ 1048576:=by
 unfold lowQ
 split
 ·rename_i h
  unfold szQ szS szI
  simp only
  have:(mkS n (limbs (a / Nat.gcd a b))).2.length ≤ 50:=by rw [mkS_limbs];exact ofZ_len _
  omega
 ·decide
theorem zeroQ_sz:szQ zeroQ ≤ 1048576:=by decide
theorem newQb_at {r B:Nat} {S:List Nat} {c0 c1 c2:Value} {x:QI} {b:Bool} {w W:World} (o:At S (OwnQ (.agg #[c0,c1,c2]) x) W) (l:Within S B W.heap.size) (hrB:r < B) (hr:w.heap.size ≤ r) (hW:Below w.heap.size w W) :
 PostQb x b w (.returned (.tuple #[.agg #[c0,c1,c2],.bool b])) (((W.setCell ⟨r,0,none⟩ c0).setCell ⟨r,1,none⟩ c1).setCell ⟨r,2,none⟩ c2):=by
 have hc:Chg [r] W (((W.setCell ⟨r,0,none⟩ c0).setCell ⟨r,1,none⟩ c1).setCell ⟨r,2,none⟩ c2):=(((Chg.refl _ _).setCell (by simp) _).setCell (by simp) _).setCell (by simp) _
 have hz:=hc.size
 exact ⟨_,S,rfl,o.chg hc (fun i hi hm=>by have:=l i hi;simp at hm;omega),fun i hi=>by have:=l i hi;omega,below_set3 hW hr⟩
theorem Chg.setNew {T:List Nat} {w w1:World} {p:Addr} (h:Chg T w w1) (hp:w.heap.size ≤ p.block) (u:Value):Chg T w (w1.setCell p u) :=
 ⟨h.os,h.tape,h.output,by simpa [World.setCell] using h.size,fun i hi hn=>(Below.heap_setCell _ _ _ _ (by omega)).trans (h.block i hi hn)⟩
theorem below_of_chg {w w1:World} (h:Chg [] w w1):Below w.heap.size w w1:=⟨h.os,h.tape,h.output,h.size,fun i hi=>h.block i hi (by simp)⟩
theorem mulX_any (va vb:Value) (a b:List Int) (X:Nat) (w:World) (hal:a.length ≤ 18) (hbl:b.length ≤ 18) (oa:natOkB a = true) (ob:natOkB b = true) (hX:(nval a * nval b).toNat = X) (ha:OwnI va a w) (hb:OwnI vb b w) :
 Calls Tryz.prog 65 #[va,vb] w (NewV (fun u=>OwnI u (limbs X)) w):=by
 subst hX
 exact (specMulV_any va vb a b 0 _ 0 _ w (by omega) (by omega) (Nat.le_refl _) (Nat.le_refl _) (natOk_parts oa).1 (natOk_parts ob).1 ha.row hb.row).mono fun _ _ h=>h.newV
theorem makeX_any (n:Bool) (v:Value) (X:Nat) (A:SI) (w:World) (hl:(limbs X).length ≤ 50) (hA:mkS n (limbs X) = A) (ho:OwnI v (limbs X) w):Calls Tryz.prog 90 #[.bool n,v] w (NewV (fun u=>OwnS u A) w):=by
 subst hA
 have h:=l04Make_any n v (limbs X) 0 w (by omega) ho
 rw [trim_ok] at h
 exact h.mono fun _ _ h=>h.newV
theorem addX_any (vx vy:Value) (x y N:SI) (w:World) (okx:okS x = true) (oky:okS y = true) (hN:ofZ (valS x+valS y) = N) (hx:OwnS vx x w) (hy:OwnS vy y w):Calls Tryz.prog 122 #[vx,vy] w (NewV (fun u=>OwnS u N) w):=by
 subst hN
 exact (l04Add_any vx vy x y w okx oky hx hy).mono fun _ _ h=>h.newV
theorem lowX_any (n:Bool) (va vb:Value) (a b:List Int) (X Y:Nat) (w:World) (hX:(limbs X).length ≤ 50) (hY:(limbs Y).length ≤ 50) (ha:a = limbs X) (hb:b = limbs Y) (oa:OwnI va a w) (ob:OwnI vb b w) :
 Calls Tryz.prog 64 #[.bool n,va,vb] w (PostQb (lowQ n X Y).1 (lowQ n X Y).2 w):=by
 subst ha hb
 exact l05Low_any n va vb X Y w hX hY oa ob
def modeB (m:Int):Bool:=decide (0 ≤ m∧m ≤ 6)
def nameB (m:Int):ByteArray :=
 if m = 0 then ⟨#[100,111,119,110]⟩ else if m = 1 then ⟨#[117,112]⟩ else if m = 2 then ⟨#[102,108,111,111,114]⟩ else if m = 3 then ⟨#[99,101,105,108]⟩
 else if m = 4 then ⟨#[104,97,108,102,100,111,119,110]⟩ else if m = 5 then ⟨#[104,97,108,102,117,112]⟩ else if m = 6 then ⟨#[104,97,108,102,101,118,101,110]⟩ else ⟨#[]⟩
theorem modeB_cases {m:Int} (h:modeB m = true):m = 0 ∨ m = 1 ∨ m = 2 ∨ m = 3 ∨ m = 4 ∨ m = 5 ∨ m = 6:=by
 have:=of_decide_eq_true h
 omega
theorem modeB_false {m:Int} (h:¬ modeB m = true):nameB m = ⟨#[]⟩∧¬ (0 ≤ m∧m ≤ 6):=by
 have h':¬ (0 ≤ m∧m ≤ 6):=fun e=>h (decide_eq_true e)
 refine ⟨?_,h'⟩
 unfold nameB
 rw [if_neg (by omega),if_neg (by omega),if_neg (by omega),if_neg (by omega),if_neg (by omega),if_neg (by omega),if_neg (by omega)]
def awayB (neg:Bool) (Q R D:Nat) (m:Int):Bool :=
 if m = 0 then false else if m = 1 then true else if m = 2 then neg else if m = 3 then !neg else if m = 4 then decide (D < 2 * R) else if m = 5 then decide (D ≤ 2 * R)
 else decide (D < 2 * R) || (decide (2 * R = D) && decide (Q % 2 = 1))
def roundN (neg:Bool) (A D:Nat) (m:Int):Nat:=A / D+if A % D ≠ 0∧awayB neg (A / D) (A % D) D m = true then 1 else 0
def roundS (r:QI) (m:Int):SI:=mkS r.1.1 (limbs (roundN r.1.1 (topN r) (denQ r) m))
def roundR (r:QI) (m:Int):SI × Bool:=if okQ r = true∧modeB m = true then (roundS r m,true) else (zeroS,false)
def restB (r:QI) (m:Int):Bool:=(roundR r m).2 && (makeQ (roundR r m).1 (ofZ 1)).2 && (subQ r (makeQ (roundR r m).1 (ofZ 1)).1).2
def restS (r:QI) (m:Int):SI:=if restB r m = true then (roundR r m).1 else zeroS
def restQ (r:QI) (m:Int):QI:=if restB r m = true then (subQ r (makeQ (roundR r m).1 (ofZ 1)).1).1 else zeroQ
theorem roundN_le (neg:Bool) (A D:Nat) (m:Int):roundN neg A D m ≤ A / D+1:=by unfold roundN;split <;> omega
theorem roundN_lt {r:QI} (h:Parts r) (m:Int):(roundN r.1.1 (topN r) (denQ r) m:Int) ≤ bp 18:=by
 have h1:=roundN_le r.1.1 (topN r) (denQ r) m
 have h2:topN r / denQ r ≤ topN r:=Nat.div_le_self ..
 have h3:=h.nlt
 omega
theorem bp_step (k:Nat):bp k < bp (k+1):=by
 have p:=bp_pos k
 have e:bp (k+1) = 1000000000 * bp k:=rfl
 omega
theorem round_len {r:QI} (h:Parts r) (m:Int):(limbs (roundN r.1.1 (topN r) (denQ r) m)).length ≤ 19:=limbs_length_le _ 19 (by have:=roundN_lt h m;have h2:bp 18 < bp 19:=bp_step 18;omega)
theorem roundS_ok (r:QI) (m:Int):okS (roundS r m) = true:=by unfold roundS;rw [mkS_limbs];exact ofZ_ok _
theorem roundS_len (r:QI) (m:Int):(roundS r m).2.length ≤ 50:=by unfold roundS;rw [mkS_limbs];exact ofZ_len _
theorem roundR_sz (r:QI) (m:Int):szS (roundR r m).1 ≤ 1048576:=by
 unfold roundR
 split
 ·have:=roundS_len r m;unfold szS szI;simp only;omega
 ·decide
theorem twice_cmp (R D:Nat):(0 < cmpI ((R:Int)+R+0) D ↔ D < 2 * R)∧(0 ≤ cmpI ((R:Int)+R+0) D ↔ D ≤ 2 * R)∧(cmpI ((R:Int)+R+0) D = 0 ↔ 2 * R = D):=by
 unfold cmpI
 split
 ·omega
 ·split <;> omega
theorem lastD_any {l:List Int} (h:l ≠ []) (a b:Int):l.getLastD a = l.getLastD b:=by
 cases l with
 | nil=>exact absurd rfl h
 | cons x r=>rfl
theorem last_tail {x:Int} {r:List Int} (h:(x :: r).getLastD 1 ≠ 0):r.getLastD 1 ≠ 0:=by
 by_cases hr:r = []
 ·subst hr;decide
 ·rw [List.getLastD_cons,lastD_any hr x 1] at h;exact h
theorem last_head {x:Int} (h:[x].getLastD 1 ≠ 0):x ≠ 0:=h
theorem last_cons {s:Int} {r:List Int} (h:r.getLastD 1 ≠ 0) (h0:r = []→s ≠ 0):(s :: r).getLastD 1 ≠ 0:=by
 by_cases hr:r = []
 ·subst hr;exact h0 rfl
 ·rw [List.getLastD_cons,lastD_any hr s 1];exact h
theorem addL_nil {a b:List Int} {c:Int} (h:addL a b c = []):a = []∧b = []∧¬ 0 < c:=by
 cases a with
 | nil =>
   cases b with
   | nil =>
     refine ⟨rfl,rfl,fun hc=>?_⟩
     simp only [addL,if_pos hc] at h
     cases h
   | cons y r=>simp only [addL] at h;cases h
 | cons x r =>
   cases b with
   | nil=>simp only [addL] at h;cases h
   | cons y q=>simp only [addL] at h;cases h
theorem addL_last (a b:List Int) (c:Int) (ha:DigN a) (hb:DigN b) (h0:0 ≤ c) (h1:c ≤ 1) (la:a.getLastD 1 ≠ 0) (lb:b.getLastD 1 ≠ 0):(addL a b c).getLastD 1 ≠ 0:=by
 induction a,b,c using addL.induct with
 | case1 c hc=>simp only [addL,if_pos hc];show c ≠ 0;omega
 | case2 c hc=>simp only [addL,if_neg hc];decide
 | case3 c x a ih =>
   have hx:=ha.head
   simp only [addL]
   refine last_cons (ih ha.tail hb (by omega) (by omega) (last_tail la) lb) fun e=>?_
   obtain ⟨rfl,_,hc⟩:=addL_nil e
   have:=last_head la
   omega
 | case4 c y b ih =>
   have hy:=hb.head
   simp only [addL]
   refine last_cons (ih ha hb.tail (by omega) (by omega) la (last_tail lb)) fun e=>?_
   obtain ⟨_,rfl,hc⟩:=addL_nil e
   have:=last_head lb
   omega
 | case5 c x a y b ih =>
   have hx:=ha.head
   have hy:=hb.head
   simp only [addL]
   refine last_cons (ih ha.tail hb.tail (by omega) (by omega) (last_tail la) (last_tail lb)) fun e=>?_
   obtain ⟨rfl,rfl,hc⟩:=addL_nil e
   have:=last_head la
   omega
def ratV (q:QI):Rat:=(numQ q:Rat) / ((denQ q:Int):Rat)
structure Bd (q:QI) (m:Nat):Prop where
 ok:okQ q = true
 num:((numQ q).natAbs:Int) < bp m
 den:(denQ q:Int) < bp m
theorem Bd.pos {q:QI} {m:Nat} (h:Bd q m):(0:Int) < (denQ q:Int):=by have:=denQ_pos h.ok;omega
theorem Bd.mono {q:QI} {m n:Nat} (h:Bd q m) (hm:m ≤ n):Bd q n:=⟨h.ok,Int.lt_of_lt_of_le h.num (bp_mono hm),Int.lt_of_lt_of_le h.den (bp_mono hm)⟩
theorem rat_ne {d:Int} (h:0 < d):(d:Rat) ≠ 0:=by
 have:d ≠ 0:=by omega
 exact_mod_cast this
theorem ratV_of {q:QI} {N D:Int} (hq:okQ q = true) (hD:0 < D) (h:numQ q * D = N * denQ q):ratV q = (N:Rat) / (D:Rat):=by
 have h1:(0:Int) < (denQ q:Int):=by have:=denQ_pos hq;omega
 have n1:=rat_ne h1
 have n2:=rat_ne hD
 have h':(numQ q:Rat) * (D:Rat) = (N:Rat) * ((denQ q:Int):Rat):=by exact_mod_cast h
 unfold ratV
 grind
theorem low_is (n:Bool) (a b:Nat) (hb:b ≠ 0) (ha:(a:Int) < bp 18) (hb2:(b:Int) < bp 18) :
 (lowQ n a b).2 = true∧numQ (lowQ n a b).1 * b = (if n = true then -(a:Int) else a) * denQ (lowQ n a b).1∧(numQ (lowQ n a b).1).natAbs ≤ a∧denQ (lowQ n a b).1 ≤ b:=by
 have hg:0 < Nat.gcd a b:=Nat.gcd_pos_of_pos_right _ (by omega)
 obtain ⟨a',ea⟩:=Nat.gcd_dvd_left a b
 obtain ⟨b',eb⟩:=Nat.gcd_dvd_right a b
 have qa:a / Nat.gcd a b = a':=by rw [Nat.div_eq_of_eq_mul_right hg ea]
 have qb:b / Nat.gcd a b = b':=by rw [Nat.div_eq_of_eq_mul_right hg eb]
 have la:a' ≤ a:=by rw [← qa];exact Nat.div_le_self ..
 have lb:b' ≤ b:=by rw [← qb];exact Nat.div_le_self ..
 have l1:(limbs a').length ≤ 18:=limbs_length_le _ 18 (by omega)
 have l2:(limbs b').length ≤ 18:=limbs_length_le _ 18 (by omega)
 have e:lowQ n a b = ((mkS n (limbs a'),limbs b'),true):=by
  unfold lowQ
  rw [qa,qb,if_pos ⟨hb,l1,l2⟩]
 have ev:numQ ((mkS n (limbs a'),limbs b'):QI) = if n = true then -(a':Int) else a':=by
  show valS (mkS n (limbs a')) = _
  rw [mkS_limbs,ofZ_val]
  rw [show (if n = true then -(a':Int) else a').natAbs = a' by split <;> omega]
  omega
 have ed:denQ ((mkS n (limbs a'),limbs b'):QI) = b':=by
  show (nval (limbs b')).toNat = b'
  rw [limbs_val,Int.toNat_natCast]
 rw [e]
 refine ⟨rfl,?_,?_,?_⟩
 ·rw [ev,ed]
  have key:(a':Int) * b = a * b':=by
   have h1:a' * b = a * b':=by
    have e1:a * b' = (Nat.gcd a b * a') * b':=by rw [← ea]
    have e2:a' * b = a' * (Nat.gcd a b * b'):=by rw [← eb]
    rw [e1,e2]
    ac_rfl
   exact_mod_cast h1
  split
  ·rw [Int.neg_mul,Int.neg_mul,key]
  ·exact key
 ·rw [ev];split <;> omega
 ·rw [ed];exact lb
theorem low_bd {n:Bool} {a b m:Nat} (hb:b ≠ 0) (hm:m ≤ 18) (ha:(a:Int) < bp m) (hb2:(b:Int) < bp m) :
 (lowQ n a b).2 = true∧Bd (lowQ n a b).1 m∧ratV (lowQ n a b).1 = ((if n = true then -(a:Int) else a:Int):Rat) / ((b:Int):Rat):=by
 have h18:=bp_mono hm
 obtain ⟨h1,h2,h3,h4⟩:=low_is n a b hb (by omega) (by omega)
 have ok:=lowQ_ok n a b h1
 exact ⟨h1,⟨ok,by omega,by omega⟩,ratV_of ok (by omega) h2⟩
theorem pair_eq {Q:QI × Bool} (h:Q.2 = true):Q = (Q.1,true):=by rw [← h]
theorem abs_top {q:QI} (h:okQ q = true):topN q = (numQ q).natAbs:=by
 have:=(parts_of h).top
 rw [this]
 split <;> omega
theorem mul_lt {a b:Nat} {i j:Nat} (ha:(a:Int) < bp i) (hb:(b:Int) < bp j):((a * b:Nat):Int) < bp (i+j):=by
 rw [bp_add,Int.natCast_mul]
 have p:=bp_pos i
 have q:=bp_pos j
 have h1:(a:Int) * b ≤ (bp i - 1) * b:=Int.mul_le_mul_of_nonneg_right (by omega) (by omega)
 have h2:(bp i - 1) * (b:Int) ≤ (bp i - 1) * (bp j - 1):=Int.mul_le_mul_of_nonneg_left (by omega) (by omega)
 have h3:(bp i - 1) * (bp j - 1) = bp i * bp j - bp i - bp j+1:=by grind
 omega
theorem sign_mul (x y:Bool) (X Y:Int):(if (x != y) = true then -(X * Y) else X * Y) = (if x = true then -X else X) * (if y = true then -Y else Y):=by
 cases x <;> cases y <;> simp [Int.neg_mul,Int.mul_neg]
theorem mul_bd {r s:QI} {i k:Nat} (hr:Bd r i) (hs:Bd s k) (h:i+k ≤ 18):(mulQ r s).2 = true∧Bd (mulQ r s).1 (i+k)∧ratV (mulQ r s).1 = ratV r * ratV s:=by
 have e:mulQ r s = lowQ (r.1.1 != s.1.1) (topN r * topN s) (denQ r * denQ s):=by unfold mulQ topN;rw [if_pos ⟨hr.ok,hs.ok⟩]
 have p1:=hr.pos
 have p2:=hs.pos
 have t1:=abs_top hr.ok
 have t2:=abs_top hs.ok
 have b1:=mul_lt hr.num hs.num
 rw [← t1,← t2] at b1
 have hd:denQ r * denQ s ≠ 0:=Nat.mul_ne_zero (by omega) (by omega)
 obtain ⟨h1,h2,h3⟩:=low_bd (n:=r.1.1 != s.1.1) hd h b1 (mul_lt hr.den hs.den)
 rw [e]
 refine ⟨h1,h2,h3.trans ?_⟩
 have n1:=rat_ne p1
 have n2:=rat_ne p2
 rw [Int.natCast_mul,sign_mul,← (parts_of hr.ok).top,← (parts_of hs.ok).top,Int.natCast_mul]
 unfold ratV
 simp only [Rat.intCast_mul]
 grind
theorem div_bd {r s:QI} {i k:Nat} (hr:Bd r i) (hs:Bd s k) (h:i+k ≤ 18) (h0:numQ s ≠ 0):(divQ r s).2 = true∧Bd (divQ r s).1 (i+k)∧ratV (divQ r s).1 * ratV s = ratV r:=by
 have e:divQ r s = lowQ (r.1.1 != s.1.1) (topN r * denQ s) (denQ r * topN s):=by unfold divQ topN;rw [if_pos ⟨hr.ok,hs.ok⟩]
 have p1:=hr.pos
 have p2:=hs.pos
 have t1:=abs_top hr.ok
 have t2:=abs_top hs.ok
 have b1:=mul_lt hr.num hs.den
 rw [← t1] at b1
 have b2:=mul_lt hr.den hs.num
 rw [← t2] at b2
 have hd:denQ r * topN s ≠ 0:=Nat.mul_ne_zero (by omega) (by omega)
 obtain ⟨h1,h2,h3⟩:=low_bd (n:=r.1.1 != s.1.1) hd h b1 b2
 rw [e]
 refine ⟨h1,h2,?_⟩
 have n1:=rat_ne p1
 have n2:=rat_ne p2
 have n3:=rat_ne (show (0:Int) < (topN s:Int) by omega)
 have q1:=(parts_of hr.ok).top
 have q2:=(parts_of hs.ok).top
 rw [h3,Int.natCast_mul,Int.natCast_mul]
 unfold ratV
 rw [q1,q2]
 generalize r.1.1 = x
 generalize s.1.1 = y
 cases x <;> cases y <;> simp only [bne_self_eq_false,Bool.false_bne,Bool.true_bne,Bool.not_false,if_true,if_false,Bool.false_eq_true,Rat.intCast_mul,Rat.intCast_neg] <;> grind
theorem negS_mag {x:SI} (h:okS x = true):(negS x).2 = x.2:=by
 have hp:=okS_parts h
 have hl:=(natOk_parts hp.1).2.1
 have ha:=valS_abs x hp.1
 have hx:=natOk_limbs hp.1
 unfold negS
 rw [if_pos h]
 have e:(-valS x).natAbs = (nval x.2).toNat:=by rw [Int.natAbs_neg];omega
 unfold ofZ
 rw [e,← hx,if_pos hl]
theorem neg_bd {s:QI} {k:Nat} (hs:Bd s k):(negQ s).2 = true∧Bd (negQ s).1 k∧ratV (negQ s).1 = - ratV s:=by
 have hp:=okQ_parts hs.ok
 have hm:=negS_mag hp.1
 have e:negQ s = ((negS s.1,s.2),true):=by unfold negQ;rw [if_pos hs.ok]
 have ev:numQ ((negS s.1,s.2):QI) = - numQ s:=by
  have hl:(limbs (-valS s.1).natAbs).length ≤ 50:=by
   have:=(natOk_parts (okS_parts hp.1).1).2.1
   have hx:=natOk_limbs (okS_parts hp.1).1
   have ha:=valS_abs s.1 (okS_parts hp.1).1
   rw [Int.natAbs_neg,show (valS s.1).natAbs = (nval s.1.2).toNat by omega,← hx]
   exact this
  show valS (negS s.1) = - valS s.1
  unfold negS
  rw [if_pos hp.1,ofZ_val hl]
 have hok:okQ ((negS s.1,s.2):QI) = true:=by
  have hn:okS (negS s.1) = true:=by unfold negS;rw [if_pos hp.1];exact ofZ_ok _
  unfold okQ
  simp only
  rw [hn,hp.2.1,hm]
  simp only [Bool.true_and,decide_eq_true_eq]
  exact ⟨hp.2.2.1,hp.2.2.2.1,hp.2.2.2.2.1,hp.2.2.2.2.2⟩
 rw [e]
 refine ⟨rfl,⟨hok,by rw [ev,Int.natAbs_neg];exact hs.num,hs.den⟩,?_⟩
 unfold ratV
 rw [ev,show denQ ((negS s.1,s.2):QI) = denQ s from rfl]
 simp only [Rat.intCast_neg]
 grind
def ratD (d:DI):QI:=if okD d = true then (makeQ d.1 (tenS d.2)).1 else zeroQ
theorem rat_bad {d:DI} (h:¬ okD d = true):ratD d = zeroQ:=by unfold ratD;rw [if_neg h]
theorem ten_bd {d:DI} (h:okD d = true):makeQ d.1 (tenS d.2) = (ratD d,true)∧Bd (ratD d) 6∧ratV (ratD d) = (numD d:Rat) / (pt d.2:Rat):=by
 have p:=partsD h
 have hp:=okS_parts p.ok
 have t:=tenS_ok p.lo p.hi
 have hn:=nval_ok hp.1
 have hP:=pt_pos d.2
 have e:makeQ d.1 (tenS d.2) = lowQ d.1.1 (nval d.1.2).toNat (pt d.2).toNat:=by
  unfold makeQ
  rw [if_pos ⟨p.ok,t.1⟩]
  have:nval (tenS d.2).2 = pt d.2:=t.2.1
  rw [this]
  show lowQ (d.1.1 != false) _ _ = _
  cases d.1.1 <;> rfl
 have hr:ratD d = (makeQ d.1 (tenS d.2)).1:=by unfold ratD;rw [if_pos h]
 have hab:=valS_abs d.1 hp.1
 have hlt:=num_lt p
 have h46:bp 4 ≤ bp 6:=bp_mono (by omega)
 have h4:=pt_lt p.hi
 unfold numD at hlt
 obtain ⟨b1,b2,b3⟩:=low_bd (n:=d.1.1) (a:=(nval d.1.2).toNat) (b:=(pt d.2).toNat) (m:=6) (by omega) (by omega) (by omega) (by omega)
 rw [hr,e]
 refine ⟨pair_eq b1,b2,b3.trans ?_⟩
 rw [Int.toNat_of_nonneg hn,Int.toNat_of_nonneg (by omega)]
 rfl
theorem ratD_sz (d:DI):szQ (ratD d) ≤ 1048576:=by
 unfold ratD
 split
 ·unfold makeQ
  split
  ·exact lowQ_sz _ _ _
  ·decide
 ·decide
def unitQ:QI × Bool:=makeQ (ofZ 1) (ofZ 1)
def stepT (l:List EI) (a b:ByteArray):QI :=
 if 0 ≤ posE l a b then (match l[atE l a b]? with | some r=>ratD r.2.2 | none=>zeroQ)
 else (divQ unitQ.1 (match l[atE l b a]? with | some r=>ratD r.2.2 | none=>zeroQ)).1
def rateT (t:TI) (a b:ByteArray):QI × Bool :=
 if howT t a b = 1 then unitQ else if howT t a b = 2 ∨ howT t a b = 3 then (stepT t.2 a b,true)
 else if howT t a b = 4 then mulQ (stepT t.2 a t.1) (stepT t.2 t.1 b) else (zeroQ,false)
theorem stepT_sz (l:List EI) (a b:ByteArray):szQ (stepT l a b) ≤ 1048576:=by
 unfold stepT
 split
 ·split
  ·exact ratD_sz _
  ·decide
 ·exact (by unfold divQ;split;exact lowQ_sz _ _ _;decide:szQ (divQ unitQ.1 _).1 ≤ 1048576)
theorem howT_leg (t:TI) (a b:ByteArray) (h:howT t a b = 2 ∨ howT t a b = 3):¬ legT t.2 a b = 0:=by
 unfold howT at h
 split at h
 ·split at h
  ·omega
  ·split at h
   ·rename_i hl
    exact hl
   ·split at h <;> omega
 ·omega
theorem howT_piv (t:TI) (a b:ByteArray) (h:howT t a b = 4):¬ legT t.2 a t.1 = 0∧¬ legT t.2 t.1 b = 0:=by
 unfold howT at h
 split at h
 ·split at h
  ·omega
  ·split at h
   ·rename_i hl
    unfold legT at h
    split at h
    ·omega
    ·split at h <;> omega
   ·split at h
    ·rename_i hp
     exact ⟨hp.2.2.1,hp.2.2.2⟩
    ·omega
 ·omega
theorem one_szR:szS (ofZ 1) ≤ 1048576:=by unfold szS szI;have:=ofZ_len 1;omega
theorem limbs_one:limbs 1 = [1]:=by
 rw [limbs,dif_neg (by decide),show 1 / 1000000000 = 0 from rfl,limbs,dif_pos rfl]
 rfl
theorem ofZ_one:ofZ 1 = (false,[1]):=by
 unfold ofZ
 rw [show (1:Int).natAbs = 1 from rfl,limbs_one]
 rfl
theorem unit_low:unitQ = lowQ false 1 1:=by
 unfold unitQ makeQ
 rw [ofZ_one,if_pos ⟨by decide,by decide⟩]
 rfl
theorem unit_bd:unitQ.2 = true∧Bd unitQ.1 1:=by
 rw [unit_low]
 obtain ⟨h1,h2,_⟩:=low_bd (n:=false) (a:=1) (b:=1) (m:=1) (by decide) (by decide) (by decide) (by decide)
 exact ⟨h1,h2⟩
theorem okT_mem {t:TI} (h:okT t = true) {x:EI} (hx:x ∈ t.2):okE x = true:=by
 rw [okT_pairs,Bool.and_eq_true,Bool.and_eq_true,Bool.and_eq_true] at h
 exact List.all_eq_true.1 h.2.2.1 x hx
theorem num_posE {x:EI} (h:okE x = true):0 < numD x.2.2:=by
 obtain ⟨_,_,_,h4,h5,_⟩:=okE_parts h
 unfold cmpS at h5
 split at h5
 ·unfold cmpI at h5
  have e:valS zeroS = 0:=rfl
  rw [e] at h5
  unfold numD
  split at h5
  ·omega
  ·split at h5
   ·assumption
   ·omega
 ·omega
theorem leg_bd {x:EI} (h:okE x = true):Bd (ratD x.2.2) 6∧numQ (ratD x.2.2) ≠ 0:=by
 obtain ⟨_,_,_,h4,_,_⟩:=okE_parts h
 have hb:=ten_bd h4
 refine ⟨hb.2.1,fun h0=>?_⟩
 have hp:=num_posE h
 have hq:=hb.2.2
 have hd:=hb.2.1.pos
 have hpt:=pt_pos x.2.2.2
 unfold ratV at hq
 rw [h0] at hq
 have n1:=rat_ne hd
 have n2:=rat_ne hpt
 have n3:(numD x.2.2:Rat) ≠ 0:=rat_ne hp
 apply n3
 have e:(((0:Int)):Rat) = 0:=rfl
 rw [e] at hq
 grind
theorem step_bd {t:TI} {a b:ByteArray} (ht:okT t = true) (h:¬ legT t.2 a b = 0):Bd (stepT t.2 a b) 7:=by
 by_cases h0:0 ≤ posE t.2 a b
 ·obtain ⟨n,x,e1,e2,e3⟩:=posE_at h0
  have e:stepT t.2 a b = ratD x.2.2:=by unfold stepT;rw [if_pos h0,e3,e2]
  rw [e]
  exact (leg_bd (okT_mem ht (List.mem_of_getElem? e2))).1.mono (by decide)
 ·have h1:0 ≤ posE t.2 b a:=by
   unfold legT at h
   rw [if_neg h0] at h
   split at h
   ·assumption
   ·exact absurd rfl h
  obtain ⟨n,x,e1,e2,e3⟩:=posE_at h1
  have e:stepT t.2 a b = (divQ unitQ.1 (ratD x.2.2)).1:=by unfold stepT;rw [if_neg h0,e3,e2]
  have hl:=leg_bd (okT_mem ht (List.mem_of_getElem? e2))
  rw [e]
  exact (div_bd unit_bd.2 hl.1 (by decide) hl.2).2.1
theorem leg_self {t:TI} (ht:okT t = true) (a:ByteArray):legT t.2 a a = 0:=by
 have hn:¬ 0 ≤ posE t.2 a a:=fun h0=>by
  obtain ⟨n,x,e1,e2,e3⟩:=posE_at h0
  obtain ⟨y,hy,hp⟩:=atE_has (l:=t.2) (a:=a) (b:=a) (by rw [e3];exact (List.getElem?_eq_some_iff.1 e2).1)
  have:=(okE_parts (okT_mem ht (List.mem_of_getElem? hy))).2.2.1
  exact this (hp.1.trans hp.2.symm)
 unfold legT
 rw [if_neg hn,if_neg hn]
def storeT (l:List EI) (a b:ByteArray):QI × Int:=if legT l a b = 0 then (zeroQ,0) else (stepT l a b,legT l a b)
def pivT (t:TI) (a b:ByteArray):QI × Int :=
 if legT t.2 a t.1 = 0 ∨ legT t.2 t.1 b = 0 then (zeroQ,0) else ((mulQ (stepT t.2 a t.1) (stepT t.2 t.1 b)).1,4)
def findT (t:TI) (a b:ByteArray):QI × Int :=
 if okT t = true∧knownC a = true∧knownC b = true then (if a = b then (unitQ.1,1) else if legT t.2 a b = 0 then pivT t a b else (stepT t.2 a b,legT t.2 a b)) else (zeroQ,0)
theorem legT_cases (l:List EI) (a b:ByteArray):legT l a b = 0 ∨ legT l a b = 2 ∨ legT l a b = 3:=by
 unfold legT
 split
 ·exact .inr (.inl rfl)
 ·split
  ·exact .inr (.inr rfl)
  ·exact .inl rfl
theorem find_how (t:TI) (a b:ByteArray):(findT t a b).2 = howT t a b:=by
 unfold findT howT
 by_cases h:okT t = true∧knownC a = true∧knownC b = true
 ·rw [if_pos h,if_pos h]
  by_cases hab:a = b
  ·rw [if_pos hab,if_pos hab]
  ·rw [if_neg hab,if_neg hab]
   by_cases hl:legT t.2 a b = 0
   ·rw [if_pos hl,if_neg (fun h=>h hl)]
    unfold pivT
    by_cases hp:legT t.2 a t.1 = 0 ∨ legT t.2 t.1 b = 0
    ·rw [if_pos hp,if_neg (fun hh=>by
      rcases hp with hp | hp
      ·exact hh.2.2.1 hp
      ·exact hh.2.2.2 hp)]
    ·rw [if_neg hp,if_pos ⟨fun e=>hp (.inl (by rw [e];exact leg_self h.1 _)),fun e=>hp (.inr (by rw [e];exact leg_self h.1 _)),fun e=>hp (.inl e),fun e=>hp (.inr e)⟩]
   ·rw [if_neg hl,if_pos hl]
 ·rw [if_neg h,if_neg h]
theorem find_rate (t:TI) (a b:ByteArray):rateT t a b = ((findT t a b).1,(findT t a b).2 != 0):=by
 have hh:=find_how t a b
 unfold rateT
 rw [← hh]
 unfold findT
 by_cases h:okT t = true∧knownC a = true∧knownC b = true
 ·rw [if_pos h]
  by_cases hab:a = b
  ·rw [if_pos hab,if_pos rfl]
   exact pair_eq unit_bd.1
  ·rw [if_neg hab]
   by_cases hl:legT t.2 a b = 0
   ·rw [if_pos hl]
    unfold pivT
    by_cases hp:legT t.2 a t.1 = 0 ∨ legT t.2 t.1 b = 0
    ·rw [if_pos hp]
     rfl
    ·rw [if_neg hp]
     exact pair_eq (mul_bd (step_bd h.1 (fun e=>hp (.inl e))) (step_bd h.1 (fun e=>hp (.inr e))) (by decide)).1
   ·rw [if_neg hl]
    rcases legT_cases t.2 a b with h0 | h2 | h2
    ·exact absurd h0 hl
    ·rw [h2];rfl
    ·rw [h2];rfl
 ·rw [if_neg h]
  rfl
theorem findT_sz (t:TI) (a b:ByteArray):szQ (findT t a b).1 ≤ 1048576:=by
 unfold findT
 split
 ·split
  ·rw [unit_low];exact lowQ_sz _ _ _
  ·split
   ·unfold pivT
    split
    ·exact zeroQ_sz
    ·exact (by unfold mulQ;split;exact lowQ_sz _ _ _;exact zeroQ_sz:szQ (mulQ _ _).1 ≤ 1048576)
   ·exact stepT_sz _ _ _
 ·exact zeroQ_sz
theorem roundN_cases (neg:Bool) (A D:Nat) (m:Int):(roundN neg A D m = A / D∧(A % D = 0 ∨ awayB neg (A / D) (A % D) D m = false)) ∨ (roundN neg A D m = A / D+1∧A % D ≠ 0∧awayB neg (A / D) (A % D) D m = true):=by
 unfold roundN
 by_cases h:A % D ≠ 0∧awayB neg (A / D) (A % D) D m = true
 ·rw [if_pos h];exact .inr ⟨rfl,h.1,h.2⟩
 ·rw [if_neg h]
  refine .inl ⟨by omega,?_⟩
  by_cases h0:A % D = 0
  ·exact .inl h0
  ·refine .inr ?_
   rcases Bool.eq_false_or_eq_true (awayB neg (A / D) (A % D) D m) with e | e
   ·exact absurd ⟨h0,e⟩ h
   ·exact e
theorem near_away {neg:Bool} {Q R D:Nat} {m:Int} (h4:4 ≤ m) (h6:m ≤ 6):(awayB neg Q R D m = true→D ≤ 2 * R)∧(awayB neg Q R D m = false→2 * R ≤ D):=by
 rcases (show m = 4 ∨ m = 5 ∨ m = 6 by omega) with rfl | rfl | rfl
 ·show (decide (D < 2 * R) = true→_)∧(decide (D < 2 * R) = false→_)
  rw [decide_eq_true_eq,decide_eq_false_iff_not];omega
 ·show (decide (D ≤ 2 * R) = true→_)∧(decide (D ≤ 2 * R) = false→_)
  rw [decide_eq_true_eq,decide_eq_false_iff_not];omega
 ·show ((decide (D < 2 * R) || (decide (2 * R = D) && decide (Q % 2 = 1))) = true→_)∧((decide (D < 2 * R) || (decide (2 * R = D) && decide (Q % 2 = 1))) = false→_)
  rw [Bool.or_eq_true,Bool.or_eq_false_iff,Bool.and_eq_true,decide_eq_true_eq,decide_eq_true_eq,decide_eq_false_iff_not]
  omega
theorem round_off (neg:Bool) (A D:Nat) (m:Int) (hD:0 < D):∃ e:Int,(roundN neg A D m:Int) * D = A+e∧-(D:Int) < e∧e < D∧(4 ≤ m→m ≤ 6→2 * e ≤ D∧-(D:Int) ≤ 2 * e)∧(e = 0 ↔ A % D = 0):=by
 have h1:=Nat.div_add_mod A D
 have h2:=Nat.mod_lt A hD
 rcases roundN_cases neg A D m with ⟨hk,hc⟩ | ⟨hk,h0,hc⟩
 ·refine ⟨-((A % D:Nat):Int),?_,by omega,by omega,fun h4 h6=>?_,by omega⟩
  ·rw [hk,Int.mul_comm,← Int.natCast_mul];omega
  ·rcases hc with hc | hc
   ·omega
   ·have:=(near_away h4 h6).2 hc;omega
 ·refine ⟨(D:Int) - ((A % D:Nat):Int),?_,by omega,by omega,fun h4 h6=>?_,by omega⟩
  ·rw [hk,Int.natCast_add,Int.add_mul,Int.mul_comm,← Int.natCast_mul];omega
  ·have:=(near_away h4 h6).1 hc;omega
theorem roundS_val {r:QI} (h:Parts r) (m:Int):valS (roundS r m) = if r.1.1 = true then -(roundN r.1.1 (topN r) (denQ r) m:Int) else roundN r.1.1 (topN r) (denQ r) m:=by
 unfold roundS
 rw [mkS_limbs,ofZ_val]
 have:=round_len h m
 rw [show (if r.1.1 = true then -(roundN r.1.1 (topN r) (denQ r) m:Int) else roundN r.1.1 (topN r) (denQ r) m).natAbs = roundN r.1.1 (topN r) (denQ r) m by split <;> omega]
 omega
theorem round_val {r:QI} (h:okQ r = true) (m:Int):∃ e:Int,valS (roundS r m) * denQ r = numQ r+e∧-(denQ r:Int) < e∧e < denQ r∧(4 ≤ m→m ≤ 6→2 * e ≤ denQ r∧-(denQ r:Int) ≤ 2 * e)∧(e = 0 ↔ topN r % denQ r = 0):=by
 have hp:=parts_of h
 obtain ⟨e,h1,h2,h3,h4,h5⟩:=round_off r.1.1 (topN r) (denQ r) m hp.pos
 rw [roundS_val hp,hp.top]
 generalize roundN r.1.1 (topN r) (denQ r) m = k at *
 cases r.1.1 with
 | true=>exact ⟨-e,by rw [if_pos rfl,if_pos rfl,Int.neg_mul,h1];omega,by omega,by omega,fun a b=>by have:=h4 a b;omega,by omega⟩
 | false=>exact ⟨e,by rw [if_neg (by decide),if_neg (by decide),h1],by omega,by omega,h4,h5⟩
theorem ofZ_nat {n:Nat} (h:(n:Int) < bp 50):ofZ (n:Int) = (false,limbs n):=by
 unfold ofZ
 rw [show ((n:Int)).natAbs = n by omega,if_pos (limbs_length_le _ 50 h),decide_eq_false (by omega)]
theorem bp50:(1000000000:Int) ≤ bp 50:=by have:bp 1 ≤ bp 50:=bp_mono (by omega);have e:bp 1 = 1000000000:=rfl;omega
theorem int_bd {x:SI} {m:Nat} (ok:okS x = true) (hm:m ≤ 18) (h0:0 < m) (h:((valS x).natAbs:Int) < bp m):(makeQ x (ofZ 1)).2 = true∧Bd (makeQ x (ofZ 1)).1 m∧ratV (makeQ x (ofZ 1)).1 = ((valS x:Int):Rat):=by
 have hp:=okS_parts ok
 have ha:=valS_abs x hp.1
 have eo:ofZ 1 = (false,limbs 1):=ofZ_nat (n:=1) (by have:=bp50;omega)
 have e1:(ofZ 1).1 = false:=by rw [eo]
 have e2:(nval (ofZ 1).2).toNat = 1:=by rw [eo];show (nval (limbs 1)).toNat = 1;rw [limbs_val];rfl
 have e:makeQ x (ofZ 1) = lowQ x.1 (nval x.2).toNat 1:=by
  unfold makeQ
  rw [if_pos ⟨ok,ofZ_ok 1⟩,e1,e2]
  cases x.1 <;> rfl
 have hb1:((1:Nat):Int) < bp m:=by
  have h1:bp 1 ≤ bp m:=bp_mono h0
  have:bp 1 = 1000000000:=rfl
  omega
 obtain ⟨h1,h2,h3⟩:=low_bd (n:=x.1) (a:=(nval x.2).toNat) (b:=1) (by omega) hm (by omega) hb1
 rw [e]
 refine ⟨h1,h2,h3.trans ?_⟩
 have hv:(if x.1 = true then -((nval x.2).toNat:Int) else ((nval x.2).toNat:Int)) = valS x:=by
  have hn:=nval_ok hp.1
  unfold valS
  rw [Int.toNat_of_nonneg hn]
 rw [hv]
 simp
 grind
theorem negQ_is {r:QI} (h:okQ r = true):negQ r = ((negS r.1,r.2),true):=by unfold negQ;rw [if_pos h]
def PostSb (R0:SI) (R1:Bool) (w:World) (e:Ending) (w':World):Prop :=
 ∃ (v:Value) (S:List Nat),e = .returned (.tuple #[v,.bool R1])∧At S (OwnS v R0) w'∧Within S w.heap.size w'.heap.size∧Below w.heap.size w w'
def PostSQb (R0:SI) (R1:QI) (R2:Bool) (w:World) (e:Ending) (w':World):Prop :=
 ∃ (v u:Value) (S T:List Nat),e = .returned (.tuple #[v,u,.bool R2])∧At S (OwnS v R0) w'∧At T (OwnQ u R1) w'∧(∀ g ∈ S,g ∉ T)∧Within S w.heap.size w'.heap.size∧Within T w.heap.size w'.heap.size∧Below w.heap.size w w'
theorem modeB_in (m:Int):inB m 0 6 = modeB m:=rfl
set_option maxHeartbeats 400000 in
theorem l06Mode_any (m:Int) (w:World):Calls Tryz.prog 41 #[.int .i64 m] w (Postb (modeB m) w):=by
 go_enter Tryz.func41,Tryz.ntmps41
 go_wp2_with fail
 refine (specIn_any m 0 6 (modeB m) _ (modeB_in m)).mono ?_
 rintro e w1 ⟨rfl,rfl⟩
 go_wp2
 go_ret
 exact ⟨rfl,Below.refl _ _⟩
def modeCells:Array Value:=#[.string ⟨#[100,111,119,110]⟩,.func (.func 141) #[] #[],.string ⟨#[117,112]⟩,.func (.func 142) #[] #[],.string ⟨#[102,108,111,111,114]⟩,.func (.func 143) #[] #[],.string ⟨#[99,101,105,108]⟩,.func (.func 144) #[] #[],.string ⟨#[104,97,108,102,100,111,119,110]⟩,.func (.func 145) #[] #[],.string ⟨#[104,97,108,102,117,112]⟩,.func (.func 147) #[] #[],.string ⟨#[104,97,108,102,101,118,101,110]⟩,.func (.func 148) #[] #[]]
set_option maxHeartbeats 1000000 in
theorem roundings_any (w:World):Calls Tryz.prog 123 #[] w fun e w'=>∃ b:Nat,e = .returned (.slice (some ⟨b,0,none⟩) 7 7)∧At [b] (BoxAt b modeCells 151) w'∧w.heap.size ≤ b∧Below w.heap.size w w':=by
 go_enter Tryz.func123,Tryz.ntmps123
 go_wp2
 go_ret
 exact ⟨_,rfl,box_new _ _ _,Nat.le_refl _,below_al (Below.refl _ _) _⟩
theorem below_set2M {W0 W:World} {g:Nat} {a b:Value} (h:Below W0.heap.size W0 W) (hg:W0.heap.size ≤ g):Below W0.heap.size W0 ((W.setCell ⟨g,0,none⟩ a).setCell ⟨g,1,none⟩ b):=(h.setCell (p:=⟨g,0,none⟩) hg _).setCell (p:=⟨g,1,none⟩) hg _
def fnOf (m:Int):FuncId:=if m = 0 then 141 else if m = 1 then 142 else if m = 2 then 143 else if m = 3 then 144 else if m = 4 then 145 else if m = 5 then 147 else 148
def PostRM (s:ByteArray) (f:Value) (b:Bool) (w:World) (e:Ending) (w':World):Prop:=e = .returned (.tuple #[.agg #[.string s,f],.bool b])∧Below w.heap.size w w'
set_option maxHeartbeats 4000000 in
theorem roundingOf_mode (m:Int) (hm:modeB m = true) (w:World):Calls Tryz.prog 95 #[.int .i64 m] w (PostRM (nameB m) (.func (.func (fnOf m)) #[] #[]) true w):=by
 have bb0:Below w.heap.size w (w.alloc (.cells #[.string ⟨#[]⟩,.nilFunc] 151)):=below_al (Below.refl _ _) _
 have ko:=box_new w #[.string ⟨#[]⟩,.nilFunc] 151
 rcases modeB_cases hm with rfl | rfl | rfl | rfl | rfl | rfl | rfl
 ·clear hm
  go_enter Tryz.func95,Tryz.ntmps95
  go_wp2_with fail
  refine (roundings_any _).mono ?_
  rintro e w1 ⟨b,rfl,kb,hb,b1⟩
  have bb1:=Below.next bb0 b1
  replace ko:=ko.below b1
  have cb0:w1.cell? ⟨b,0,none⟩ = some (.string ⟨#[100,111,119,110]⟩):=kb.here.cell 0 _ rfl
  have cb1:w1.cell? ⟨b,1,none⟩ = some (.func (.func 141) #[] #[]):=kb.here.cell 1 _ rfl
  have cz0:=ko.here.cell 0 _ rfl
  have cz1:=ko.here.cell 1 _ rfl
  have fz0:=Lib.frozen_of_heap ko.here 0
  have fz1:=Lib.frozen_of_heap ko.here 1
  go_wp2
  refine bodyPost_ret (v:=.tuple #[.agg #[.string ⟨#[100,111,119,110]⟩,.func (.func 141) #[] #[]],.bool true]) (by simp [results,Tryz.results95,go_sem,cz0,cz1]) rfl ?_
  exact ⟨rfl,below_set2M bb1 (Nat.le_refl _)⟩
 ·clear hm
  go_enter Tryz.func95,Tryz.ntmps95
  go_wp2_with fail
  refine (roundings_any _).mono ?_
  rintro e w1 ⟨b,rfl,kb,hb,b1⟩
  have bb1:=Below.next bb0 b1
  replace ko:=ko.below b1
  have cb0:w1.cell? ⟨b,2,none⟩ = some (.string ⟨#[117,112]⟩):=kb.here.cell 2 _ rfl
  have cb1:w1.cell? ⟨b,3,none⟩ = some (.func (.func 142) #[] #[]):=kb.here.cell 3 _ rfl
  have cz0:=ko.here.cell 0 _ rfl
  have cz1:=ko.here.cell 1 _ rfl
  have fz0:=Lib.frozen_of_heap ko.here 0
  have fz1:=Lib.frozen_of_heap ko.here 1
  go_wp2
  refine bodyPost_ret (v:=.tuple #[.agg #[.string ⟨#[117,112]⟩,.func (.func 142) #[] #[]],.bool true]) (by simp [results,Tryz.results95,go_sem,cz0,cz1]) rfl ?_
  exact ⟨rfl,below_set2M bb1 (Nat.le_refl _)⟩
 ·clear hm
  go_enter Tryz.func95,Tryz.ntmps95
  go_wp2_with fail
  refine (roundings_any _).mono ?_
  rintro e w1 ⟨b,rfl,kb,hb,b1⟩
  have bb1:=Below.next bb0 b1
  replace ko:=ko.below b1
  have cb0:w1.cell? ⟨b,4,none⟩ = some (.string ⟨#[102,108,111,111,114]⟩):=kb.here.cell 4 _ rfl
  have cb1:w1.cell? ⟨b,5,none⟩ = some (.func (.func 143) #[] #[]):=kb.here.cell 5 _ rfl
  have cz0:=ko.here.cell 0 _ rfl
  have cz1:=ko.here.cell 1 _ rfl
  have fz0:=Lib.frozen_of_heap ko.here 0
  have fz1:=Lib.frozen_of_heap ko.here 1
  go_wp2
  refine bodyPost_ret (v:=.tuple #[.agg #[.string ⟨#[102,108,111,111,114]⟩,.func (.func 143) #[] #[]],.bool true]) (by simp [results,Tryz.results95,go_sem,cz0,cz1]) rfl ?_
  exact ⟨rfl,below_set2M bb1 (Nat.le_refl _)⟩
 ·clear hm
  go_enter Tryz.func95,Tryz.ntmps95
  go_wp2_with fail
  refine (roundings_any _).mono ?_
  rintro e w1 ⟨b,rfl,kb,hb,b1⟩
  have bb1:=Below.next bb0 b1
  replace ko:=ko.below b1
  have cb0:w1.cell? ⟨b,6,none⟩ = some (.string ⟨#[99,101,105,108]⟩):=kb.here.cell 6 _ rfl
  have cb1:w1.cell? ⟨b,7,none⟩ = some (.func (.func 144) #[] #[]):=kb.here.cell 7 _ rfl
  have cz0:=ko.here.cell 0 _ rfl
  have cz1:=ko.here.cell 1 _ rfl
  have fz0:=Lib.frozen_of_heap ko.here 0
  have fz1:=Lib.frozen_of_heap ko.here 1
  go_wp2
  refine bodyPost_ret (v:=.tuple #[.agg #[.string ⟨#[99,101,105,108]⟩,.func (.func 144) #[] #[]],.bool true]) (by simp [results,Tryz.results95,go_sem,cz0,cz1]) rfl ?_
  exact ⟨rfl,below_set2M bb1 (Nat.le_refl _)⟩
 ·clear hm
  go_enter Tryz.func95,Tryz.ntmps95
  go_wp2_with fail
  refine (roundings_any _).mono ?_
  rintro e w1 ⟨b,rfl,kb,hb,b1⟩
  have bb1:=Below.next bb0 b1
  replace ko:=ko.below b1
  have cb0:w1.cell? ⟨b,8,none⟩ = some (.string ⟨#[104,97,108,102,100,111,119,110]⟩):=kb.here.cell 8 _ rfl
  have cb1:w1.cell? ⟨b,9,none⟩ = some (.func (.func 145) #[] #[]):=kb.here.cell 9 _ rfl
  have cz0:=ko.here.cell 0 _ rfl
  have cz1:=ko.here.cell 1 _ rfl
  have fz0:=Lib.frozen_of_heap ko.here 0
  have fz1:=Lib.frozen_of_heap ko.here 1
  go_wp2
  refine bodyPost_ret (v:=.tuple #[.agg #[.string ⟨#[104,97,108,102,100,111,119,110]⟩,.func (.func 145) #[] #[]],.bool true]) (by simp [results,Tryz.results95,go_sem,cz0,cz1]) rfl ?_
  exact ⟨rfl,below_set2M bb1 (Nat.le_refl _)⟩
 ·clear hm
  go_enter Tryz.func95,Tryz.ntmps95
  go_wp2_with fail
  refine (roundings_any _).mono ?_
  rintro e w1 ⟨b,rfl,kb,hb,b1⟩
  have bb1:=Below.next bb0 b1
  replace ko:=ko.below b1
  have cb0:w1.cell? ⟨b,10,none⟩ = some (.string ⟨#[104,97,108,102,117,112]⟩):=kb.here.cell 10 _ rfl
  have cb1:w1.cell? ⟨b,11,none⟩ = some (.func (.func 147) #[] #[]):=kb.here.cell 11 _ rfl
  have cz0:=ko.here.cell 0 _ rfl
  have cz1:=ko.here.cell 1 _ rfl
  have fz0:=Lib.frozen_of_heap ko.here 0
  have fz1:=Lib.frozen_of_heap ko.here 1
  go_wp2
  refine bodyPost_ret (v:=.tuple #[.agg #[.string ⟨#[104,97,108,102,117,112]⟩,.func (.func 147) #[] #[]],.bool true]) (by simp [results,Tryz.results95,go_sem,cz0,cz1]) rfl ?_
  exact ⟨rfl,below_set2M bb1 (Nat.le_refl _)⟩
 ·clear hm
  go_enter Tryz.func95,Tryz.ntmps95
  go_wp2_with fail
  refine (roundings_any _).mono ?_
  rintro e w1 ⟨b,rfl,kb,hb,b1⟩
  have bb1:=Below.next bb0 b1
  replace ko:=ko.below b1
  have cb0:w1.cell? ⟨b,12,none⟩ = some (.string ⟨#[104,97,108,102,101,118,101,110]⟩):=kb.here.cell 12 _ rfl
  have cb1:w1.cell? ⟨b,13,none⟩ = some (.func (.func 148) #[] #[]):=kb.here.cell 13 _ rfl
  have cz0:=ko.here.cell 0 _ rfl
  have cz1:=ko.here.cell 1 _ rfl
  have fz0:=Lib.frozen_of_heap ko.here 0
  have fz1:=Lib.frozen_of_heap ko.here 1
  go_wp2
  refine bodyPost_ret (v:=.tuple #[.agg #[.string ⟨#[104,97,108,102,101,118,101,110]⟩,.func (.func 148) #[] #[]],.bool true]) (by simp [results,Tryz.results95,go_sem,cz0,cz1]) rfl ?_
  exact ⟨rfl,below_set2M bb1 (Nat.le_refl _)⟩
set_option maxHeartbeats 4000000 in
theorem roundingOf_none (m:Int) (hm:¬ modeB m = true) (w:World):Calls Tryz.prog 95 #[.int .i64 m] w (PostRM ⟨#[]⟩ .nilFunc false w):=by
 have bb0:Below w.heap.size w (w.alloc (.cells #[.string ⟨#[]⟩,.nilFunc] 151)):=below_al (Below.refl _ _) _
 have ko:=box_new w #[.string ⟨#[]⟩,.nilFunc] 151
 have h6:=(modeB_false hm).2
 clear hm
 by_cases h0:m < 0
 ·clear h6
  go_enter Tryz.func95,Tryz.ntmps95
  go_wp2_with fail
  refine (roundings_any _).mono ?_
  rintro e w1 ⟨b,rfl,kb,hb,b1⟩
  have bb1:=Below.next bb0 b1
  replace ko:=ko.below b1
  have cz0:=ko.here.cell 0 _ rfl
  have cz1:=ko.here.cell 1 _ rfl
  have fz0:=Lib.frozen_of_heap ko.here 0
  have fz1:=Lib.frozen_of_heap ko.here 1
  go_wp2
  refine bodyPost_ret (v:=.tuple #[.agg #[.string ⟨#[]⟩,.nilFunc],.bool false]) (by simp [results,Tryz.results95,go_sem,cz0,cz1]) rfl ?_
  exact ⟨rfl,below_set2M bb1 (Nat.le_refl _)⟩
 ·have h7:((7:Nat):Int) ≤ m:=by omega
  clear h6
  go_enter Tryz.func95,Tryz.ntmps95
  go_wp2_with fail
  refine (roundings_any _).mono ?_
  rintro e w1 ⟨b,rfl,kb,hb,b1⟩
  have bb1:=Below.next bb0 b1
  replace ko:=ko.below b1
  have cz0:=ko.here.cell 0 _ rfl
  have cz1:=ko.here.cell 1 _ rfl
  have fz0:=Lib.frozen_of_heap ko.here 0
  have fz1:=Lib.frozen_of_heap ko.here 1
  go_wp2
  refine bodyPost_ret (v:=.tuple #[.agg #[.string ⟨#[]⟩,.nilFunc],.bool false]) (by simp [results,Tryz.results95,go_sem,cz0,cz1]) rfl ?_
  exact ⟨rfl,below_set2M bb1 (Nat.le_refl _)⟩
theorem OwnI.belowI {v:Value} {xs:List Int} {w w':World} (h:OwnI v xs w) (hb:Below w.heap.size w w'):OwnI v xs w':=own_below h hb
theorem ownI_eq {v:Value} {xs ys:List Int} {w:World} (h:OwnI v xs w) (e:xs = ys):OwnI v ys w:=e ▸ h
theorem roundVS_eq {x y:SI} {w w':World} {e:Ending} (hxy:x = y) (h:NewV (fun u=>OwnS u x) w e w'):NewV (fun u=>OwnS u y) w e w':=hxy ▸ h
theorem chg_set2 {r:Nat} {c0 c1:Value} {W:World}:Chg [r] W ((W.setCell ⟨r,0,none⟩ c0).setCell ⟨r,1,none⟩ c1):=((Chg.refl _ _).setCell (by simp) _).setCell (by simp) _
theorem newSb_at {r B:Nat} {S:List Nat} {c0 c1:Value} {x:SI} {b:Bool} {w W:World} (o:At S (OwnS (.agg #[c0,c1]) x) W) (l:Within S B W.heap.size) (hrB:r < B) (hr:w.heap.size ≤ r) (hW:Below w.heap.size w W) :
 PostSb x b w (.returned (.tuple #[.agg #[c0,c1],.bool b])) ((W.setCell ⟨r,0,none⟩ c0).setCell ⟨r,1,none⟩ c1):=by
 have hc:Chg [r] W ((W.setCell ⟨r,0,none⟩ c0).setCell ⟨r,1,none⟩ c1):=chg_set2
 have hz:=hc.size
 exact ⟨_,S,rfl,o.chg hc (fun i hi hm=>by have:=l i hi;simp at hm;omega),fun i hi=>by have:=l i hi;omega,below_set2 hW hr⟩
theorem newS_at {r B:Nat} {S:List Nat} {c0 c1:Value} {x:SI} {w W:World} (o:At S (OwnS (.agg #[c0,c1]) x) W) (l:Within S B W.heap.size) (hrB:r < B) (hr:w.heap.size ≤ r) (hW:Below w.heap.size w W) :
 NewV (fun v=>OwnS v x) w (.returned (.agg #[c0,c1])) ((W.setCell ⟨r,0,none⟩ c0).setCell ⟨r,1,none⟩ c1):=by
 have hc:Chg [r] W ((W.setCell ⟨r,0,none⟩ c0).setCell ⟨r,1,none⟩ c1):=chg_set2
 have hz:=hc.size
 exact ⟨_,S,rfl,o.chg hc (fun i hi hm=>by have:=l i hi;simp at hm;omega),fun i hi=>by have:=l i hi;omega,below_set2 hW hr⟩
theorem ownS_zero (w:World):OwnS (.agg #[.bool false,.slice none 0 0]) zeroS w:=⟨_,rfl,World.ownsRow_nil _ _ _ _⟩
theorem newSb_zero {w W:World} (b:Bool) (hW:Below w.heap.size w W):PostSb zeroS b w (.returned (.tuple #[.agg #[.bool false,.slice none 0 0],.bool b])) W :=
 ⟨_,[],rfl,⟨ownS_zero _,fun _ hg=>absurd hg List.not_mem_nil,fun w' _=>ownS_zero w'⟩,fun _ hg=>absurd hg List.not_mem_nil,hW⟩
theorem quot_of {r:QI} (h:okQ r = true):(nval r.1.2 / nval r.2).toNat = topN r / denQ r:=by
 have p:=parts_of h
 rw [p.n,p.d,limbs_val,limbs_val]
 exact div_toNat _ _
theorem rest_of {r:QI} (h:okQ r = true):(nval r.1.2 % nval r.2).toNat = topN r % denQ r:=by
 have p:=parts_of h
 rw [p.n,p.d,limbs_val,limbs_val,← Int.natCast_emod]
 exact Int.toNat_natCast _
theorem quot_len {r:QI} (h:okQ r = true):(limbs (topN r / denQ r)).length ≤ 18:=limbs_length_le _ 18 (by
 have p:=(parts_of h).nlt
 have:=Nat.div_le_self (topN r) (denQ r)
 omega)
theorem rest_len {r:QI} (h:okQ r = true):(limbs (topN r % denQ r)).length ≤ 18:=limbs_length_le _ 18 (by
 have p:=(parts_of h).dlt
 have:=Nat.mod_lt (topN r) (denQ_pos h)
 omega)
theorem even_limbs {k:Nat} (h:(limbs k).length ≤ 50):evenB (limbs k) = decide (k % 2 = 0):=by
 unfold evenB
 rw [limbs_okL _ h,Bool.true_and]
 have e:(limbs k).headD 0 % 2 = ((k % 2:Nat):Int):=by
  by_cases h:k = 0
  ·subst h;rw [limbs,dif_pos rfl];rfl
  ·rw [limbs,dif_neg h]
   show ((k % 1000000000:Nat):Int) % 2 = _
   omega
 rw [e,decide_eq_decide]
 omega
theorem round_plain {r:QI} {m:Int} (h:topN r % denQ r = 0 ∨ awayB r.1.1 (topN r / denQ r) (topN r % denQ r) (denQ r) m = false):mkS r.1.1 (limbs (topN r / denQ r)) = roundS r m:=by
 unfold roundS roundN
 rw [if_neg (fun e=>by rcases h with h | h;exact e.1 h;rw [h] at e;exact absurd e.2 (by decide)),Nat.add_zero]
theorem round_more {r:QI} {m:Int} (h:topN r % denQ r ≠ 0) (ha:awayB r.1.1 (topN r / denQ r) (topN r % denQ r) (denQ r) m = true):mkS r.1.1 (limbs (topN r / denQ r+1)) = roundS r m:=by
 unfold roundS roundN
 rw [if_pos ⟨h,ha⟩]
theorem one_more (Q:Nat):trimL (addL (limbs Q) [1] 0) = limbs (Q+1):=by
 have h:=addL_val (limbs Q) [1] 0 (limbs_digN Q) (by rw [← one_limbs];exact limbs_digN 1) (by omega) (by omega)
 rw [trim_limbs _ h.2.1,h.1,limbs_val]
 have:nval [1] = 1:=rfl
 rw [this,show ((Q:Int)+1+0).toNat = Q+1 by omega]
theorem twice_len {R:Nat} (h:(limbs R).length ≤ 18):(addL (limbs R) (limbs R) 0).length ≤ 40∧DigN (addL (limbs R) (limbs R) 0)∧(addL (limbs R) (limbs R) 0).getLastD 1 ≠ 0∧nval (addL (limbs R) (limbs R) 0) = (R:Int)+R+0:=by
 have hs:=addL_val (limbs R) (limbs R) 0 (limbs_digN R) (limbs_digN R) (by omega) (by omega)
 rw [limbs_val] at hs
 exact ⟨by omega,hs.2.1,addL_last _ _ _ (limbs_digN R) (limbs_digN R) (by omega) (by omega) (limbs_lastN R) (limbs_lastN R),hs.1⟩
theorem awayB_4 (neg:Bool) (Q R D:Nat):awayB neg Q R D 4 = decide (D < 2 * R):=rfl
theorem awayB_5 (neg:Bool) (Q R D:Nat):awayB neg Q R D 5 = decide (D ≤ 2 * R):=rfl
theorem awayB_6 (neg:Bool) (Q R D:Nat):awayB neg Q R D 6 = (decide (D < 2 * R) || (decide (2 * R = D) && decide (Q % 2 = 1))):=rfl
theorem away_cmp (neg:Bool) (Q R D:Nat) {c:Int} (h:cmpI ((R:Int)+R+0) D = c):awayB neg Q R D 4 = decide (0 < c)∧awayB neg Q R D 5 = decide (0 ≤ c)∧awayB neg Q R D 6 = (decide (0 < c) || (decide (c = 0) && decide (Q % 2 = 1))):=by
 have t:=twice_cmp R D
 rw [h] at t
 rw [awayB_4,awayB_5,awayB_6,decide_eq_decide.2 t.1,decide_eq_decide.2 t.2.1,decide_eq_decide.2 t.2.2]
 exact ⟨rfl,rfl,rfl⟩
theorem cmp_three (x y:Int):cmpI x y = -1 ∨ cmpI x y = 0 ∨ cmpI x y = 1:=by unfold cmpI;split;exact .inl rfl;split;exact .inr (.inr rfl);exact .inr (.inl rfl)
theorem round_lt18 {r:QI} (h:okQ r = true) (m:Int):(roundN r.1.1 (topN r) (denQ r) m:Int) < bp 18:=by
 have p:=parts_of h
 have hn:=p.nlt
 have hd:=denQ_pos h
 have c:=roundN_cases r.1.1 (topN r) (denQ r) m
 have b1:bp 1 = 1000000000:=rfl
 have b18:bp 1 ≤ bp 18:=bp_mono (by omega)
 by_cases h1:denQ r = 1
 ·rw [h1] at c ⊢
  rw [Nat.mod_one,Nat.div_one] at c
  omega
 ·have h2:topN r / denQ r ≤ topN r / 2:=Nat.div_le_div_left (by omega) (by omega)
  have h3:=roundN_le r.1.1 (topN r) (denQ r) m
  omega
theorem rest_parts {r:QI} (h:okQ r = true) (m:Int):(makeQ (roundS r m) (ofZ 1)).2 = true∧(subQ r (makeQ (roundS r m) (ofZ 1)).1).2 = true:=by
 have p:=parts_of h
 have okx:=roundS_ok r m
 have h18:=round_lt18 h m
 have hv:=roundS_val p m
 have hab:((valS (roundS r m)).natAbs:Int) < bp 18:=by
  have:(valS (roundS r m)).natAbs = roundN r.1.1 (topN r) (denQ r) m:=by rw [hv];split <;> omega
  omega
 obtain ⟨b1,b2,b3⟩:=int_bd okx (m:=18) (by omega) (by omega) hab
 refine ⟨b1,?_⟩
 obtain ⟨e,e1,e2,e3,_,_⟩:=round_val h m
 generalize roundS r m = X at *
 generalize (makeQ X (ofZ 1)).1 = Y at *
 have py:=b2.pos
 have pr:(0:Int) < denQ r:=by have:=denQ_pos h;omega
 have hY:numQ Y = valS X * denQ Y:=by
  have n1:=rat_ne py
  unfold ratV at b3
  have:(numQ Y:Rat) = ((valS X:Int):Rat) * ((denQ Y:Int):Rat):=by grind
  exact_mod_cast this
 obtain ⟨n1,n2,n3⟩:=neg_bd b2
 have en:=negQ_is b2.ok
 have hN:numQ (negQ Y).1 = - numQ Y:=by rw [en];exact negS_val (okQ_parts b2.ok).1
 have hD:denQ (negQ Y).1 = denQ Y:=by rw [en];rfl
 have h1:denQ Y = 1:=by
  have hg:Nat.gcd (topN Y) (denQ Y) = 1:=(okQ_parts b2.ok).2.2.2.2.2
  have ht:topN Y = (valS X).natAbs * denQ Y:=by rw [abs_top b2.ok,hY,Int.natAbs_mul,Int.natAbs_natCast]
  rw [ht,Nat.gcd_mul_left_left] at hg
  exact hg
 have es:subQ r Y = lowQ (decide (numQ r * denQ (negQ Y).1+numQ (negQ Y).1 * denQ r < 0)) (numQ r * denQ (negQ Y).1+numQ (negQ Y).1 * denQ r).natAbs (denQ r * denQ (negQ Y).1):=by
  unfold subQ
  rw [if_pos n1]
  unfold addQ
  rw [if_pos ⟨h,n2.ok⟩]
 rw [es,hN,hD,hY,h1]
 have hnum:(numQ r * ((1:Nat):Int)+-(valS X * ((1:Nat):Int)) * denQ r).natAbs < denQ r:=by
  have:numQ r * ((1:Nat):Int)+-(valS X * ((1:Nat):Int)) * denQ r = -e:=by
   have:-(valS X * ((1:Nat):Int)) * (denQ r:Int) = -(valS X * (denQ r:Int)):=by rw [Int.natCast_one,Int.mul_one,Int.neg_mul]
   rw [this,e1]
   omega
  rw [this]
  omega
 exact (low_is _ _ _ (by omega) (by have:=p.dlt;omega) (by rw [Nat.mul_one];exact p.dlt)).1
theorem rest_all {r:QI} {m:Int} (h:okQ r = true) (hm:modeB m = true):roundR r m = (roundS r m,true)∧restB r m = true∧restS r m = roundS r m∧restQ r m = (subQ r (makeQ (roundS r m) (ofZ 1)).1).1:=by
 have e:roundR r m = (roundS r m,true):=by unfold roundR;rw [if_pos ⟨h,hm⟩]
 have b:=rest_parts h m
 have eb:restB r m = true:=by unfold restB;rw [e];simp only;rw [b.1,b.2];rfl
 refine ⟨e,eb,?_,?_⟩
 ·unfold restS;rw [if_pos eb,e]
 ·unfold restQ;rw [if_pos eb,e]
theorem rest_none {r:QI} {m:Int} (h:¬ (okQ r = true∧modeB m = true)):roundR r m = (zeroS,false)∧restB r m = false∧restS r m = zeroS∧restQ r m = zeroQ:=by
 have e:roundR r m = (zeroS,false):=by unfold roundR;rw [if_neg h]
 have eb:restB r m = false:=by unfold restB;rw [e];rfl
 refine ⟨e,eb,?_,?_⟩
 ·unfold restS;rw [if_neg (by rw [eb];decide)]
 ·unfold restQ;rw [if_neg (by rw [eb];decide)]
theorem makeQ_szQ (x y:SI):szQ (makeQ x y).1 ≤ 1048576:=by unfold makeQ;split;exact lowQ_sz _ _ _;decide
theorem postSb_is {q:SI × Bool} {X:SI} {b:Bool} (e:q = (X,b)) {w w':World} {n:Ending} (h:PostSb q.1 q.2 w n w'):PostSb X b w n w':=by rw [e] at h;exact h
theorem postQb_is {q:QI × Bool} {X:QI} {b:Bool} (e:q = (X,b)) {w w':World} {n:Ending} (h:PostQb q.1 q.2 w n w'):PostQb X b w n w':=by rw [e] at h;exact h
theorem newSQb_zero {w W:World} (hW:Below w.heap.size w W):PostSQb zeroS zeroQ false w (.returned (.tuple #[.agg #[.bool false,.slice none 0 0],.agg #[.bool false,.slice none 0 0,.slice none 0 0],.bool false])) W :=
 ⟨_,_,[],[],rfl,⟨ownS_zero _,fun _ hg=>absurd hg List.not_mem_nil,fun w' _=>ownS_zero w'⟩,⟨ownQ_zero _,fun _ hg=>absurd hg List.not_mem_nil,fun w' _=>ownQ_zero w'⟩,fun _ hg=>absurd hg List.not_mem_nil,fun _ hg=>absurd hg List.not_mem_nil,fun _ hg=>absurd hg List.not_mem_nil,hW⟩
theorem newSQb_at {r p B C:Nat} {S T:List Nat} {c0 c1 d0 d1 d2:Value} {x:SI} {y:QI} {b:Bool} {w W:World} (o:At S (OwnS (.agg #[c0,c1]) x) W) (q:At T (OwnQ (.agg #[d0,d1,d2]) y) W)
 (l:Within S B W.heap.size) (k:Within T C W.heap.size) (hap:∀ g ∈ S,g ∉ T) (hB:p < B) (hC:p < C) (hrp:r < p) (hr:w.heap.size ≤ r) (hp:w.heap.size ≤ p) (hW:Below w.heap.size w W) :
 ∀ W',Chg [r,p] W W'→PostSQb x y b w (.returned (.tuple #[.agg #[c0,c1],.agg #[d0,d1,d2],.bool b])) W':=by
 intro W' hc
 have hz:=hc.size
 refine ⟨_,_,S,T,rfl,o.chg hc (fun i hi hm=>?_),q.chg hc (fun i hi hm=>?_),hap,fun i hi=>?_,fun i hi=>?_,below_chg hW hc hW.size (fun i hi=>?_)⟩
 ·have:=l i hi;simp at hm;omega
 ·have:=k i hi;simp at hm;omega
 ·have:=l i hi;omega
 ·have:=k i hi;omega
 ·simp at hi;omega
def rmB (cu:ByteArray) (r:QI) (m:Int):Bool:=restB r m && okM (cu,restS r m)
def rmM (cu:ByteArray) (r:QI) (m:Int):MI:=if rmB cu r m = true then (cu,restS r m) else zeroM
def rmQ (cu:ByteArray) (r:QI) (m:Int):QI:=if rmB cu r m = true then restQ r m else zeroQ
theorem rm_good {cu:ByteArray} {r:QI} {m:Int} (h1:restB r m = true) (h2:(makeM cu (restS r m)).2 = true):rmM cu r m = (makeM cu (restS r m)).1∧rmQ cu r m = restQ r m∧rmB cu r m = true:=by
 unfold makeM at h2 ⊢
 split at h2
 ·rename_i hk
  have hb:rmB cu r m = true:=by unfold rmB;rw [h1,hk];rfl
  unfold rmM rmQ
  rw [if_pos hb,if_pos hb,if_pos hk]
  exact ⟨rfl,rfl,hb⟩
 ·cases h2
theorem rm_bad {cu:ByteArray} {r:QI} {m:Int} (h:restB r m = false ∨ (makeM cu (restS r m)).2 = false):rmM cu r m = zeroM∧rmQ cu r m = zeroQ∧rmB cu r m = false:=by
 have hb:rmB cu r m = false:=by
  unfold rmB
  rcases h with h | h
  ·rw [h];rfl
  ·unfold makeM at h
   split at h
   ·cases h
   ·rename_i hk
    rw [show okM (cu,restS r m) = false by simpa using hk,Bool.and_false]
 unfold rmM rmQ
 rw [hb]
 exact ⟨rfl,rfl,rfl⟩
theorem rm_sz (cu:ByteArray) (r:QI) (m:Int) (hq:szQ (restQ r m) ≤ 1048576):szM (rmM cu r m) ≤ 1048576∧szQ (rmQ cu r m) ≤ 1048576:=by
 unfold rmM rmQ
 by_cases h:rmB cu r m = true
 ·rw [if_pos h,if_pos h]
  refine ⟨?_,hq⟩
  have hk:okM (cu,restS r m) = true:=by
   unfold rmB at h
   rw [Bool.and_eq_true] at h
   exact h.2
  have h4:=(okM_parts hk).2.2
  have h3:=okM_size hk
  dsimp only at h3 h4
  unfold szM szS szI
  dsimp only
  omega
 ·rw [if_neg h,if_neg h]
  exact ⟨by decide,by decide⟩
theorem restS_len (r:QI) (m:Int):(restS r m).2.length ≤ 1048576:=by
 have h:szS (restS r m) ≤ 1048576:=by unfold restS;split;exact roundR_sz r m;decide
 unfold szS szI at h
 omega
theorem postSQb_isM {x x':SI} {y y':QI} {b b':Bool} (e1:x = x') (e2:y = y') (e3:b = b') {w w':World} {e:Ending} (h:PostSQb x y b w e w'):PostSQb x' y' b' w e w':=by subst e1 e2 e3;exact h
def PostMQb (R0:MI) (R1:QI) (R2:Bool) (w:World) (e:Ending) (w':World):Prop :=
 ∃ (v u:Value) (S T:List Nat),e = .returned (.tuple #[v,u,.bool R2])∧At S (OwnM v R0) w'∧At T (OwnQ u R1) w'∧(∀ g ∈ S,g ∉ T)∧Within S w.heap.size w'.heap.size∧Within T w.heap.size w'.heap.size∧Below w.heap.size w w'
theorem newMQb_zero {w W:World} (hW:Below w.heap.size w W):PostMQb zeroM zeroQ false w (.returned (.tuple #[.agg #[.string ⟨#[]⟩,.bool false,.slice none 0 0],.agg #[.bool false,.slice none 0 0,.slice none 0 0],.bool false])) W :=
 ⟨_,_,[],[],rfl,atM_zero _,⟨⟨_,_,rfl,World.ownsRow_nil _ _ _ _,World.ownsRow_nil _ _ _ _,fun g hg=>by cases hg⟩,fun _ hg=>absurd hg List.not_mem_nil,fun w' _=>⟨_,_,rfl,World.ownsRow_nil _ _ _ _,World.ownsRow_nil _ _ _ _,fun g hg=>by cases hg⟩⟩,fun _ hg=>absurd hg List.not_mem_nil,fun _ hg=>absurd hg List.not_mem_nil,fun _ hg=>absurd hg List.not_mem_nil,hW⟩
theorem newMQb_at {r p B C:Nat} {S T:List Nat} {c0 c1 c2 d0 d1 d2:Value} {x:MI} {y:QI} {b:Bool} {w W:World} (o:At S (OwnM (.agg #[c0,c1,c2]) x) W) (q:At T (OwnQ (.agg #[d0,d1,d2]) y) W)
 (l:Within S B W.heap.size) (k:Within T C W.heap.size) (hap:∀ g ∈ S,g ∉ T) (hB:p < B) (hC:p < C) (hrp:r < p) (hr:w.heap.size ≤ r) (hp:w.heap.size ≤ p) (hW:Below w.heap.size w W) :
 ∀ W',Chg [r,p] W W'→PostMQb x y b w (.returned (.tuple #[.agg #[c0,c1,c2],.agg #[d0,d1,d2],.bool b])) W':=by
 intro W' hc
 have hz:=hc.size
 refine ⟨_,_,S,T,rfl,o.chg hc (fun i hi hm=>?_),q.chg hc (fun i hi hm=>?_),hap,fun i hi=>?_,fun i hi=>?_,below_chg hW hc hW.size (fun i hi=>?_)⟩
 ·have:=l i hi;simp at hm;omega
 ·have:=k i hi;simp at hm;omega
 ·have:=l i hi;omega
 ·have:=k i hi;omega
 ·simp at hi;omega
def RowCells (W:World) (g k:Nat) (r:CR):Prop:=W.cell? ⟨g,k * 4,none⟩ = some (.string r.1)∧W.cell? ⟨g,k * 4+1,none⟩ = some (.string r.2.1)∧W.cell? ⟨g,k * 4+2,none⟩ = some (.int .i64 r.2.2.1)∧W.cell? ⟨g,k * 4+3,none⟩ = some (.int .i64 r.2.2.2)
theorem rowCells_of {W:World} {g:Nat} {l:List CR} (h:W.rangeAt g 0 (cellsT l)) {k:Nat} (hk:k < l.length):RowCells W g k l[k]:=by
 have f:∀ j (hj:j < 4) v,(cellsC l[k])[j]? = some v→W.cell? ⟨g,k * 4+j,none⟩ = some v:=fun j hj v hv=>by
  have:=h (k * 4+j) v (by rw [cellsT_get l k j hk hj];exact hv)
  rwa [Nat.zero_add] at this
 exact ⟨f 0 (by decide) _ rfl,f 1 (by decide) _ rfl,f 2 (by decide) _ rfl,f 3 (by decide) _ rfl⟩
theorem range_new (w:World) (l:List Value) (T:TypeId):(w.alloc (.cells l.toArray T)).rangeAt w.heap.size 0 l:=by
 intro j v hv
 have hb:(w.alloc (.cells l.toArray T)).heap[w.heap.size]? = some (.cells l.toArray T (0,0)):=Array.getElem?_push_size
 rw [Nat.zero_add]
 unfold World.cell?
 simp only [hb]
 simpa using hv
theorem range_below {w W:World} {g:Nat} {l:List Value} (h:w.rangeAt g 0 l) (hg:g < w.heap.size) (hb:Below w.heap.size w W):W.rangeAt g 0 l:=fun j v hv=>(hb.cell hg).trans (h j v hv)
def TabPost (w:World) (e:Ending) (w':World):Prop:=e = .returned (.slice (some ⟨w.heap.size,0,none⟩) 20 20)∧w' = w.alloc (.cells (cellsT specT).toArray 104)
set_option maxHeartbeats 1000000 in
theorem l08Table_any (w:World):Calls Tryz.prog 78 #[] w (TabPost w):=by
 go_enter Tryz.func78,Tryz.ntmps78
 go_wp2
 go_ret
 exact ⟨rfl,rfl⟩
def RowPost (r:CR) (w:World) (e:Ending) (w':World):Prop:=e = .returned (.agg #[.string r.1,.string r.2.1,.int .i64 r.2.2.1,.int .i64 r.2.2.2])∧Below w.heap.size w w'
theorem below_set4 {W0 W:World} {g:Nat} {a b c d:Value} (h:Below W0.heap.size W0 W) (hg:W0.heap.size ≤ g):Below W0.heap.size W0 ((((W.setCell ⟨g,0,none⟩ a).setCell ⟨g,1,none⟩ b).setCell ⟨g,2,none⟩ c).setCell ⟨g,3,none⟩ d) :=
 (((h.setCell (p:=⟨g,0,none⟩) hg _).setCell (p:=⟨g,1,none⟩) hg _).setCell (p:=⟨g,2,none⟩) hg _).setCell (p:=⟨g,3,none⟩) hg _
set_option maxHeartbeats 1000000 in
theorem l08Find_any (n:ByteArray) (w:World):Calls Tryz.prog 55 #[.string n] w (RowPost (rowOf specT n) w):=by
 have kr:=box_new w #[.string ⟨#[]⟩,.string ⟨#[]⟩,.int .i64 0,.int .i64 0] 104
 have b0:=below_al (Below.refl w.heap.size w) (.cells #[.string ⟨#[]⟩,.string ⟨#[]⟩,.int .i64 0,.int .i64 0] 104)
 obtain ⟨W0,hW0⟩:∃ W0,W0 = w.alloc (.cells #[.string ⟨#[]⟩,.string ⟨#[]⟩,.int .i64 0,.int .i64 0] 104):=⟨_,rfl⟩
 rw [← hW0] at kr b0
 have HW:=Lib.hid hW0
 clear hW0
 go_enter Tryz.func55,Tryz.ntmps55
 go_wp2_with fail
 rw [← HW.out]
 refine (l08Table_any _).mono ?_
 rintro e w1 ⟨rfl,hw1⟩
 have b1:Below W0.heap.size W0 w1:=by rw [hw1];exact (Below.refl _ _).alloc (Nat.le_refl _) _
 have hr1:w1.rangeAt W0.heap.size 0 (cellsT specT):=by rw [hw1];exact range_new _ _ _
 have hg1:W0.heap.size < w1.heap.size:=by rw [hw1];simp
 have HR:=Lib.hid (show ∀ W,Below w1.heap.size w1 W→∀ k (hk:k < 20),RowCells W W0.heap.size k (specT[k]'hk) from fun W hb k hk=>rowCells_of (range_below hr1 hg1 hb) hk)
 have HK:=Lib.hid (kr.below b1)
 have B1:=Lib.hid (Below.next b0 b1)
 generalize W0.heap.size = g at HR hg1
 clear hw1 hr1 b1 kr b0 HW
 go_wp2
 go_loopw [7] (fun i wr=>∃ k:Nat,k ≤ 20∧i = .int .i64 k∧Hid (∀ r ∈ specT.take k,¬ r.1 = n)∧Below w1.heap.size w1 wr) (fun i _=>20 - (intOf i).toNat)
 case atStart=>exact ⟨0,Nat.zero_le _,rfl,Lib.hid (fun r hr=>absurd hr (by simp)),Below.refl _ _⟩
 case round =>
  obtain ⟨k,hk,rfl,hp,hb⟩:=hrel
  by_cases hlt:k < 20
  ·have hix:=HR.out wr hb k hlt
   have HM:=Lib.hid (show specT[k] ∈ specT from List.getElem_mem _)
   have HN:=Lib.hid (fun h=>take_next hp.out (show k < specT.length from hlt) h)
   generalize specT[k] = r at hix HM HN
   obtain ⟨c,m,p,q⟩:=r
   obtain ⟨x0,x1,x2,x3⟩:=hix
   dsimp only at x0 x1 x2 x3
   have hal:=below_al (Below.refl wr.heap.size wr) (.cells #[.string c,.string m,.int .i64 p,.int .i64 q] 104)
   by_cases he:c = n
   ·subst he
    have hA:=Lib.hid (rowOf_mem specT_codes HM.out)
    have ko:=(HK.out.below hb).below hal
    have HB:=Lib.hid (Below.next (Below.next B1.out hb) hal)
    have co0:=ko.here.cell 0 _ rfl
    have co1:=ko.here.cell 1 _ rfl
    have co2:=ko.here.cell 2 _ rfl
    have co3:=ko.here.cell 3 _ rfl
    have fo0:=Lib.frozen_of_heap ko.here 0
    have fo1:=Lib.frozen_of_heap ko.here 1
    have fo2:=Lib.frozen_of_heap ko.here 2
    have fo3:=Lib.frozen_of_heap ko.here 3
    clear HM HN hp ko hal
    go_wp2
    refine bodyPost_ret (v:=.agg #[.string c,.string m,.int .i64 p,.int .i64 q]) (by simp [results,Tryz.results55,go_sem,co0,co1,co2,co3]) rfl ?_
    unfold RowPost
    rw [hA.out]
    exact ⟨rfl,below_set4 HB.out (Nat.le_refl _)⟩
   ·have HN2:=Lib.hid (HN.out he)
    clear HM HN hp hal
    have hne:=bytes_neC he
    go_wp2
    exact ⟨⟨k+1,by omega,by go_num,HN2,hb.alloc (by have:=hb.size;omega) _⟩,by simp [intOf];omega⟩
  ·obtain rfl:k = 20:=by omega
   have hA:=Lib.hid (rowOf_none (l:=specT) (n:=n) (by rw [← List.take_of_length_le (l:=specT) (i:=20) (by decide)];exact hp.out))
   have ko:=HK.out.below hb
   have HB:=Lib.hid (Below.next B1.out hb)
   have co0:=ko.here.cell 0 _ rfl
   have co1:=ko.here.cell 1 _ rfl
   have co2:=ko.here.cell 2 _ rfl
   have co3:=ko.here.cell 3 _ rfl
   have fo0:=Lib.frozen_of_heap ko.here 0
   have fo1:=Lib.frozen_of_heap ko.here 1
   have fo2:=Lib.frozen_of_heap ko.here 2
   have fo3:=Lib.frozen_of_heap ko.here 3
   clear hp ko
   go_wp2
   refine bodyPost_ret (v:=.agg #[.string ⟨#[]⟩,.string ⟨#[]⟩,.int .i64 0,.int .i64 0]) (by simp [results,Tryz.results55,go_sem,co0,co1,co2,co3]) rfl ?_
   unfold RowPost
   rw [hA.out]
   first | exact ⟨rfl,HB.out⟩ | exact ⟨rfl,below_set4 HB.out (Nat.le_refl _)⟩
theorem field_row0 (c m:ByteArray) (p q:Int) (W:World):(Instr.field 104 (.agg #[.string c,.string m,.int .i64 p,.int .i64 q]) 0).run Tryz.prog W = .ok (.string c) W:=by kernel_rfl
theorem field_row2 (c m:ByteArray) (p q:Int) (W:World):(Instr.field 104 (.agg #[.string c,.string m,.int .i64 p,.int .i64 q]) 2).run Tryz.prog W = .ok (.int .i64 p) W:=by kernel_rfl
theorem empty_list:(⟨#[]⟩:ByteArray).toList = []:=by rw [ByteArray.toList_eq]
theorem known_neq (n:ByteArray):((rowOf specT n).1.toList == ([]:List UInt8)) = !knownC n:=by
 rw [← known_ne n]
 by_cases h:(rowOf specT n).1 = ⟨#[]⟩
 ·rw [h,empty_list];rfl
 ·have h2:=bytes_neC h
  rw [empty_list] at h2
  rw [h2,decide_eq_true h]
  rfl
set_option maxHeartbeats 400000 in
theorem specCurKnown_any (n:ByteArray) (w:World):Calls Tryz.prog 38 #[.string n] w (Postb (knownC n) w):=by
 go_enter Tryz.func38,Tryz.ntmps38
 go_wp2_with fail
 refine (l08Find_any n _).mono ?_
 rintro e w1 ⟨rfl,b1⟩
 have hk:=known_neq n
 generalize rowOf specT n = r at *
 obtain ⟨c,m,p,q⟩:=r
 dsimp only at hk ⊢
 have hk2:(c.toList != ([]:List UInt8)) = knownC n:=by rw [bne,hk,Bool.not_not]
 generalize knownC n = b at *
 have hf:=field_row0 c m p q
 go_wp2
 go_ret
 exact ⟨rfl,b1⟩
set_option maxHeartbeats 400000 in
theorem specCurPlaces_any (n:ByteArray) (w:World):Calls Tryz.prog 84 #[.string n] w fun e w'=>e = .returned (.int .i64 (placesC n))∧Below w.heap.size w w':=by
 go_enter Tryz.func84,Tryz.ntmps84
 go_wp2_with fail
 refine (l08Find_any n _).mono ?_
 rintro e w1 ⟨rfl,b1⟩
 have hf:=field_row2 (rowOf specT n).1 (rowOf specT n).2.1 (rowOf specT n).2.2.1 (rowOf specT n).2.2.2
 go_wp2
 go_ret
 exact ⟨rfl,b1⟩
def KeptM (S:List Nat) (R0:MI) (R1:Bool) (w:World) (e:Ending) (w':World):Prop :=
 ∃ (v:Value) (T:List Nat),e = .returned (.tuple #[v,.bool R1])∧At T (OwnM v R0) w'∧(∀ i ∈ T,i ∈ S)∧Below w.heap.size w w'
theorem keptM_at {r:Nat} {S:List Nat} {c0 c1 c2:Value} {x:MI} {b:Bool} {w W:World} (o:At S (OwnM (.agg #[c0,c1,c2]) x) W) (hS:∀ i ∈ S,i < w.heap.size) (hr:w.heap.size ≤ r) (hW:Below w.heap.size w W) :
 KeptM S x b w (.returned (.tuple #[.agg #[c0,c1,c2],.bool b])) (((W.setCell ⟨r,0,none⟩ c0).setCell ⟨r,1,none⟩ c1).setCell ⟨r,2,none⟩ c2) :=
 ⟨_,S,rfl,o.chg chg_set3M (fun i hi hm=>by have:=hS i hi;simp at hm;omega),fun i hi=>hi,below_set3 hW hr⟩
theorem keptM_zero {S:List Nat} {w W:World} (hW:Below w.heap.size w W):KeptM S zeroM false w (.returned (.tuple #[.agg #[.string ⟨#[]⟩,.bool false,.slice none 0 0],.bool false])) W :=
 ⟨_,[],rfl,atM_zero _,fun _ hi=>absurd hi List.not_mem_nil,hW⟩
theorem keptM_eq {S:List Nat} {q p:MI × Bool} (e:q = p) {w w':World} {n:Ending} (h:KeptM S q.1 q.2 w n w'):KeptM S p.1 p.2 w n w':=e ▸ h
set_option maxHeartbeats 1000000 in
theorem specMoneyOk_any (vm:Value) (m:MI) (w:World) (hl:m.2.2.length ≤ 1048576) (hm:OwnM vm m w) :
 Calls Tryz.prog 20 #[vm] w (Postb (okM m) w):=by
 have Hm:=Lib.hid hm
 obtain ⟨Am,cm,rfl⟩:=ownM_form hm
 have OMm:=Lib.hid (show ∀ W,Below w.heap.size w W→OwnM (.agg #[.string m.1,.bool m.2.1,.slice Am m.2.2.length cm]) m W from fun W hb=>OwnM.below Hm.out hb)
 have OIm:=Lib.hid (show ∀ W,Below w.heap.size w W→OwnI (.slice Am m.2.2.length cm) m.2.2 W from fun W hb=>ownM_open (OMm.out W hb))
 have OSm:=Lib.hid (show ∀ W,Below w.heap.size w W→OwnS (.agg #[.bool m.2.1,.slice Am m.2.2.length cm]) m.2 W from fun W hb=>OwnS.mk (OIm.out W hb))
 clear hm
 have bb0:Below w.heap.size w (w.alloc (.cells #[.string m.1,.bool m.2.1,.slice Am m.2.2.length cm] 34)):=below_al (Below.refl _ _) _
 have km:=(box_new w #[.string m.1,.bool m.2.1,.slice Am m.2.2.length cm] 34)
 go_enter Tryz.func20,Tryz.ntmps20
 have km_c0:=km.here.cell 0 _ rfl
 have km_c1:=km.here.cell 1 _ rfl
 have km_c2:=km.here.cell 2 _ rfl
 go_wp2_with fail
 clear km_c0 km_c1 km_c2
 refine (specCurKnown_any m.1 _).mono ?_
 rintro e w1 ⟨rfl,b1⟩
 have bb1:=Below.next bb0 b1
 replace km:=km.below b1
 by_cases ok0:knownC m.1 = true
 ·rw [ok0]
  have HO0:=Lib.hid ok0
  clear ok0
  have km_c0:=km.here.cell 0 _ rfl
  have km_c1:=km.here.cell 1 _ rfl
  have km_c2:=km.here.cell 2 _ rfl
  go_wp2_with fail
  clear km_c0 km_c1 km_c2
  refine (specIntOk_any _ m.2 _ hl (OwnS.rd (OSm.out _ bb1))).mono ?_
  rintro e w2 ⟨rfl,b2⟩
  have bb2:=Below.next bb1 b2
  replace km:=km.below b2
  by_cases ok1:okS m.2 = true
  ·rw [ok1]
   have HO1:=Lib.hid ok1
   clear ok1
   have HV:=Lib.hid (show okM m = decide ((m.2.2.length:Int) ≤ 4) by unfold okM;rw [HO0.out,HO1.out,Bool.true_and,Bool.true_and,decide_eq_decide];omega)
   have km_c0:=km.here.cell 0 _ rfl
   have km_c1:=km.here.cell 1 _ rfl
   have km_c2:=km.here.cell 2 _ rfl
   clear hl
   go_wp2
   go_ret
   exact ⟨ret_bool HV.out.symm,bb2⟩
  ·have ok1':okS m.2 = false:=by simpa using ok1
   have HV:=Lib.hid (show okM m = false by unfold okM;rw [ok1',Bool.and_false,Bool.false_and])
   rw [ok1']
   clear ok1 ok1'
   go_wp2
   go_ret
   exact ⟨ret_bool HV.out.symm,bb2⟩
 ·have ok0':knownC m.1 = false:=by simpa using ok0
  have HV:=Lib.hid (show okM m = false by unfold okM;rw [ok0',Bool.false_and,Bool.false_and])
  rw [ok0']
  clear ok0 ok0'
  go_wp2
  go_ret
  exact ⟨ret_bool HV.out.symm,bb1⟩
set_option maxHeartbeats 1000000 in
theorem l09Make_any (cu:ByteArray) (vx:Value) (x:SI) (S:List Nat) (w:World) (hl:x.2.length ≤ 1048576) (hx:At S (OwnS vx x) w) :
 Calls Tryz.prog 47 #[.string cu,vx] w (KeptM S (makeM cu x).1 (makeM cu x).2 w):=by
 obtain ⟨Ax,cx,rfl⟩:=ownS_form hx.here
 have OX:=Lib.hid (show ∀ W,Below w.heap.size w W→At S (OwnM (.agg #[.string cu,.bool x.1,.slice Ax x.2.length cx]) (cu,x)) W from fun W hb=>(hx.below hb).imp fun _ h=>OwnM.mk (q:=(cu,x)) (ownS_openM h))
 have HLT:=Lib.hid hx.lt
 clear hx
 have bb0:Below w.heap.size w ((w.alloc (.cells #[.bool x.1,.slice Ax x.2.length cx] 32)).alloc (.cells #[.string ⟨#[]⟩,.bool false,.slice none 0 0] 34)):=below_al (below_al (Below.refl _ _) _) _
 have kx:=(box_new w #[.bool x.1,.slice Ax x.2.length cx] 32).below (below_al (Below.refl _ _) (.cells #[.string ⟨#[]⟩,.bool false,.slice none 0 0] 34))
 have ko:=(box_new (w.alloc (.cells #[.bool x.1,.slice Ax x.2.length cx] 32)) #[.string ⟨#[]⟩,.bool false,.slice none 0 0] 34)
 rw [show (w.alloc (.cells #[.bool x.1,.slice Ax x.2.length cx] 32)).heap.size = w.heap.size+1 by simp] at ko
 have kd:=box_new (((w.alloc (.cells #[.bool x.1,.slice Ax x.2.length cx] 32)).alloc (.cells #[.string ⟨#[]⟩,.bool false,.slice none 0 0] 34))) #[.string cu,.bool x.1,.slice Ax x.2.length cx] 34
 have ald:=below_al (Below.refl (((w.alloc (.cells #[.bool x.1,.slice Ax x.2.length cx] 32)).alloc (.cells #[.string ⟨#[]⟩,.bool false,.slice none 0 0] 34))).heap.size (((w.alloc (.cells #[.bool x.1,.slice Ax x.2.length cx] 32)).alloc (.cells #[.string ⟨#[]⟩,.bool false,.slice none 0 0] 34)))) (.cells #[.string cu,.bool x.1,.slice Ax x.2.length cx] 34)
 have bbd:=Below.next bb0 ald
 replace kx:=kx.below ald
 replace ko:=ko.below ald
 rw [show ((w.alloc (.cells #[.bool x.1,.slice Ax x.2.length cx] 32)).alloc (.cells #[.string ⟨#[]⟩,.bool false,.slice none 0 0] 34)).heap.size = w.heap.size+1+1 by simp] at kd
 go_enter Tryz.func47,Tryz.ntmps47
 have kx_c0:=kx.here.cell 0 _ rfl
 have kx_c1:=kx.here.cell 1 _ rfl
 have kd_c0:=kd.here.cell 0 _ rfl
 have kd_c1:=kd.here.cell 1 _ rfl
 have kd_c2:=kd.here.cell 2 _ rfl
 go_wp2_with fail
 clear kx_c0 kx_c1 kd_c0 kd_c1 kd_c2
 refine (specMoneyOk_any _ (cu,x) _ hl (OX.out _ bbd).here).mono ?_
 rintro e w1 ⟨rfl,b1⟩
 have bb1:=Below.next bbd b1
 replace kx:=kx.below b1
 replace ko:=ko.below b1
 replace kd:=kd.below b1
 by_cases ok:okM (cu,x) = true
 ·rw [ok]
  have HV:=Lib.hid (show makeM cu x = ((cu,x),true) by unfold makeM;rw [if_pos ok])
  clear ok kx
  have HW:=Lib.hid (keptM_at (r:=w.heap.size+1) (b:=true) (OX.out _ bb1) HLT.out (by omega) bb1)
  have kd_c0:=kd.here.cell 0 _ rfl
  have kd_c1:=kd.here.cell 1 _ rfl
  have kd_c2:=kd.here.cell 2 _ rfl
  have cz0:=ko.here.cell 0 _ rfl
  have fz0:=Lib.frozen_of_heap ko.here 0
  have cz1:=ko.here.cell 1 _ rfl
  have fz1:=Lib.frozen_of_heap ko.here 1
  have cz2:=ko.here.cell 2 _ rfl
  have fz2:=Lib.frozen_of_heap ko.here 2
  clear kd ko
  go_wp2
  refine bodyPost_ret (v:=.tuple #[.agg #[.string cu,.bool x.1,.slice Ax x.2.length cx],.bool true]) (by simp [results,Tryz.results47,go_sem,cz0,cz1,cz2]) rfl ?_
  rw [HV.out]
  exact HW.out
 ·have ok':okM (cu,x) = false:=by simpa using ok
  have HV:=Lib.hid (show makeM cu x = (zeroM,false) by unfold makeM;rw [if_neg ok])
  rw [ok']
  clear ok ok' kx kd
  have cz0:=ko.here.cell 0 _ rfl
  have fz0:=Lib.frozen_of_heap ko.here 0
  have cz1:=ko.here.cell 1 _ rfl
  have fz1:=Lib.frozen_of_heap ko.here 1
  have cz2:=ko.here.cell 2 _ rfl
  have fz2:=Lib.frozen_of_heap ko.here 2
  go_wp2
  refine bodyPost_ret (v:=.tuple #[.agg #[.string ⟨#[]⟩,.bool false,.slice none 0 0],.bool false]) (by simp [results,Tryz.results47,go_sem,cz0,cz1,cz2]) rfl ?_
  rw [HV.out]
  first | exact keptM_zero bb1 | exact keptM_zero (below_set3 bb1 (by omega))
theorem ownS_open {u c:Value} {x:SI} {w:World} (h:OwnS (.agg #[c,u]) x w):OwnI u x.2 w:=by
 obtain ⟨u',e,hu⟩:=h
 injection e with e
 simp at e
 obtain ⟨_,e2⟩:=e
 subst e2
 exact hu
theorem OwnS.below {w W:World} {v:Value} {x:SI} (h:OwnS v x w) (hb:Below w.heap.size w W):OwnS v x W:=by
 obtain ⟨u,rfl,o⟩:=h
 exact ⟨u,rfl,own_below o hb⟩
theorem one_szS:szS (ofZ 1) ≤ 1048576:=by have:=ofZ_len 1;unfold szS szI;omega
theorem postQb_eq {q Q:QI × Bool} (e:q = Q) {w w':World} {n:Ending} (h:PostQb q.1 q.2 w n w'):PostQb Q.1 Q.2 w n w':=by rw [← e];exact h
theorem postn_eq {z z':Int} (e:z = z') {w w':World} {n:Ending} (h:Postn z w n w'):Postn z' w n w':=by rw [← e];exact h
theorem newQ_ret {r:Nat} {u d c0 c1 c2:Value} {x:QI} {w W:World} {B C:Nat} (hb:BoxAt r #[c0,c1,c2] 36 W) (o:W.ownsRow B 3 1 u x.1.2.length (intsV x.1.2)) (p:W.ownsRow C 3 1 d x.2.length (intsV x.2))
 (hap:∀ g,u.ownBlock = some g→d.ownBlock ≠ some g) (hB:w.heap.size ≤ B) (hC:w.heap.size ≤ C) (hr:w.heap.size ≤ r) (hW:Below w.heap.size w W) :
 NewV (fun v=>OwnQ v x) w (.returned (.agg #[.bool x.1.1,u,d])) (((W.setCell ⟨r,0,none⟩ (.bool x.1.1)).setCell ⟨r,1,none⟩ u).setCell ⟨r,2,none⟩ d):=by
 obtain ⟨v,S,e,k1,k2,k3⟩:=newQb_ret (b:=true) hb o p hap hB hC hr hW
 refine ⟨v,S,?_,k1,k2,k3⟩
 injection e with e
 injection e with e
 simp at e
 rw [e]
theorem OwnQ.below {w W:World} {v:Value} {x:QI} (h:OwnQ v x w) (hb:Below w.heap.size w W):OwnQ v x W:=by
 obtain ⟨u,d,rfl,o,p,hap⟩:=h
 exact ⟨u,d,rfl,own_below o hb,own_below p hb,hap⟩
set_option maxHeartbeats 2000000 in
theorem specRatMul_any (vr:Value) (vs:Value) (r s:QI) (w:World) (hzr:szQ r ≤ 1048576) (hzs:szQ s ≤ 1048576) (hr:OwnQ vr r w) (hs:OwnQ vs s w) :
 Calls Tryz.prog 44 #[vr,vs] w (PostQb (mulQ r s).1 (mulQ r s).2 w):=by
 have Hr:=Lib.hid hr
 obtain ⟨Ar,cr,Br,dr,rfl⟩:=ownQ_form hr
 have OQr:=Lib.hid (show ∀ W,Below w.heap.size w W→OwnQ (.agg #[.bool r.1.1,.slice Ar r.1.2.length cr,.slice Br r.2.length dr]) r W from fun W hb=>OwnQ.below Hr.out hb)
 have OUr:=Lib.hid (show ∀ W,Below w.heap.size w W→OwnI (.slice Ar r.1.2.length cr) r.1.2 W from fun W hb=>(ownQ_open (OQr.out W hb)).2.1)
 have ODr:=Lib.hid (show ∀ W,Below w.heap.size w W→OwnI (.slice Br r.2.length dr) r.2 W from fun W hb=>(ownQ_open (OQr.out W hb)).2.2.1)
 have OSr:=Lib.hid (show ∀ W,Below w.heap.size w W→OwnS (.agg #[.bool r.1.1,.slice Ar r.1.2.length cr]) r.1 W from fun W hb=>OwnS.mk (OUr.out W hb))
 clear hr
 have Hs:=Lib.hid hs
 obtain ⟨As,cs,Bs,ds,rfl⟩:=ownQ_form hs
 have OQs:=Lib.hid (show ∀ W,Below w.heap.size w W→OwnQ (.agg #[.bool s.1.1,.slice As s.1.2.length cs,.slice Bs s.2.length ds]) s W from fun W hb=>OwnQ.below Hs.out hb)
 have OUs:=Lib.hid (show ∀ W,Below w.heap.size w W→OwnI (.slice As s.1.2.length cs) s.1.2 W from fun W hb=>(ownQ_open (OQs.out W hb)).2.1)
 have ODs:=Lib.hid (show ∀ W,Below w.heap.size w W→OwnI (.slice Bs s.2.length ds) s.2 W from fun W hb=>(ownQ_open (OQs.out W hb)).2.2.1)
 have OSs:=Lib.hid (show ∀ W,Below w.heap.size w W→OwnS (.agg #[.bool s.1.1,.slice As s.1.2.length cs]) s.1 W from fun W hb=>OwnS.mk (OUs.out W hb))
 clear hs
 have hlr:=szQ_len hzr
 have hl1r:=hlr.1
 have hl2r:=hlr.2
 clear hlr
 have hls:=szQ_len hzs
 have hl1s:=hls.1
 have hl2s:=hls.2
 clear hls
 have bb0:Below w.heap.size w (((w.alloc (.cells #[.bool r.1.1,.slice Ar r.1.2.length cr,.slice Br r.2.length dr] 36)).alloc (.cells #[.bool s.1.1,.slice As s.1.2.length cs,.slice Bs s.2.length ds] 36)).alloc (.cells #[.bool false,.slice none 0 0,.slice none 0 0] 36)):=below_al (below_al (below_al (Below.refl _ _) _) _) _
 have kr:=(box_new w #[.bool r.1.1,.slice Ar r.1.2.length cr,.slice Br r.2.length dr] 36).below (below_al (below_al (Below.refl _ _) (.cells #[.bool s.1.1,.slice As s.1.2.length cs,.slice Bs s.2.length ds] 36)) (.cells #[.bool false,.slice none 0 0,.slice none 0 0] 36))
 have ks:=(box_new (w.alloc (.cells #[.bool r.1.1,.slice Ar r.1.2.length cr,.slice Br r.2.length dr] 36)) #[.bool s.1.1,.slice As s.1.2.length cs,.slice Bs s.2.length ds] 36).below (below_al (Below.refl _ _) (.cells #[.bool false,.slice none 0 0,.slice none 0 0] 36))
 rw [show (w.alloc (.cells #[.bool r.1.1,.slice Ar r.1.2.length cr,.slice Br r.2.length dr] 36)).heap.size = w.heap.size+1 by simp] at ks
 have ko:=(box_new ((w.alloc (.cells #[.bool r.1.1,.slice Ar r.1.2.length cr,.slice Br r.2.length dr] 36)).alloc (.cells #[.bool s.1.1,.slice As s.1.2.length cs,.slice Bs s.2.length ds] 36)) #[.bool false,.slice none 0 0,.slice none 0 0] 36)
 rw [show ((w.alloc (.cells #[.bool r.1.1,.slice Ar r.1.2.length cr,.slice Br r.2.length dr] 36)).alloc (.cells #[.bool s.1.1,.slice As s.1.2.length cs,.slice Bs s.2.length ds] 36)).heap.size = w.heap.size+1+1 by simp] at ko
 go_enter Tryz.func44,Tryz.ntmps44
 have kr_c0:=kr.here.cell 0 _ rfl
 have kr_c1:=kr.here.cell 1 _ rfl
 have kr_c2:=kr.here.cell 2 _ rfl
 go_wp2_with fail
 clear kr_c0 kr_c1 kr_c2
 refine (specRatOk_any _ r _ hzr (OQr.out _ bb0)).mono ?_
 rintro e w1 ⟨rfl,b1⟩
 have bb1:=Below.next bb0 b1
 replace kr:=kr.below b1
 replace ks:=ks.below b1
 replace ko:=ko.below b1
 by_cases okr:okQ r = true
 ·rw [okr]
  have HOr:=Lib.hid okr
  clear okr
  have ks_c0:=ks.here.cell 0 _ rfl
  have ks_c1:=ks.here.cell 1 _ rfl
  have ks_c2:=ks.here.cell 2 _ rfl
  go_wp2_with fail
  clear ks_c0 ks_c1 ks_c2
  refine (specRatOk_any _ s _ hzs (OQs.out _ bb1)).mono ?_
  rintro e w2 ⟨rfl,b2⟩
  have bb2:=Below.next bb1 b2
  replace kr:=kr.below b2
  replace ks:=ks.below b2
  replace ko:=ko.below b2
  by_cases oks:okQ s = true
  ·rw [oks]
   have HOs:=Lib.hid oks
   clear oks
   have Pr:=parts_of HOr.out
   have Ps:=parts_of HOs.out
   have HPr:=Lib.hid Pr
   have HPs:=Lib.hid Ps
   have hnr:=Pr.n50
   have hns:=Ps.n50
   have hdr:=Pr.d50
   have hds:=Ps.d50
   have z0:=bb2.size
   have hko:=ko.lt (w.heap.size+1+1) (by simp)
   have H1:=Lib.hid (show (limbs (nval (r.1.2) * nval (s.1.2)).toNat).length ≤ 50 by rw [mul_toNat (okS_parts HPr.out.okn).1 (okS_parts HPs.out.okn).1];exact Nat.le_trans (prod_len HPr.out.nlt HPs.out.nlt) (by decide))
   have H2:=Lib.hid (show (limbs (nval (r.2) * nval (s.2)).toNat).length ≤ 50 by rw [mul_toNat HPr.out.okd HPs.out.okd];exact Nat.le_trans (prod_len HPr.out.dlt HPs.out.dlt) (by decide))
   have HV:=Lib.hid (show mulQ r s = lowQ (!(r.1.1 == s.1.1)) (nval (r.1.2) * nval (s.1.2)).toNat (nval (r.2) * nval (s.2)).toNat by unfold mulQ;rw [if_pos ⟨HOr.out,HOs.out⟩,mul_toNat (okS_parts HPr.out.okn).1 (okS_parts HPs.out.okn).1,mul_toNat HPr.out.okd HPs.out.okd];rfl)
   clear Pr Ps
   have kr_c0:=kr.here.cell 0 _ rfl
   have kr_c1:=kr.here.cell 1 _ rfl
   have kr_c2:=kr.here.cell 2 _ rfl
   have ks_c0:=ks.here.cell 0 _ rfl
   have ks_c1:=ks.here.cell 1 _ rfl
   have ks_c2:=ks.here.cell 2 _ rfl
   go_wp2_with fail
   have HC0:=Lib.hid (show Chg [w.heap.size+1+1] w2 w2.drew from (Chg.refl _ _).drew1)
   have HCr:=Lib.hid (show Chg [w.heap.size+1+1] w2 w2 from Chg.refl _ _)
   have KL:=Lib.hid (show ∀ W,Chg [w.heap.size+1+1] w2 W→W.cell? ⟨w.heap.size,0,none⟩ = some (.bool r.1.1)∧W.cell? ⟨w.heap.size,1,none⟩ = some (.slice Ar r.1.2.length cr)∧W.cell? ⟨w.heap.size,2,none⟩ = some (.slice Br r.2.length dr)∧W.cell? ⟨w.heap.size+1,0,none⟩ = some (.bool s.1.1)∧W.cell? ⟨w.heap.size+1,1,none⟩ = some (.slice As s.1.2.length cs)∧W.cell? ⟨w.heap.size+1,2,none⟩ = some (.slice Bs s.2.length ds)∧Hid (Chg [w.heap.size+1+1] w2 W) from fun W hc=>⟨(kr.chg hc (fun i hi hm=>by simp at hi hm;omega)).here.cell 0 _ rfl,(kr.chg hc (fun i hi hm=>by simp at hi hm;omega)).here.cell 1 _ rfl,(kr.chg hc (fun i hi hm=>by simp at hi hm;omega)).here.cell 2 _ rfl,(ks.chg hc (fun i hi hm=>by simp at hi hm;omega)).here.cell 0 _ rfl,(ks.chg hc (fun i hi hm=>by simp at hi hm;omega)).here.cell 1 _ rfl,(ks.chg hc (fun i hi hm=>by simp at hi hm;omega)).here.cell 2 _ rfl,Lib.hid hc⟩)
   have BBF:=Lib.hid (show ∀ W,Chg [w.heap.size+1+1] w2 W→Below w.heap.size w W from fun W hc=>below_chg bb2 hc bb2.size (fun i hi=>by simp at hi;omega))
   clear kr_c0 kr_c1 kr_c2 ks_c0 ks_c1 ks_c2
   go_region_held3 (fun W=>W.cell? ⟨w.heap.size,0,none⟩ = some (.bool r.1.1)∧W.cell? ⟨w.heap.size,1,none⟩ = some (.slice Ar r.1.2.length cr)∧W.cell? ⟨w.heap.size,2,none⟩ = some (.slice Br r.2.length dr)∧W.cell? ⟨w.heap.size+1,0,none⟩ = some (.bool s.1.1)∧W.cell? ⟨w.heap.size+1,1,none⟩ = some (.slice As s.1.2.length cs)∧W.cell? ⟨w.heap.size+1,2,none⟩ = some (.slice Bs s.2.length ds)∧Hid (Chg [w.heap.size+1+1] w2 W))
    ((refine KL.out _ ?_;(first | exact HC5.out | exact HC4.out | exact HC3.out | exact HCr.out | exact HC0.out | exact HC5.out.drew1 | exact HC4.out.drew1 | exact HC3.out.drew1 | exact HCr.out.drew1 | exact HC0.out.drew1 | exact HC5.out.trans (Chg.of_below (below_al (Below.refl _ _) _)) | exact HC4.out.trans (Chg.of_below (below_al (Below.refl _ _) _)) | exact HC3.out.trans (Chg.of_below (below_al (Below.refl _ _) _)) | exact HCr.out.trans (Chg.of_below (below_al (Below.refl _ _) _)) | exact HC0.out.trans (Chg.of_below (below_al (Below.refl _ _) _)) | exact (Chg.setCell HC5.out (by simp) _) | exact (Chg.setCell (Chg.setCell HC5.out (by simp) _) (by simp) _) | exact (Chg.setCell (Chg.setCell (Chg.setCell HC5.out (by simp) _) (by simp) _) (by simp) _) | fail)))
    (first
      | (go_at_call 65;(have hBB:=(‹_∧_∧_∧_∧_∧_∧Hid (Chg [w.heap.size+1+1] w2 _)›).2.2.2.2.2.2);(with_reducible refine (specMulV_any _ _ (r.1.2) (s.1.2) 0 _ 0 _ _ (by omega) (by omega) (Nat.le_refl _) (Nat.le_refl _) (natOk_parts (okS_parts HPr.out.okn).1).1 (natOk_parts (okS_parts HPs.out.okn).1).1 (OUr.out _ (BBF.out _ hBB.out)).row (OUs.out _ (BBF.out _ hBB.out)).row).mono ?_);rintro e w3 ⟨ua,rfl,oa_,b3⟩;have HC3:=Lib.hid (hBB.out.trans (Chg.of_below b3));(have ko_3:=At.below (by first | exact ko | exact At.below ko (below_al (Below.refl _ _) _) | exact At.below (At.below ko (below_al (Below.refl _ _) _)) (below_al (Below.refl _ _) _) | exact At.move ko (fun _ _=>rfl) (Nat.le_refl _)) b3);have oa:=own_at' oa_;have HBZ3:=Lib.hid hBB.out.size;clear hBB)
      | (go_at_call 65;(have hBB:=(‹_∧_∧_∧_∧_∧_∧Hid (Chg [w.heap.size+1+1] w2 _)›).2.2.2.2.2.2);(with_reducible refine (specMulV_any _ _ (r.2) (s.2) 0 _ 0 _ _ (by omega) (by omega) (Nat.le_refl _) (Nat.le_refl _) (natOk_parts HPr.out.okd).1 (natOk_parts HPs.out.okd).1 (ODr.out _ (BBF.out _ hBB.out)).row (ODs.out _ (BBF.out _ hBB.out)).row).mono ?_);rintro e w4 ⟨ub,rfl,ob_,b4⟩;have HC4:=Lib.hid (hBB.out.trans (Chg.of_below b4));(have ko_4:=At.below (by first | exact ko_3 | exact At.below ko_3 (below_al (Below.refl _ _) _) | exact At.below (At.below ko_3 (below_al (Below.refl _ _) _)) (below_al (Below.refl _ _) _) | exact At.move ko_3 (fun _ _=>rfl) (Nat.le_refl _)) b4);(have oa_4:=At.below (by first | exact oa | exact At.below oa (below_al (Below.refl _ _) _) | exact At.below (At.below oa (below_al (Below.refl _ _) _)) (below_al (Below.refl _ _) _) | exact At.move oa (fun _ _=>rfl) (Nat.le_refl _)) b4);have ob:=own_at' ob_;have HBZ4:=Lib.hid hBB.out.size;clear hBB)
      | (go_at_call 64;(have hBB:=(‹_∧_∧_∧_∧_∧_∧Hid (Chg [w.heap.size+1+1] w2 _)›).2.2.2.2.2.2);(with_reducible refine (l05Low_any _ _ _ ((nval (r.1.2) * nval (s.1.2)).toNat) ((nval (r.2) * nval (s.2)).toNat) _ H1.out H2.out (At.here (by first | exact oa_4 | exact At.below oa_4 (below_al (Below.refl _ _) _) | exact At.below (At.below oa_4 (below_al (Below.refl _ _) _)) (below_al (Below.refl _ _) _) | exact At.move oa_4 (fun _ _=>rfl) (Nat.le_refl _))) (At.here (by first | exact ob | exact At.below ob (below_al (Below.refl _ _) _) | exact At.below (At.below ob (below_al (Below.refl _ _) _)) (below_al (Below.refl _ _) _) | exact At.move ob (fun _ _=>rfl) (Nat.le_refl _)))).mono ?_);rintro e w5 ⟨uf,Sf,rfl,of,lf,b5⟩;have HC5:=Lib.hid (hBB.out.trans (Chg.of_below b5));(have ko_5:=At.below (by first | exact ko_4 | exact At.below ko_4 (below_al (Below.refl _ _) _) | exact At.below (At.below ko_4 (below_al (Below.refl _ _) _)) (below_al (Below.refl _ _) _) | exact At.move ko_4 (fun _ _=>rfl) (Nat.le_refl _)) b5);(have oa_5:=At.below (by first | exact oa_4 | exact At.below oa_4 (below_al (Below.refl _ _) _) | exact At.below (At.below oa_4 (below_al (Below.refl _ _) _)) (below_al (Below.refl _ _) _) | exact At.move oa_4 (fun _ _=>rfl) (Nat.le_refl _)) b5);(have ob_5:=At.below (by first | exact ob | exact At.below ob (below_al (Below.refl _ _) _) | exact At.below (At.below ob (below_al (Below.refl _ _) _)) (below_al (Below.refl _ _) _) | exact At.move ob (fun _ _=>rfl) (Nat.le_refl _)) b5);obtain ⟨Af,cf,Bf,df,rfl⟩:=ownQ_form of.here;have cz0:=ko_5.here.cell 0 _ rfl;have fz0:=Lib.frozen_of_heap ko_5.here 0;have cz1:=ko_5.here.cell 1 _ rfl;have fz1:=Lib.frozen_of_heap ko_5.here 1;have cz2:=ko_5.here.cell 2 _ rfl;have fz2:=Lib.frozen_of_heap ko_5.here 2;have HBZ5:=Lib.hid hBB.out.size;clear hBB))
   have bb5:=BBF.out _ HC5.out
   replace kr:=kr.chg HC5.out (fun i hi hm=>by simp at hi hm;omega)
   replace ks:=ks.chg HC5.out (fun i hi hm=>by simp at hi hm;omega)
   replace ko:=ko_5
   have oa:=oa_5
   have ob:=ob_5
   have HW:=Lib.hid (newQb_at (r:=w.heap.size+1+1) (b:=(lowQ (!(r.1.1 == s.1.1)) ((nval (r.1.2) * nval (s.1.2)).toNat) ((nval (r.2) * nval (s.2)).toNat)).2) of lf (by have:=HBZ5.out;omega) (by omega) bb5)
   clear of ko kr ks oa ob z0 hko
   go_wp2
   refine bodyPost_ret (v:=.tuple #[.agg #[.bool _,.slice Af _ cf,.slice Bf _ df],.bool _]) (by simp [results,Tryz.results44,go_sem,cz0,cz1,cz2];exact ⟨⟨rfl,rfl,rfl⟩,rfl⟩) rfl ?_
   rw [HV.out]
   exact HW.out
  ·have oks':okQ s = false:=by simpa using oks
   have HV:=Lib.hid (show mulQ r s = (zeroQ,false) by unfold mulQ;rw [if_neg (fun h=>oks h.2)])
   rw [oks']
   clear oks oks'
   have ko_c0:=ko.here.cell 0 _ rfl
   have ko_c1:=ko.here.cell 1 _ rfl
   have ko_c2:=ko.here.cell 2 _ rfl
   have cz0:=ko.here.cell 0 _ rfl
   have fz0:=Lib.frozen_of_heap ko.here 0
   have cz1:=ko.here.cell 1 _ rfl
   have fz1:=Lib.frozen_of_heap ko.here 1
   have cz2:=ko.here.cell 2 _ rfl
   have fz2:=Lib.frozen_of_heap ko.here 2
   go_wp2
   refine bodyPost_ret (v:=.tuple #[.agg #[.bool false,.slice none 0 0,.slice none 0 0],.bool false]) (by simp [results,Tryz.results44,go_sem,cz0,cz1,cz2]) rfl ?_
   rw [HV.out]
   first | exact newQb_zero _ bb2 | exact newQb_zero _ (below_set3 bb2 (by omega))
 ·have okr':okQ r = false:=by simpa using okr
  have HV:=Lib.hid (show mulQ r s = (zeroQ,false) by unfold mulQ;rw [if_neg (fun h=>okr h.1)])
  rw [okr']
  clear okr okr'
  have ko_c0:=ko.here.cell 0 _ rfl
  have ko_c1:=ko.here.cell 1 _ rfl
  have ko_c2:=ko.here.cell 2 _ rfl
  have cz0:=ko.here.cell 0 _ rfl
  have fz0:=Lib.frozen_of_heap ko.here 0
  have cz1:=ko.here.cell 1 _ rfl
  have fz1:=Lib.frozen_of_heap ko.here 1
  have cz2:=ko.here.cell 2 _ rfl
  have fz2:=Lib.frozen_of_heap ko.here 2
  go_wp2
  refine bodyPost_ret (v:=.tuple #[.agg #[.bool false,.slice none 0 0,.slice none 0 0],.bool false]) (by simp [results,Tryz.results44,go_sem,cz0,cz1,cz2]) rfl ?_
  rw [HV.out]
  first | exact newQb_zero _ bb1 | exact newQb_zero _ (below_set3 bb1 (by omega))
set_option maxHeartbeats 2000000 in
theorem specRatDiv_any (vr:Value) (vs:Value) (r s:QI) (w:World) (hzr:szQ r ≤ 1048576) (hzs:szQ s ≤ 1048576) (hr:OwnQ vr r w) (hs:OwnQ vs s w) :
 Calls Tryz.prog 61 #[vr,vs] w (PostQb (divQ r s).1 (divQ r s).2 w):=by
 have Hr:=Lib.hid hr
 obtain ⟨Ar,cr,Br,dr,rfl⟩:=ownQ_form hr
 have OQr:=Lib.hid (show ∀ W,Below w.heap.size w W→OwnQ (.agg #[.bool r.1.1,.slice Ar r.1.2.length cr,.slice Br r.2.length dr]) r W from fun W hb=>OwnQ.below Hr.out hb)
 have OUr:=Lib.hid (show ∀ W,Below w.heap.size w W→OwnI (.slice Ar r.1.2.length cr) r.1.2 W from fun W hb=>(ownQ_open (OQr.out W hb)).2.1)
 have ODr:=Lib.hid (show ∀ W,Below w.heap.size w W→OwnI (.slice Br r.2.length dr) r.2 W from fun W hb=>(ownQ_open (OQr.out W hb)).2.2.1)
 have OSr:=Lib.hid (show ∀ W,Below w.heap.size w W→OwnS (.agg #[.bool r.1.1,.slice Ar r.1.2.length cr]) r.1 W from fun W hb=>OwnS.mk (OUr.out W hb))
 clear hr
 have Hs:=Lib.hid hs
 obtain ⟨As,cs,Bs,ds,rfl⟩:=ownQ_form hs
 have OQs:=Lib.hid (show ∀ W,Below w.heap.size w W→OwnQ (.agg #[.bool s.1.1,.slice As s.1.2.length cs,.slice Bs s.2.length ds]) s W from fun W hb=>OwnQ.below Hs.out hb)
 have OUs:=Lib.hid (show ∀ W,Below w.heap.size w W→OwnI (.slice As s.1.2.length cs) s.1.2 W from fun W hb=>(ownQ_open (OQs.out W hb)).2.1)
 have ODs:=Lib.hid (show ∀ W,Below w.heap.size w W→OwnI (.slice Bs s.2.length ds) s.2 W from fun W hb=>(ownQ_open (OQs.out W hb)).2.2.1)
 have OSs:=Lib.hid (show ∀ W,Below w.heap.size w W→OwnS (.agg #[.bool s.1.1,.slice As s.1.2.length cs]) s.1 W from fun W hb=>OwnS.mk (OUs.out W hb))
 clear hs
 have hlr:=szQ_len hzr
 have hl1r:=hlr.1
 have hl2r:=hlr.2
 clear hlr
 have hls:=szQ_len hzs
 have hl1s:=hls.1
 have hl2s:=hls.2
 clear hls
 have bb0:Below w.heap.size w (((w.alloc (.cells #[.bool r.1.1,.slice Ar r.1.2.length cr,.slice Br r.2.length dr] 36)).alloc (.cells #[.bool s.1.1,.slice As s.1.2.length cs,.slice Bs s.2.length ds] 36)).alloc (.cells #[.bool false,.slice none 0 0,.slice none 0 0] 36)):=below_al (below_al (below_al (Below.refl _ _) _) _) _
 have kr:=(box_new w #[.bool r.1.1,.slice Ar r.1.2.length cr,.slice Br r.2.length dr] 36).below (below_al (below_al (Below.refl _ _) (.cells #[.bool s.1.1,.slice As s.1.2.length cs,.slice Bs s.2.length ds] 36)) (.cells #[.bool false,.slice none 0 0,.slice none 0 0] 36))
 have ks:=(box_new (w.alloc (.cells #[.bool r.1.1,.slice Ar r.1.2.length cr,.slice Br r.2.length dr] 36)) #[.bool s.1.1,.slice As s.1.2.length cs,.slice Bs s.2.length ds] 36).below (below_al (Below.refl _ _) (.cells #[.bool false,.slice none 0 0,.slice none 0 0] 36))
 rw [show (w.alloc (.cells #[.bool r.1.1,.slice Ar r.1.2.length cr,.slice Br r.2.length dr] 36)).heap.size = w.heap.size+1 by simp] at ks
 have ko:=(box_new ((w.alloc (.cells #[.bool r.1.1,.slice Ar r.1.2.length cr,.slice Br r.2.length dr] 36)).alloc (.cells #[.bool s.1.1,.slice As s.1.2.length cs,.slice Bs s.2.length ds] 36)) #[.bool false,.slice none 0 0,.slice none 0 0] 36)
 rw [show ((w.alloc (.cells #[.bool r.1.1,.slice Ar r.1.2.length cr,.slice Br r.2.length dr] 36)).alloc (.cells #[.bool s.1.1,.slice As s.1.2.length cs,.slice Bs s.2.length ds] 36)).heap.size = w.heap.size+1+1 by simp] at ko
 go_enter Tryz.func61,Tryz.ntmps61
 have kr_c0:=kr.here.cell 0 _ rfl
 have kr_c1:=kr.here.cell 1 _ rfl
 have kr_c2:=kr.here.cell 2 _ rfl
 go_wp2_with fail
 clear kr_c0 kr_c1 kr_c2
 refine (specRatOk_any _ r _ hzr (OQr.out _ bb0)).mono ?_
 rintro e w1 ⟨rfl,b1⟩
 have bb1:=Below.next bb0 b1
 replace kr:=kr.below b1
 replace ks:=ks.below b1
 replace ko:=ko.below b1
 by_cases okr:okQ r = true
 ·rw [okr]
  have HOr:=Lib.hid okr
  clear okr
  have ks_c0:=ks.here.cell 0 _ rfl
  have ks_c1:=ks.here.cell 1 _ rfl
  have ks_c2:=ks.here.cell 2 _ rfl
  go_wp2_with fail
  clear ks_c0 ks_c1 ks_c2
  refine (specRatOk_any _ s _ hzs (OQs.out _ bb1)).mono ?_
  rintro e w2 ⟨rfl,b2⟩
  have bb2:=Below.next bb1 b2
  replace kr:=kr.below b2
  replace ks:=ks.below b2
  replace ko:=ko.below b2
  by_cases oks:okQ s = true
  ·rw [oks]
   have HOs:=Lib.hid oks
   clear oks
   have Pr:=parts_of HOr.out
   have Ps:=parts_of HOs.out
   have HPr:=Lib.hid Pr
   have HPs:=Lib.hid Ps
   have hnr:=Pr.n50
   have hns:=Ps.n50
   have hdr:=Pr.d50
   have hds:=Ps.d50
   have z0:=bb2.size
   have hko:=ko.lt (w.heap.size+1+1) (by simp)
   have H1:=Lib.hid (show (limbs (nval (r.1.2) * nval (s.2)).toNat).length ≤ 50 by rw [mul_toNat (okS_parts HPr.out.okn).1 HPs.out.okd];exact Nat.le_trans (prod_len HPr.out.nlt HPs.out.dlt) (by decide))
   have H2:=Lib.hid (show (limbs (nval (r.2) * nval (s.1.2)).toNat).length ≤ 50 by rw [mul_toNat HPr.out.okd (okS_parts HPs.out.okn).1];exact Nat.le_trans (prod_len HPr.out.dlt HPs.out.nlt) (by decide))
   have HV:=Lib.hid (show divQ r s = lowQ (!(r.1.1 == s.1.1)) (nval (r.1.2) * nval (s.2)).toNat (nval (r.2) * nval (s.1.2)).toNat by unfold divQ;rw [if_pos ⟨HOr.out,HOs.out⟩,mul_toNat (okS_parts HPr.out.okn).1 HPs.out.okd,mul_toNat HPr.out.okd (okS_parts HPs.out.okn).1];rfl)
   clear Pr Ps
   have kr_c0:=kr.here.cell 0 _ rfl
   have kr_c1:=kr.here.cell 1 _ rfl
   have kr_c2:=kr.here.cell 2 _ rfl
   have ks_c0:=ks.here.cell 0 _ rfl
   have ks_c1:=ks.here.cell 1 _ rfl
   have ks_c2:=ks.here.cell 2 _ rfl
   go_wp2_with fail
   have HC0:=Lib.hid (show Chg [w.heap.size+1+1] w2 w2.drew from (Chg.refl _ _).drew1)
   have HCr:=Lib.hid (show Chg [w.heap.size+1+1] w2 w2 from Chg.refl _ _)
   have KL:=Lib.hid (show ∀ W,Chg [w.heap.size+1+1] w2 W→W.cell? ⟨w.heap.size,0,none⟩ = some (.bool r.1.1)∧W.cell? ⟨w.heap.size,1,none⟩ = some (.slice Ar r.1.2.length cr)∧W.cell? ⟨w.heap.size,2,none⟩ = some (.slice Br r.2.length dr)∧W.cell? ⟨w.heap.size+1,0,none⟩ = some (.bool s.1.1)∧W.cell? ⟨w.heap.size+1,1,none⟩ = some (.slice As s.1.2.length cs)∧W.cell? ⟨w.heap.size+1,2,none⟩ = some (.slice Bs s.2.length ds)∧Hid (Chg [w.heap.size+1+1] w2 W) from fun W hc=>⟨(kr.chg hc (fun i hi hm=>by simp at hi hm;omega)).here.cell 0 _ rfl,(kr.chg hc (fun i hi hm=>by simp at hi hm;omega)).here.cell 1 _ rfl,(kr.chg hc (fun i hi hm=>by simp at hi hm;omega)).here.cell 2 _ rfl,(ks.chg hc (fun i hi hm=>by simp at hi hm;omega)).here.cell 0 _ rfl,(ks.chg hc (fun i hi hm=>by simp at hi hm;omega)).here.cell 1 _ rfl,(ks.chg hc (fun i hi hm=>by simp at hi hm;omega)).here.cell 2 _ rfl,Lib.hid hc⟩)
   have BBF:=Lib.hid (show ∀ W,Chg [w.heap.size+1+1] w2 W→Below w.heap.size w W from fun W hc=>below_chg bb2 hc bb2.size (fun i hi=>by simp at hi;omega))
   clear kr_c0 kr_c1 kr_c2 ks_c0 ks_c1 ks_c2
   go_region_held3 (fun W=>W.cell? ⟨w.heap.size,0,none⟩ = some (.bool r.1.1)∧W.cell? ⟨w.heap.size,1,none⟩ = some (.slice Ar r.1.2.length cr)∧W.cell? ⟨w.heap.size,2,none⟩ = some (.slice Br r.2.length dr)∧W.cell? ⟨w.heap.size+1,0,none⟩ = some (.bool s.1.1)∧W.cell? ⟨w.heap.size+1,1,none⟩ = some (.slice As s.1.2.length cs)∧W.cell? ⟨w.heap.size+1,2,none⟩ = some (.slice Bs s.2.length ds)∧Hid (Chg [w.heap.size+1+1] w2 W))
    ((refine KL.out _ ?_;(first | exact HC5.out | exact HC4.out | exact HC3.out | exact HCr.out | exact HC0.out | exact HC5.out.drew1 | exact HC4.out.drew1 | exact HC3.out.drew1 | exact HCr.out.drew1 | exact HC0.out.drew1 | exact HC5.out.trans (Chg.of_below (below_al (Below.refl _ _) _)) | exact HC4.out.trans (Chg.of_below (below_al (Below.refl _ _) _)) | exact HC3.out.trans (Chg.of_below (below_al (Below.refl _ _) _)) | exact HCr.out.trans (Chg.of_below (below_al (Below.refl _ _) _)) | exact HC0.out.trans (Chg.of_below (below_al (Below.refl _ _) _)) | exact (Chg.setCell HC5.out (by simp) _) | exact (Chg.setCell (Chg.setCell HC5.out (by simp) _) (by simp) _) | exact (Chg.setCell (Chg.setCell (Chg.setCell HC5.out (by simp) _) (by simp) _) (by simp) _) | fail)))
    (first
      | (go_at_call 65;(have hBB:=(‹_∧_∧_∧_∧_∧_∧Hid (Chg [w.heap.size+1+1] w2 _)›).2.2.2.2.2.2);(with_reducible refine (specMulV_any _ _ (r.1.2) (s.2) 0 _ 0 _ _ (by omega) (by omega) (Nat.le_refl _) (Nat.le_refl _) (natOk_parts (okS_parts HPr.out.okn).1).1 (natOk_parts HPs.out.okd).1 (OUr.out _ (BBF.out _ hBB.out)).row (ODs.out _ (BBF.out _ hBB.out)).row).mono ?_);rintro e w3 ⟨ua,rfl,oa_,b3⟩;have HC3:=Lib.hid (hBB.out.trans (Chg.of_below b3));(have ko_3:=At.below (by first | exact ko | exact At.below ko (below_al (Below.refl _ _) _) | exact At.below (At.below ko (below_al (Below.refl _ _) _)) (below_al (Below.refl _ _) _) | exact At.move ko (fun _ _=>rfl) (Nat.le_refl _)) b3);have oa:=own_at' oa_;have HBZ3:=Lib.hid hBB.out.size;clear hBB)
      | (go_at_call 65;(have hBB:=(‹_∧_∧_∧_∧_∧_∧Hid (Chg [w.heap.size+1+1] w2 _)›).2.2.2.2.2.2);(with_reducible refine (specMulV_any _ _ (r.2) (s.1.2) 0 _ 0 _ _ (by omega) (by omega) (Nat.le_refl _) (Nat.le_refl _) (natOk_parts HPr.out.okd).1 (natOk_parts (okS_parts HPs.out.okn).1).1 (ODr.out _ (BBF.out _ hBB.out)).row (OUs.out _ (BBF.out _ hBB.out)).row).mono ?_);rintro e w4 ⟨ub,rfl,ob_,b4⟩;have HC4:=Lib.hid (hBB.out.trans (Chg.of_below b4));(have ko_4:=At.below (by first | exact ko_3 | exact At.below ko_3 (below_al (Below.refl _ _) _) | exact At.below (At.below ko_3 (below_al (Below.refl _ _) _)) (below_al (Below.refl _ _) _) | exact At.move ko_3 (fun _ _=>rfl) (Nat.le_refl _)) b4);(have oa_4:=At.below (by first | exact oa | exact At.below oa (below_al (Below.refl _ _) _) | exact At.below (At.below oa (below_al (Below.refl _ _) _)) (below_al (Below.refl _ _) _) | exact At.move oa (fun _ _=>rfl) (Nat.le_refl _)) b4);have ob:=own_at' ob_;have HBZ4:=Lib.hid hBB.out.size;clear hBB)
      | (go_at_call 64;(have hBB:=(‹_∧_∧_∧_∧_∧_∧Hid (Chg [w.heap.size+1+1] w2 _)›).2.2.2.2.2.2);(with_reducible refine (l05Low_any _ _ _ ((nval (r.1.2) * nval (s.2)).toNat) ((nval (r.2) * nval (s.1.2)).toNat) _ H1.out H2.out (At.here (by first | exact oa_4 | exact At.below oa_4 (below_al (Below.refl _ _) _) | exact At.below (At.below oa_4 (below_al (Below.refl _ _) _)) (below_al (Below.refl _ _) _) | exact At.move oa_4 (fun _ _=>rfl) (Nat.le_refl _))) (At.here (by first | exact ob | exact At.below ob (below_al (Below.refl _ _) _) | exact At.below (At.below ob (below_al (Below.refl _ _) _)) (below_al (Below.refl _ _) _) | exact At.move ob (fun _ _=>rfl) (Nat.le_refl _)))).mono ?_);rintro e w5 ⟨uf,Sf,rfl,of,lf,b5⟩;have HC5:=Lib.hid (hBB.out.trans (Chg.of_below b5));(have ko_5:=At.below (by first | exact ko_4 | exact At.below ko_4 (below_al (Below.refl _ _) _) | exact At.below (At.below ko_4 (below_al (Below.refl _ _) _)) (below_al (Below.refl _ _) _) | exact At.move ko_4 (fun _ _=>rfl) (Nat.le_refl _)) b5);(have oa_5:=At.below (by first | exact oa_4 | exact At.below oa_4 (below_al (Below.refl _ _) _) | exact At.below (At.below oa_4 (below_al (Below.refl _ _) _)) (below_al (Below.refl _ _) _) | exact At.move oa_4 (fun _ _=>rfl) (Nat.le_refl _)) b5);(have ob_5:=At.below (by first | exact ob | exact At.below ob (below_al (Below.refl _ _) _) | exact At.below (At.below ob (below_al (Below.refl _ _) _)) (below_al (Below.refl _ _) _) | exact At.move ob (fun _ _=>rfl) (Nat.le_refl _)) b5);obtain ⟨Af,cf,Bf,df,rfl⟩:=ownQ_form of.here;have cz0:=ko_5.here.cell 0 _ rfl;have fz0:=Lib.frozen_of_heap ko_5.here 0;have cz1:=ko_5.here.cell 1 _ rfl;have fz1:=Lib.frozen_of_heap ko_5.here 1;have cz2:=ko_5.here.cell 2 _ rfl;have fz2:=Lib.frozen_of_heap ko_5.here 2;have HBZ5:=Lib.hid hBB.out.size;clear hBB))
   have bb5:=BBF.out _ HC5.out
   replace kr:=kr.chg HC5.out (fun i hi hm=>by simp at hi hm;omega)
   replace ks:=ks.chg HC5.out (fun i hi hm=>by simp at hi hm;omega)
   replace ko:=ko_5
   have oa:=oa_5
   have ob:=ob_5
   have HW:=Lib.hid (newQb_at (r:=w.heap.size+1+1) (b:=(lowQ (!(r.1.1 == s.1.1)) ((nval (r.1.2) * nval (s.2)).toNat) ((nval (r.2) * nval (s.1.2)).toNat)).2) of lf (by have:=HBZ5.out;omega) (by omega) bb5)
   clear of ko kr ks oa ob z0 hko
   go_wp2
   refine bodyPost_ret (v:=.tuple #[.agg #[.bool _,.slice Af _ cf,.slice Bf _ df],.bool _]) (by simp [results,Tryz.results61,go_sem,cz0,cz1,cz2];exact ⟨⟨rfl,rfl,rfl⟩,rfl⟩) rfl ?_
   rw [HV.out]
   exact HW.out
  ·have oks':okQ s = false:=by simpa using oks
   have HV:=Lib.hid (show divQ r s = (zeroQ,false) by unfold divQ;rw [if_neg (fun h=>oks h.2)])
   rw [oks']
   clear oks oks'
   have ko_c0:=ko.here.cell 0 _ rfl
   have ko_c1:=ko.here.cell 1 _ rfl
   have ko_c2:=ko.here.cell 2 _ rfl
   have cz0:=ko.here.cell 0 _ rfl
   have fz0:=Lib.frozen_of_heap ko.here 0
   have cz1:=ko.here.cell 1 _ rfl
   have fz1:=Lib.frozen_of_heap ko.here 1
   have cz2:=ko.here.cell 2 _ rfl
   have fz2:=Lib.frozen_of_heap ko.here 2
   go_wp2
   refine bodyPost_ret (v:=.tuple #[.agg #[.bool false,.slice none 0 0,.slice none 0 0],.bool false]) (by simp [results,Tryz.results61,go_sem,cz0,cz1,cz2]) rfl ?_
   rw [HV.out]
   first | exact newQb_zero _ bb2 | exact newQb_zero _ (below_set3 bb2 (by omega))
 ·have okr':okQ r = false:=by simpa using okr
  have HV:=Lib.hid (show divQ r s = (zeroQ,false) by unfold divQ;rw [if_neg (fun h=>okr h.1)])
  rw [okr']
  clear okr okr'
  have ko_c0:=ko.here.cell 0 _ rfl
  have ko_c1:=ko.here.cell 1 _ rfl
  have ko_c2:=ko.here.cell 2 _ rfl
  have cz0:=ko.here.cell 0 _ rfl
  have fz0:=Lib.frozen_of_heap ko.here 0
  have cz1:=ko.here.cell 1 _ rfl
  have fz1:=Lib.frozen_of_heap ko.here 1
  have cz2:=ko.here.cell 2 _ rfl
  have fz2:=Lib.frozen_of_heap ko.here 2
  go_wp2
  refine bodyPost_ret (v:=.tuple #[.agg #[.bool false,.slice none 0 0,.slice none 0 0],.bool false]) (by simp [results,Tryz.results61,go_sem,cz0,cz1,cz2]) rfl ?_
  rw [HV.out]
  first | exact newQb_zero _ bb1 | exact newQb_zero _ (below_set3 bb1 (by omega))
set_option maxHeartbeats 2000000 in
theorem specRatMake_any (va vb:Value) (a b:SI) (w:World) (hza:szS a ≤ 1048576) (hzb:szS b ≤ 1048576) (ha:OwnS va a w) (hb:OwnS vb b w) :
 Calls Tryz.prog 91 #[va,vb] w (PostQb (makeQ a b).1 (makeQ a b).2 w):=by
 have Ha:=Lib.hid ha
 obtain ⟨Aa,ca,rfl⟩:=ownS_form ha
 have OSa:=Lib.hid (show ∀ W,Below w.heap.size w W→OwnS (.agg #[.bool a.1,.slice Aa a.2.length ca]) a W from fun W hb=>OwnS.below Ha.out hb)
 have OIa:=Lib.hid (show ∀ W,Below w.heap.size w W→OwnI (.slice Aa a.2.length ca) a.2 W from fun W hb=>ownS_open (OSa.out W hb))
 clear ha
 have Hb:=Lib.hid hb
 obtain ⟨Ab,cb,rfl⟩:=ownS_form hb
 have OSb:=Lib.hid (show ∀ W,Below w.heap.size w W→OwnS (.agg #[.bool b.1,.slice Ab b.2.length cb]) b W from fun W hb=>OwnS.below Hb.out hb)
 have OIb:=Lib.hid (show ∀ W,Below w.heap.size w W→OwnI (.slice Ab b.2.length cb) b.2 W from fun W hb=>ownS_open (OSb.out W hb))
 clear hb
 have hla:a.2.length ≤ 1048576:=by unfold szS szI at hza;omega
 have hlb:b.2.length ≤ 1048576:=by unfold szS szI at hzb;omega
 clear hza hzb
 have bb0:Below w.heap.size w (((w.alloc (.cells #[.bool a.1,.slice Aa a.2.length ca] 32)).alloc (.cells #[.bool b.1,.slice Ab b.2.length cb] 32)).alloc (.cells #[.bool false,.slice none 0 0,.slice none 0 0] 36)):=below_al (below_al (below_al (Below.refl _ _) _) _) _
 have ka:=(box_new w #[.bool a.1,.slice Aa a.2.length ca] 32).below (below_al (below_al (Below.refl _ _) (.cells #[.bool b.1,.slice Ab b.2.length cb] 32)) (.cells #[.bool false,.slice none 0 0,.slice none 0 0] 36))
 have kb:=(box_new (w.alloc (.cells #[.bool a.1,.slice Aa a.2.length ca] 32)) #[.bool b.1,.slice Ab b.2.length cb] 32).below (below_al (Below.refl _ _) (.cells #[.bool false,.slice none 0 0,.slice none 0 0] 36))
 rw [show (w.alloc (.cells #[.bool a.1,.slice Aa a.2.length ca] 32)).heap.size = w.heap.size+1 by simp] at kb
 have ko:=(box_new ((w.alloc (.cells #[.bool a.1,.slice Aa a.2.length ca] 32)).alloc (.cells #[.bool b.1,.slice Ab b.2.length cb] 32)) #[.bool false,.slice none 0 0,.slice none 0 0] 36)
 rw [show ((w.alloc (.cells #[.bool a.1,.slice Aa a.2.length ca] 32)).alloc (.cells #[.bool b.1,.slice Ab b.2.length cb] 32)).heap.size = w.heap.size+1+1 by simp] at ko
 go_enter Tryz.func91,Tryz.ntmps91
 have ka_c0:=ka.here.cell 0 _ rfl
 have ka_c1:=ka.here.cell 1 _ rfl
 go_wp2_with fail
 clear ka_c0 ka_c1
 refine (specIntOk_any _ a _ hla (OwnS.rd (OSa.out _ bb0))).mono ?_
 rintro e w1 ⟨rfl,b1⟩
 have bb1:=Below.next bb0 b1
 replace ka:=ka.below b1
 replace kb:=kb.below b1
 replace ko:=ko.below b1
 by_cases oka:okS a = true
 ·rw [oka]
  have HOa:=Lib.hid oka
  clear oka
  have kb_c0:=kb.here.cell 0 _ rfl
  have kb_c1:=kb.here.cell 1 _ rfl
  go_wp2_with fail
  clear kb_c0 kb_c1
  refine (specIntOk_any _ b _ hlb (OwnS.rd (OSb.out _ bb1))).mono ?_
  rintro e w2 ⟨rfl,b2⟩
  have bb2:=Below.next bb1 b2
  replace ka:=ka.below b2
  replace kb:=kb.below b2
  replace ko:=ko.below b2
  by_cases okb:okS b = true
  ·rw [okb]
   have HOb:=Lib.hid okb
   clear okb
   have HKO:=Lib.hid (ko.lt (w.heap.size+1+1) (by simp))
   have Ea:=Lib.hid (natOk_limbs (okS_parts HOa.out).1)
   have Eb:=Lib.hid (natOk_limbs (okS_parts HOb.out).1)
   obtain ⟨Na,hNa⟩:∃ Na,(nval a.2).toNat = Na:=⟨_,rfl⟩
   have Ea:=Lib.hid (show a.2 = limbs Na by rw [← hNa];exact natOk_limbs (okS_parts HOa.out).1)
   have La:=Lib.hid (show (limbs Na).length ≤ 50 by rw [← Ea.out];exact (natOk_parts (okS_parts HOa.out).1).2.1)
   obtain ⟨Nb,hNb⟩:∃ Nb,(nval b.2).toNat = Nb:=⟨_,rfl⟩
   have Eb:=Lib.hid (show b.2 = limbs Nb by rw [← hNb];exact natOk_limbs (okS_parts HOb.out).1)
   have Lb:=Lib.hid (show (limbs Nb).length ≤ 50 by rw [← Eb.out];exact (natOk_parts (okS_parts HOb.out).1).2.1)
   have HV:=Lib.hid (show makeQ a b = lowQ (!(a.1 == b.1)) Na Nb by unfold makeQ;rw [if_pos ⟨HOa.out,HOb.out⟩,hNa,hNb];rfl)
   clear hNa hNb
   have ka_c0:=ka.here.cell 0 _ rfl
   have ka_c1:=ka.here.cell 1 _ rfl
   have kb_c0:=kb.here.cell 0 _ rfl
   have kb_c1:=kb.here.cell 1 _ rfl
   go_wp2_with fail
   clear ka_c0 ka_c1 kb_c0 kb_c1
   refine (lowX_any _ _ _ a.2 b.2 Na Nb _ La.out Lb.out Ea.out Eb.out (OIa.out _ bb2) (OIb.out _ bb2)).mono ?_
   rintro e w3 ⟨uf,Sf,rfl,of,lf,b3⟩
   obtain ⟨Af,cf,Bf,df,rfl⟩:=ownQ_form of.here
   have bb3:=Below.next bb2 b3
   replace ka:=ka.below b3
   replace kb:=kb.below b3
   replace ko:=ko.below b3
   have HW:=Lib.hid (newQb_at (r:=w.heap.size+1+1) (b:=(lowQ (!(a.1 == b.1)) Na Nb).2) of lf (by have:=HKO.out;omega) (by omega) bb3)
   have cz0:=ko.here.cell 0 _ rfl
   have fz0:=Lib.frozen_of_heap ko.here 0
   have cz1:=ko.here.cell 1 _ rfl
   have fz1:=Lib.frozen_of_heap ko.here 1
   have cz2:=ko.here.cell 2 _ rfl
   have fz2:=Lib.frozen_of_heap ko.here 2
   clear of ko
   go_wp2
   refine bodyPost_ret (v:=.tuple #[.agg #[.bool _,.slice Af _ cf,.slice Bf _ df],.bool _]) (by simp [results,Tryz.results91,go_sem,cz0,cz1,cz2];exact ⟨⟨rfl,rfl,rfl⟩,rfl⟩) rfl ?_
   rw [HV.out]
   exact HW.out
  ·have okb':okS b = false:=by simpa using okb
   have HV:=Lib.hid (show makeQ a b = (zeroQ,false) by unfold makeQ;rw [if_neg (fun h=>okb h.2)])
   rw [okb']
   clear okb okb'
   have ko_c0:=ko.here.cell 0 _ rfl
   have ko_c1:=ko.here.cell 1 _ rfl
   have ko_c2:=ko.here.cell 2 _ rfl
   have cz0:=ko.here.cell 0 _ rfl
   have fz0:=Lib.frozen_of_heap ko.here 0
   have cz1:=ko.here.cell 1 _ rfl
   have fz1:=Lib.frozen_of_heap ko.here 1
   have cz2:=ko.here.cell 2 _ rfl
   have fz2:=Lib.frozen_of_heap ko.here 2
   go_wp2
   refine bodyPost_ret (v:=.tuple #[.agg #[.bool false,.slice none 0 0,.slice none 0 0],.bool false]) (by simp [results,Tryz.results91,go_sem,cz0,cz1,cz2]) rfl ?_
   rw [HV.out]
   first | exact newQb_zero _ bb2 | exact newQb_zero _ (below_set3 bb2 (by omega))
 ·have oka':okS a = false:=by simpa using oka
  have HV:=Lib.hid (show makeQ a b = (zeroQ,false) by unfold makeQ;rw [if_neg (fun h=>oka h.1)])
  rw [oka']
  clear oka oka'
  have ko_c0:=ko.here.cell 0 _ rfl
  have ko_c1:=ko.here.cell 1 _ rfl
  have ko_c2:=ko.here.cell 2 _ rfl
  have cz0:=ko.here.cell 0 _ rfl
  have fz0:=Lib.frozen_of_heap ko.here 0
  have cz1:=ko.here.cell 1 _ rfl
  have fz1:=Lib.frozen_of_heap ko.here 1
  have cz2:=ko.here.cell 2 _ rfl
  have fz2:=Lib.frozen_of_heap ko.here 2
  go_wp2
  refine bodyPost_ret (v:=.tuple #[.agg #[.bool false,.slice none 0 0,.slice none 0 0],.bool false]) (by simp [results,Tryz.results91,go_sem,cz0,cz1,cz2]) rfl ?_
  rw [HV.out]
  first | exact newQb_zero _ bb1 | exact newQb_zero _ (below_set3 bb1 (by omega))
set_option maxHeartbeats 2000000 in
theorem specRatInt_any (va:Value) (a:SI) (w:World) (hza:szS a ≤ 1048576) (ha:OwnS va a w) :
 Calls Tryz.prog 66 #[va] w (PostQb (makeQ a (ofZ 1)).1 (makeQ a (ofZ 1)).2 w):=by
 have Ha:=Lib.hid ha
 obtain ⟨Aa,ca,rfl⟩:=ownS_form ha
 have OSa:=Lib.hid (show ∀ W,Below w.heap.size w W→OwnS (.agg #[.bool a.1,.slice Aa a.2.length ca]) a W from fun W hb=>OwnS.below Ha.out hb)
 have OIa:=Lib.hid (show ∀ W,Below w.heap.size w W→OwnI (.slice Aa a.2.length ca) a.2 W from fun W hb=>ownS_open (OSa.out W hb))
 clear ha
 have bb0:Below w.heap.size w ((w.alloc (.cells #[.bool a.1,.slice Aa a.2.length ca] 32)).alloc (.cells #[.bool false,.slice none 0 0,.slice none 0 0] 36)):=below_al (below_al (Below.refl _ _) _) _
 have ka:=(box_new w #[.bool a.1,.slice Aa a.2.length ca] 32).below (below_al (Below.refl _ _) (.cells #[.bool false,.slice none 0 0,.slice none 0 0] 36))
 have ko:=(box_new (w.alloc (.cells #[.bool a.1,.slice Aa a.2.length ca] 32)) #[.bool false,.slice none 0 0,.slice none 0 0] 36)
 rw [show (w.alloc (.cells #[.bool a.1,.slice Aa a.2.length ca] 32)).heap.size = w.heap.size+1 by simp] at ko
 have HKO:=Lib.hid (ko.lt (w.heap.size+1) (by simp))
 obtain ⟨Q,hQ⟩:∃ Q,makeQ a (ofZ 1) = Q:=⟨_,rfl⟩
 have EQ:=Lib.hid hQ
 rw [hQ]
 clear hQ
 obtain ⟨W0,hW0⟩:∃ W0,W0 = ((w.alloc (.cells #[.bool a.1,.slice Aa a.2.length ca] 32)).alloc (.cells #[.bool false,.slice none 0 0,.slice none 0 0] 36)):=⟨_,rfl⟩
 rw [← hW0] at bb0 ka ko HKO
 have HW0:=Lib.hid hW0
 clear hW0
 have hz0:=HKO.out
 go_enter Tryz.func66,Tryz.ntmps66
 have ka_c0:=ka.here.cell 0 _ rfl
 have ka_c1:=ka.here.cell 1 _ rfl
 go_wp2_with fail
 rw [← HW0.out]
 have HC0:=Lib.hid (show Chg [w.heap.size+1] W0 W0.drew from (Chg.refl _ _).drew1)
 have HCr:=Lib.hid (show Chg [w.heap.size+1] W0 W0 from Chg.refl _ _)
 have KL:=Lib.hid (show ∀ W,Chg [w.heap.size+1] W0 W→W.cell? ⟨w.heap.size,0,none⟩ = some (.bool a.1)∧W.cell? ⟨w.heap.size,1,none⟩ = some (.slice Aa a.2.length ca)∧Hid (Chg [w.heap.size+1] W0 W) from fun W hc=>⟨(ka.chg hc (fun i hi hm=>by simp at hi hm;omega)).here.cell 0 _ rfl,(ka.chg hc (fun i hi hm=>by simp at hi hm;omega)).here.cell 1 _ rfl,Lib.hid hc⟩)
 have BBF:=Lib.hid (show ∀ W,Chg [w.heap.size+1] W0 W→Below w.heap.size w W from fun W hc=>below_chg bb0 hc bb0.size (fun i hi=>by simp at hi;omega))
 clear ka_c0 ka_c1
 go_region_held3 (fun W=>W.cell? ⟨w.heap.size,0,none⟩ = some (.bool a.1)∧W.cell? ⟨w.heap.size,1,none⟩ = some (.slice Aa a.2.length ca)∧Hid (Chg [w.heap.size+1] W0 W))
  ((refine KL.out _ ?_;(first | exact HC2.out | exact HC1.out | exact HCr.out | exact HC0.out | exact HC2.out.drew1 | exact HC1.out.drew1 | exact HCr.out.drew1 | exact HC0.out.drew1 | exact HC2.out.trans (Chg.of_below (below_al (Below.refl _ _) _)) | exact HC1.out.trans (Chg.of_below (below_al (Below.refl _ _) _)) | exact HCr.out.trans (Chg.of_below (below_al (Below.refl _ _) _)) | exact HC0.out.trans (Chg.of_below (below_al (Below.refl _ _) _)) | exact (Chg.setCell HC2.out (by simp) _) | exact (Chg.setCell (Chg.setCell HC2.out (by simp) _) (by simp) _) | exact (Chg.setCell (Chg.setCell (Chg.setCell HC2.out (by simp) _) (by simp) _) (by simp) _) | fail)))
  (first
    | (go_at_call 81;(have hBB:=(‹_∧_∧Hid (Chg [w.heap.size+1] W0 _)›).2.2);(with_reducible refine ((specIntOf_any 1 _ (by decide) (by decide)).mono fun _ _ h=>NewS.newV h).mono ?_);rintro e w1 ⟨ui,Si,rfl,oi,li,b1⟩;have HC1:=Lib.hid (hBB.out.trans (Chg.of_below b1));(have ko_1:=At.below (by first | exact ko | exact At.below ko (below_al (Below.refl _ _) _) | exact At.below (At.below ko (below_al (Below.refl _ _) _)) (below_al (Below.refl _ _) _) | exact At.move ko (fun _ _=>rfl) (Nat.le_refl _)) b1);obtain ⟨Ai,ci,rfl⟩:=ownS_form oi.here;have HBZ1:=Lib.hid hBB.out.size;clear hBB)
    | (go_at_call 91;(have hBB:=(‹_∧_∧Hid (Chg [w.heap.size+1] W0 _)›).2.2);(with_reducible refine ((specRatMake_any _ _ a (ofZ 1) _ hza one_szS (OSa.out _ (BBF.out _ hBB.out)) (At.here (by first | exact oi | exact At.below oi (below_al (Below.refl _ _) _) | exact At.below (At.below oi (below_al (Below.refl _ _) _)) (below_al (Below.refl _ _) _) | exact At.move oi (fun _ _=>rfl) (Nat.le_refl _)))).mono fun _ _ h=>postQb_eq EQ.out h).mono ?_);rintro e w2 ⟨uf,Sf,rfl,of,lf,b2⟩;have HC2:=Lib.hid (hBB.out.trans (Chg.of_below b2));(have ko_2:=At.below (by first | exact ko_1 | exact At.below ko_1 (below_al (Below.refl _ _) _) | exact At.below (At.below ko_1 (below_al (Below.refl _ _) _)) (below_al (Below.refl _ _) _) | exact At.move ko_1 (fun _ _=>rfl) (Nat.le_refl _)) b2);(have oi_2:=At.below (by first | exact oi | exact At.below oi (below_al (Below.refl _ _) _) | exact At.below (At.below oi (below_al (Below.refl _ _) _)) (below_al (Below.refl _ _) _) | exact At.move oi (fun _ _=>rfl) (Nat.le_refl _)) b2);obtain ⟨Af,cf,Bf,df,rfl⟩:=ownQ_form of.here;have cz0:=ko_2.here.cell 0 _ rfl;have fz0:=Lib.frozen_of_heap ko_2.here 0;have cz1:=ko_2.here.cell 1 _ rfl;have fz1:=Lib.frozen_of_heap ko_2.here 1;have cz2:=ko_2.here.cell 2 _ rfl;have fz2:=Lib.frozen_of_heap ko_2.here 2;have HBZ2:=Lib.hid hBB.out.size;clear hBB))
 have bb2:=BBF.out _ HC2.out
 replace ka:=ka.chg HC2.out (fun i hi hm=>by simp at hi hm;omega)
 replace ko:=ko_2
 have oi:=oi_2
 have HW:=Lib.hid (newQb_at (r:=w.heap.size+1) (b:=Q.2) of lf (by have:=HBZ2.out;omega) (by omega) bb2)
 clear of ko ka oi
 go_wp2
 refine bodyPost_ret (v:=.tuple #[.agg #[.bool _,.slice Af _ cf,.slice Bf _ df],.bool _]) (by simp [results,Tryz.results66,go_sem,cz0,cz1,cz2];exact ⟨⟨rfl,rfl,rfl⟩,rfl⟩) rfl ?_
 exact HW.out
def ratM (m:MI):QI:=if okM m = true then (makeQ m.2 (ofZ 1)).1 else zeroQ
set_option maxHeartbeats 2000000 in
theorem specMoneyRat_any (vm:Value) (m:MI) (w:World) (hz:szS m.2 ≤ 1048576) (hm:OwnM vm m w):Calls Tryz.prog 45 #[vm] w (NewV (fun v=>OwnQ v (ratM m)) w):=by
 have Hm:=Lib.hid hm
 obtain ⟨Am,cm,rfl⟩:=ownM_form hm
 have OMm:=Lib.hid (show ∀ W,Below w.heap.size w W→OwnM (.agg #[.string m.1,.bool m.2.1,.slice Am m.2.2.length cm]) m W from fun W hb=>OwnM.below Hm.out hb)
 have OSm:=Lib.hid (show ∀ W,Below w.heap.size w W→OwnS (.agg #[.bool m.2.1,.slice Am m.2.2.length cm]) m.2 W from fun W hb=>OwnS.mk (ownM_open (OMm.out W hb)))
 clear hm
 have hl:m.2.2.length ≤ 1048576:=by unfold szS szI at hz;omega
 have bb0:Below w.heap.size w ((w.alloc (.cells #[.string m.1,.bool m.2.1,.slice Am m.2.2.length cm] 34)).alloc (.cells #[.bool false,.slice none 0 0,.slice none 0 0] 36)):=below_al (below_al (Below.refl _ _) _) _
 have km:=(box_new w #[.string m.1,.bool m.2.1,.slice Am m.2.2.length cm] 34).below (below_al (Below.refl _ _) (.cells #[.bool false,.slice none 0 0,.slice none 0 0] 36))
 have ko:=box_new (w.alloc (.cells #[.string m.1,.bool m.2.1,.slice Am m.2.2.length cm] 34)) #[.bool false,.slice none 0 0,.slice none 0 0] 36
 rw [show (w.alloc (.cells #[.string m.1,.bool m.2.1,.slice Am m.2.2.length cm] 34)).heap.size = w.heap.size+1 by simp] at ko
 have hko:=ko.lt (w.heap.size+1) (by simp)
 have HKO:=Lib.hid hko
 go_enter Tryz.func45,Tryz.ntmps45
 have km_c0:=km.here.cell 0 _ rfl
 have km_c1:=km.here.cell 1 _ rfl
 have km_c2:=km.here.cell 2 _ rfl
 go_wp2_with fail
 clear km_c0 km_c1 km_c2 hko
 refine (specMoneyOk_any _ m _ hl (OMm.out _ bb0)).mono ?_
 rintro e w1 ⟨rfl,b1⟩
 have bb1:=Below.next bb0 b1
 replace km:=km.below b1
 replace ko:=ko.below b1
 by_cases hk:okM m = true
 ·rw [hk]
  have HV:=Lib.hid (show ratM m = (makeQ m.2 (ofZ 1)).1 by unfold ratM;rw [if_pos hk])
  clear hk
  have km_c0:=km.here.cell 0 _ rfl
  have km_c1:=km.here.cell 1 _ rfl
  have km_c2:=km.here.cell 2 _ rfl
  go_wp2_with fail
  clear km_c0 km_c1 km_c2
  refine (specRatInt_any _ m.2 _ hz (OSm.out _ bb1)).mono ?_
  generalize makeQ m.2 (ofZ 1) = Q at *
  rintro e w2 ⟨uf,Sf,rfl,of,lf,b2⟩
  obtain ⟨Af,cf,Bf,df,rfl⟩:=ownQ_form of.here
  have bb2:=Below.next bb1 b2
  have al:=below_al (Below.refl w2.heap.size w2) (.cells #[.bool Q.1.1.1,.slice Af Q.1.1.2.length cf,.slice Bf Q.1.2.length df] 36)
  have kr:=box_new w2 #[.bool Q.1.1.1,.slice Af Q.1.1.2.length cf,.slice Bf Q.1.2.length df] 36
  have z1:=b1.size
  have hz0:=HKO.out
  have HW:=Lib.hid (newV_chg (φ:=fun v=>OwnQ v Q.1) (T:=[w.heap.size+1]) (of.below al) (fun i hi hm=>by have:=(lf i hi).1;simp at hm;omega) (fun i hi=>by simp at hi;omega) (fun i hi=>by have:=(lf i hi).1;have:=bb1.size;omega) (Below.next bb2 al))
  have ko2:=(ko.below b2).below al
  have cz0:=ko2.here.cell 0 _ rfl
  have cz1:=ko2.here.cell 1 _ rfl
  have cz2:=ko2.here.cell 2 _ rfl
  have fz0:=Lib.frozen_of_heap ko2.here 0
  have fz1:=Lib.frozen_of_heap ko2.here 1
  have fz2:=Lib.frozen_of_heap ko2.here 2
  have kr0:=kr.here.cell 0 _ rfl
  have kr1:=kr.here.cell 1 _ rfl
  have kr2:=kr.here.cell 2 _ rfl
  clear ko ko2 of al kr km bb2 b2 hz0
  go_wp2
  refine bodyPost_ret (v:=.agg #[.bool Q.1.1.1,.slice Af Q.1.1.2.length cf,.slice Bf Q.1.2.length df]) (by simp [results,Tryz.results45,go_sem,cz0,cz1,cz2]) rfl ?_
  rw [HV.out]
  refine HW.out _ ?_
  repeat (first | exact Chg.refl _ _ | refine Chg.setCell ?_ (by simp) _)
 ·have hk':okM m = false:=by simpa using hk
  rw [hk']
  have HV:=Lib.hid (show ratM m = zeroQ by unfold ratM;rw [if_neg hk])
  clear hk hk'
  have cz0:=ko.here.cell 0 _ rfl
  have cz1:=ko.here.cell 1 _ rfl
  have cz2:=ko.here.cell 2 _ rfl
  have fz0:=Lib.frozen_of_heap ko.here 0
  have fz1:=Lib.frozen_of_heap ko.here 1
  have fz2:=Lib.frozen_of_heap ko.here 2
  have HW:=Lib.hid (newV_chg (φ:=fun v=>OwnQ v zeroQ) (v:=.agg #[.bool false,.slice none 0 0,.slice none 0 0]) (T:=[w.heap.size+1]) (S:=[]) ⟨⟨_,_,rfl,World.ownsRow_nil _ _ _ _,World.ownsRow_nil _ _ _ _,fun g hg=>by cases hg⟩,fun _ hg=>absurd hg List.not_mem_nil,fun w' _=>⟨_,_,rfl,World.ownsRow_nil _ _ _ _,World.ownsRow_nil _ _ _ _,fun g hg=>by cases hg⟩⟩ (fun i hi=>absurd hi List.not_mem_nil) (fun i hi=>by simp at hi;omega) (fun i hi=>absurd hi List.not_mem_nil) bb1)
  clear ko km
  go_wp2
  refine bodyPost_ret (v:=.agg #[.bool false,.slice none 0 0,.slice none 0 0]) (by simp [results,Tryz.results45,go_sem,cz0,cz1,cz2]) rfl ?_
  rw [HV.out]
  refine HW.out _ ?_
  repeat (first | exact Chg.refl _ _ | refine Chg.setCell ?_ (by simp) _)
end Go.Proofs.YtipbdpdmefcofabGreatDoor
