import Derived.Carry
import Derived.Deep.RegionHeld3
import Derived.Deep.DeepCutAuto
import Derived.Test.YtipbdpdmefcofabGreatDoorJC10
set_option maxRecDepth 100000
namespace Go.Proofs.YtipbdpdmefcofabGreatDoor
open Go.RowKit
open Go.Maps (Keyed)
set_option maxHeartbeats 4000000 in
theorem pairsDiffer_any (v:Value) (l:List EI) (w:World) (hl:l.length ≤ 1048576) (hs:∀ x ∈ l,x.1.size ≤ maxLen∧x.2.1.size ≤ maxLen) (h:RdEL w v l) :
 Calls Tryz.prog 126 #[v] w (Postb (differE l) w):=by
 obtain ⟨A,c,rfl,hc⟩:=h
 have HC:=Lib.hid hc
 have HS:=Lib.hid hs
 clear hc hs
 have hzI:∀ u:World,(zeroValue 3).run Tryz.prog u = .ok (.int .i64 0) u:=fun u=>by kernel_rfl
 have HREL:=Lib.hid (show ∃ (k:Nat) (D:DataW Unit),k ≤ l.length∧Value.int .i64 0 = .int .i64 k∧(w.alloc (.map #[] 0)).ownsMap Tryz.prog 197 (plainElem Tryz.prog 3) w.heap.size k D∧Hid (CntD D (l.take k))∧Below w.heap.size w (w.alloc (.map #[] 0)) from ⟨0,.map [],Nat.zero_le _,rfl,World.ownsMap_made w _ _ _,Lib.hid cntD_nil,(Below.refl _ _).alloc (Nat.le_refl _) _⟩)
 have HZI:=Lib.hid hzI
 clear hzI
 have hmm:=@run_makeMap Tryz.prog
 go_enter Tryz.func126,Tryz.ntmps126
 go_wp2
 go_loopw [11] (fun i wr=>∃ (k:Nat) (D:DataW Unit),k ≤ l.length∧i = .int .i64 k∧wr.ownsMap Tryz.prog 197 (plainElem Tryz.prog 3) w.heap.size k D∧Hid (CntD D (l.take k))∧Below w.heap.size w wr) (fun i _=>l.length - (intOf i).toNat)
 case atStart=>exact HREL.out
 case round =>
  clear HREL
  obtain ⟨k,D,hk,rfl,hown,HD,hb⟩:=hrel
  by_cases hlt:k < l.length
  ·obtain ⟨x,hxk⟩:∃ x,l[k]? = some x:=⟨_,List.getElem?_eq_getElem hlt⟩
   obtain ⟨a,u,rfl,ha,hc0,hc1,hc2,hc3,hc4,hr⟩:=HC.out k x hxk
   obtain ⟨A1,c1,rfl⟩:=row_form hr
   rw [intsV_length] at hc3 hr
   have k0:=(cell_keep5' hb ha k).trans hc0
   have k1:=(cell_keep5 hb ha k 1).trans hc1
   have k2:=(cell_keep5 hb ha k 2).trans hc2
   have k3:=(cell_keep5 hb ha k 3).trans hc3
   have k4:=(cell_keep5 hb ha k 4).trans hc4
   have hsz:=HS.out x (List.mem_of_getElem? hxk)
   obtain ⟨kl,hkl⟩:=pair_key x.1 x.2.1 hsz.1 hsz.2
   have hbx:=below_al (Below.refl wr.heap.size wr) (.cells #[.string x.1,.string x.2.1,.bool x.2.2.1.1,.slice A1 x.2.2.1.2.length c1,.int .i64 x.2.2.2] 89)
   have kx:=box_new wr #[.string x.1,.string x.2.1,.bool x.2.2.1.1,.slice A1 x.2.2.1.2.length c1,.int .i64 x.2.2.2] 89
   have HRX:=Lib.hid (show ∀ W,Below wr.heap.size wr W→RdE W (.agg #[.string x.1,.string x.2.1,.bool x.2.2.1.1,.slice A1 x.2.2.1.2.length c1,.int .i64 x.2.2.2]) x from fun W h=>RdE.below (RdE.below ⟨_,rfl,hr⟩ hb) h)
   have HBX:=Lib.hid hbx
   have HW:=Lib.hid (show ∀ W1,Below wr.heap.size wr W1→∃ (v0:Value) (st:Nat) (W2 W3:World),(Instr.lookup 195 (.map (some w.heap.size)) (.agg #[.string x.1,.string x.2.1]) false).run Tryz.prog W1 = .ok (.int .i64 (cntE (l.take k) x.1 x.2.1)) W1∧(Instr.lookup 195 (.map (some w.heap.size)) (.agg #[.string x.1,.string x.2.1]) false).run Tryz.prog W2 = .ok (.int .i64 (cntE (l.take k) x.1 x.2.1)) W2 ∧
    (Instr.mapEntry 195 (.map (some w.heap.size)) (.agg #[.string x.1,.string x.2.1])).run Tryz.prog W1 = .ok (.tuple #[v0,.int .i64 st]) W2∧(Instr.entryStore 195 (.map (some w.heap.size)) (.int .i64 st) (.int .i64 (cntE (l.take k) x.1 x.2.1+1))).run Tryz.prog W2 = .ok () W3 ∧
    Hid (∃ D':DataW Unit,W3.ownsMap Tryz.prog 197 (plainElem Tryz.prog 3) w.heap.size (k+1) D'∧CntD D' (l.take (k+1))∧Below w.heap.size w W3) from fun W1 hb1=>by
    have ho1:=hown.kept (w':=W1) (row:=none) ⟨hb1.os,hb1.tape,hb1.output,hb1.size,fun i hi _=>hb1.block i hi⟩ (by simp)
    have hcn:=cntE_le (l.take k) x.1 x.2.1
    rw [List.length_take] at hcn
    obtain ⟨v0,st,W2,W3,q1,q2,q3,q4,q5,q6⟩:=count_step pairLaw Tryz.underlying195 Tryz.underlying3 HZI.out ho1 (by unfold maxLen;omega) hkl (HD.out.1 _ _ _ hkl) (by omega) (by omega)
    obtain ⟨es,hes,_⟩:=ho1.entries (Keyed.of_law pairLaw)
    exact ⟨v0,st,W2,W3,q1,q2,q3,q4,Lib.hid ⟨_,q5,cntD_put ⟨es,hes⟩ HD.out hxk hkl,(Below.next hb hb1).grown q6 (by have:=hb.size;have:=hb1.size;omega) (fun i hi=>by cases hi;exact Nat.le_refl _)⟩⟩)
   have hcw:IntKind.i64.wrap ((cntE (l.take k) x.1 x.2.1:Int)+1) = (cntE (l.take k) x.1 x.2.1:Int)+1:=IntWalk.i64_in _ (by have:=cntE_le (l.take k) x.1 x.2.1;rw [List.length_take] at this;omega)
   have kx_c0:=kx.here.cell 0 _ rfl
   have kx_c1:=kx.here.cell 1 _ rfl
   have kx_c2:=kx.here.cell 2 _ rfl
   have kx_c3:=kx.here.cell 3 _ rfl
   have kx_c4:=kx.here.cell 4 _ rfl
   clear hc0 hc1 hc2 hc3 hc4 hr ha hb hbx kx hown HD hkl hsz hxk
   generalize (cntE (l.take k) x.1 x.2.1:Int) = cn at *
   go_wp2_with fail
   go_region_with (go_at_call 153;refine (pairOf_any _ x _ (HRX.out _ (Below.drew1 HBX.out))).mono ?_;rintro e w1 ⟨rfl,b1⟩;obtain ⟨v0,st,W2,W3,q1,q2,q3,q4,HQ⟩:=HW.out w1 ((Below.drew1 HBX.out).trans (b1.mono (by simp))))
   all_goals
    obtain ⟨D',r1,r2,r3⟩:=HQ.out
    go_wp2
    go_roundw
    case rel=>exact ⟨k+1,D',by omega,by go_num,r1,Lib.hid r2,r3⟩
    case measure=>simp [intOf];omega
  ·obtain rfl:k = l.length:=by omega
   have hd:=HD.out
   rw [List.take_length] at hd
   obtain ⟨rb,hrb⟩:∃ r,r = wr.heap.size:=⟨_,rfl⟩
   have HD2:=Lib.hid hd
   clear HD hd HC
   go_wp2_with (first
    | (at_range;refine wpList_range_own _ rfl _ 195 rfl 197 3 (Keyed.of_law pairLaw) Tryz.underlying195 _ w.heap.size l.length D rfl hown ?_;intro w0 hrg0 hg0 hs0)
    | go_in)
   go_frame
   rw [← hrb] at hrg0
   have HSTART:=Lib.hid (show ∃ (left:Lit→Bool) (cnt:Nat),w0.ranges Tryz.prog 197 (plainElem Tryz.prog 3) w.heap.size rb l.length D left cnt∧Hid (∀ a b kl,keyOf Tryz.prog 197 (pairV a b) = some kl→left kl = false→cntE l a b ≤ 1)∧Below w.heap.size w w0 from
    ⟨_,_,hrg0,Lib.hid (fun a b kl h1 h2=>by
     have h3:=HD2.out.1 a b kl h1
     rw [Maps.atKey_of_not_has h2] at h3
     injection h3 with h3
     injection h3 with _ h3
     omega),hb.grown hg0 hb.size (fun i hi=>by cases hi)⟩)
   have HRB:=Lib.hid (show w.heap.size ≤ rb by rw [hrb];exact hb.size)
   clear hrg0 hg0 hs0 hb hown
   rw [← hrb]
   clear hrb
   go_loopw [7] (fun _ wr=>∃ (left:Lit→Bool) (cnt:Nat),wr.ranges Tryz.prog 197 (plainElem Tryz.prog 3) w.heap.size rb l.length D left cnt∧Hid (∀ a b kl,keyOf Tryz.prog 197 (pairV a b) = some kl→left kl = false→cntE l a b ≤ 1)∧Below w.heap.size w wr) (fun _ wr=>wr.rangeLeft w.heap.size rb)
   case atStart=>exact HSTART.out
   case round =>
    clear HSTART
    obtain ⟨left,cnt,hrg,HL,hb⟩:=hrel
    go_wp2_with (first
     | (at_next;refine wpList_next_ranges _ rfl _ rfl 197 (Keyed.of_law pairLaw) (plainElem Tryz.prog 3) (id:Value→Value) (Value.int .i64) (fun key kl _=>⟨key,rfl⟩) (fun v y hv=>by obtain ⟨c,rfl,_⟩:=plainElem_int_inv Tryz.underlying3 hv;exact ⟨c,rfl⟩) w.heap.size rb l.length D left cnt rfl hrg ?_ ?_)
     | go_in)
    ·intro _ hl0
     have HV:=Lib.hid (show differE l = true by
      unfold differE
      rw [List.all_eq_true]
      intro r hr
      obtain ⟨kl,hkl⟩:=pair_key r.1 r.2.1 (HS.out r hr).1 (HS.out r hr).2
      exact decide_eq_true (HL.out _ _ kl hkl (hl0 kl)))
     clear hrg HL
     go_wp2
     go_ret
     exact ⟨ret_bool HV.out.symm,hb⟩
    ·intro x c kl ya yb w1 cnt1 hkey hlk hv hat hrg1 hlt1 hg1 hs1 hen
     obtain ⟨c',e1,e2,_⟩:=plainElem_int_inv Tryz.underlying3 hv
     cases e1
     cases e2
     obtain ⟨r,hr,hkr⟩:=HD2.out.2 kl (Maps.has_true_of_atKey hat)
     have hcn:c = (cntE l r.1 r.2.1:Int):=by
      have h1:=HD2.out.1 _ _ kl hkr
      rw [hat] at h1
      injection h1 with h1
      injection h1 with _ h1
     have hb1:=hb.grown hg1 hb.size (fun i hi=>by cases hi;exact HRB.out)
     by_cases h1:1 < c
     ·have HV:=Lib.hid (show differE l = false by
       rw [Bool.eq_false_iff]
       intro hd
       unfold differE at hd
       rw [List.all_eq_true] at hd
       have:=hd r hr
       rw [decide_eq_true_eq] at this
       omega)
      have hd1:decide ((1:Int) < c) = true:=decide_eq_true h1
      clear hrg hrg1 hv hat hkey hkr hr hcn hlk h1
      go_wp2
      go_ret
      exact ⟨ret_bool HV.out.symm,hb1⟩
     ·have hd1:decide ((1:Int) < c) = false:=decide_eq_false h1
      have HL2:=Lib.hid (show ∀ a b kl',keyOf Tryz.prog 197 (pairV a b) = some kl'→(left kl' && !kl'.sameKey kl) = false→cntE l a b ≤ 1 from fun a b kl' hk' hf=>by
       by_cases e:kl' = kl
       ·subst e
        have h2:=HD2.out.1 a b kl' hk'
        rw [hat] at h2
        injection h2 with h2
        injection h2 with _ h2
        omega
       ·rw [Maps.sameKey_ne e] at hf
        exact HL.out a b kl' hk' (by simpa using hf))
      have HRG:=Lib.hid hrg
      have HRG1:=Lib.hid hrg1
      have HB1:=Lib.hid hb1
      clear hrg hrg1 hv hat hkey hkr hr hcn hlk h1 hb hb1 HL
      go_wp2
      go_roundw
      case rel=>exact ⟨_,cnt1,HRG1.out,HL2,HB1.out⟩
      case measure=>rw [HRG1.out.left_eq,HRG.out.left_eq];omega
end Go.Proofs.YtipbdpdmefcofabGreatDoor
namespace Go.Proofs.YtipbdpdmefcofabGreatDoor
open Go.RowKit
theorem all_okE_snoc {l:List EI} {k:Nat} {x:EI} (h:(l.take k).all okE = true) (hx:l[k]? = some x) (ho:okE x = true):(l.take (k+1)).all okE = true:=by
 have hj:=(List.getElem?_eq_some_iff.1 hx).1
 rw [List.take_succ_eq_append_getElem hj,(List.getElem?_eq_some_iff.1 hx).2,List.all_append,h]
 simp [ho]
theorem known_size3 {s:ByteArray} (hk:knownC s = true):s.size ≤ 3:=by
 obtain ⟨r,hr,e,_⟩:=known_row hk
 rw [← e]
 have h:(specT.all fun r=>decide (r.1.size ≤ 3)) = true:=by decide +kernel
 exact of_decide_eq_true (List.all_eq_true.1 h r hr)
set_option maxHeartbeats 4000000 in
theorem implRatesOk_any (v:Value) (t:TI) (w:World) (hl:t.2.length ≤ 1099511627776) (hx:∀ x ∈ t.2,x.2.2.1.2.length ≤ 1048576) (h:OwnTR w v t) (ht:CurTab w) :
 Calls Tryz.prog 98 #[v] w (Postb (okT t) w):=by
 obtain ⟨A,c,rfl,hr⟩:=ownTR_form h
 have HR:=Lib.hid hr
 have HT:=Lib.hid ht
 clear h hr ht
 have bb0:Below w.heap.size w (w.alloc (.cells #[.string t.1,.slice A t.2.length c] 41)):=below_al (Below.refl _ _) _
 have kt:=box_new w #[.string t.1,.slice A t.2.length c] 41
 go_enter Tryz.func98,Tryz.ntmps98
 have kt_c0:=kt.here.cell 0 _ rfl
 have kt_c1:=kt.here.cell 1 _ rfl
 go_wp2_with fail
 clear kt_c0 kt_c1
 refine (implCurKnown_any t.1 _ (HT.out.below bb0)).mono ?_
 rintro e w1 ⟨rfl,b1⟩
 have bb1:=Below.next bb0 b1
 replace kt:=kt.below b1
 by_cases ok0:knownC t.1 = true
 ·rw [ok0]
  have HO0:=Lib.hid ok0
  clear ok0
  by_cases hn:t.2.length ≤ 12
  ·have hn1:¬ (12:Int) < (t.2.length:Int):=by omega
   have HN:=Lib.hid hn
   have HREL:=Lib.hid (show ∃ k:Nat,k ≤ t.2.length∧Value.int .i64 0 = .int .i64 k∧Hid ((t.2.take k).all okE = true)∧At [w.heap.size] (BoxAt w.heap.size #[.string t.1,.slice A t.2.length c] 41) w1∧Below w.heap.size w w1 from ⟨0,Nat.zero_le _,rfl,Lib.hid rfl,kt,bb1⟩)
   have kt_c0:=kt.here.cell 0 _ rfl
   have kt_c1:=kt.here.cell 1 _ rfl
   clear kt bb0 bb1 b1 hn
   go_wp2
   clear kt_c0 kt_c1
   go_loopw [18] (fun i wr=>∃ k:Nat,k ≤ t.2.length∧i = .int .i64 k∧Hid ((t.2.take k).all okE = true)∧At [w.heap.size] (BoxAt w.heap.size #[.string t.1,.slice A t.2.length c] 41) wr∧Below w.heap.size w wr) (fun i _=>t.2.length - (intOf i).toNat)
   case atStart=>exact HREL.out
   case round =>
    clear HREL
    obtain ⟨k,hk,rfl,HK,kt,hb⟩:=hrel
    by_cases hlt:k < t.2.length
    ·obtain ⟨x,hxk⟩:∃ x,t.2[k]? = some x:=⟨_,List.getElem?_eq_getElem hlt⟩
     have hrb:=HR.out.below hb
     obtain ⟨A',c',e',hc'⟩:=hrb
     obtain ⟨a,u,ea,ha,hc0,hc1,hc2,hc3,hc4,hr⟩:=hc' k x hxk
     have e0:A = A':=by injection e' with e1 e2 e3
     subst e0
     subst ea
     obtain ⟨A1,c1,rfl⟩:=own_len hr
     have hxm:=List.mem_of_getElem? hxk
     have hxl:=hx x hxm
     have hbx:=below_al (Below.refl wr.heap.size wr) (.cells #[.string x.1,.string x.2.1,.bool x.2.2.1.1,.slice A1 x.2.2.1.2.length c1,.int .i64 x.2.2.2] 89)
     have kx:=box_new wr #[.string x.1,.string x.2.1,.bool x.2.2.1.1,.slice A1 x.2.2.1.2.length c1,.int .i64 x.2.2.2] 89
     have OX:=Lib.hid (show ∀ W,Below (wr.alloc (.cells #[.string x.1,.string x.2.1,.bool x.2.2.1.1,.slice A1 x.2.2.1.2.length c1,.int .i64 x.2.2.2] 89)).heap.size (wr.alloc (.cells #[.string x.1,.string x.2.1,.bool x.2.2.1.1,.slice A1 x.2.2.1.2.length c1,.int .i64 x.2.2.2] 89)) W→OwnE (.agg #[.string x.1,.string x.2.1,.bool x.2.2.1.1,.slice A1 x.2.2.1.2.length c1,.int .i64 x.2.2.2]) x W from fun W h=>OwnE.mk (own_below (own_below hr hbx) h))
     have bb:=Below.next hb hbx
     replace kt:=kt.below hbx
     have HNO:=Lib.hid (show ¬ okE x = true→okT t = false from fun h=>by rw [okT_pairs,all_okE_bad hxm h,Bool.false_and,Bool.and_false,Bool.and_false])
     have HXK:=Lib.hid hxk
     have cx0:=kx.here.cell 0 _ rfl
     have cx1:=kx.here.cell 1 _ rfl
     have cx2:=kx.here.cell 2 _ rfl
     have cx3:=kx.here.cell 3 _ rfl
     have cx4:=kx.here.cell 4 _ rfl
     clear hb hbx hr hc' e' ha hxm hxk kx
     have hlt':=hlt
     go_wp2_with fail
     clear cx0 cx1 cx2 cx3 cx4 hc0 hc1 hc2 hc3 hc4
     refine (implRateOk_any _ x _ hxl (OX.out _ (Below.refl _ _)) (HT.out.below bb)).mono ?_
     rintro e w2 ⟨rfl,b2⟩
     have bb2:=Below.next bb b2
     have KT:=Lib.hid (kt.below b2)
     clear kt b2 bb
     by_cases okx:okE x = true
     ·rw [okx]
      have HNX:=Lib.hid (all_okE_snoc HK.out HXK.out okx)
      clear okx
      go_wp2
      go_roundw
      case rel=>exact ⟨k+1,by omega,by go_num,HNX,KT.out,bb2⟩
      case measure=>simp [intOf];omega
     ·have okx':okE x = false:=by simpa using okx
      have HV:=Lib.hid (HNO.out okx)
      rw [okx']
      clear okx okx'
      go_wp2
      go_ret
      exact ⟨ret_bool HV.out.symm,bb2⟩
    ·obtain rfl:k = t.2.length:=by omega
     have hall:=HK.out
     rw [List.take_length] at hall
     have HV:=Lib.hid (show okT t = differE t.2 by rw [okT_pairs,HO0.out,decide_eq_true HN.out,hall];rfl)
     have hsz:∀ x ∈ t.2,x.1.size ≤ maxLen∧x.2.1.size ≤ maxLen:=fun x hm=>by
      have hp:=okE_parts (List.all_eq_true.1 hall x hm)
      have h1:=known_size3 hp.1
      have h2:=known_size3 hp.2.1
      unfold maxLen
      omega
     have hpd:=pairsDiffer_any (.slice A t.2.length c) t.2 wr (by have:=HN.out;omega) hsz (HR.out.below hb).rd
     have HB:=Lib.hid hb
     have kt_c0:=kt.here.cell 0 _ rfl
     have kt_c1:=kt.here.cell 1 _ rfl
     clear hall hsz hb kt
     go_wp2_with fail
     refine hpd.mono ?_
     rintro e w2 ⟨rfl,b2⟩
     have bb2:=Below.next HB.out b2
     clear kt_c0 kt_c1
     go_wp2
     go_ret
     exact ⟨ret_bool HV.out.symm,bb2⟩
  ·have hn1:(12:Int) < (t.2.length:Int):=by omega
   have HV:=Lib.hid (show okT t = false by rw [okT_rows,decide_eq_false hn,Bool.false_and,Bool.and_false])
   have kt_c0:=kt.here.cell 0 _ rfl
   have kt_c1:=kt.here.cell 1 _ rfl
   clear kt bb0 b1 hn
   go_wp2
   go_ret
   exact ⟨ret_bool HV.out.symm,bb1⟩
 ·have ok0':knownC t.1 = false:=by simpa using ok0
  have HV:=Lib.hid (show okT t = false by rw [okT_rows,ok0',Bool.false_and])
  rw [ok0']
  clear ok0 ok0' kt
  go_wp2
  go_ret
  exact ⟨ret_bool HV.out.symm,bb1⟩
set_option maxHeartbeats 4000000 in
theorem pivotRate_any (v:Value) (t:TI) (p q:ByteArray) (w:World) (hl:t.2.length ≤ 1099511627776) (hx:∀ x ∈ t.2,x.2.2.1.2.length ≤ 1048576) (h:OwnTR w v t) (hsen:Sen w) :
 Calls Tryz.prog 156 #[v,.string p,.string q] w (PostQn (pivT t p q).1 (pivT t p q).2 w):=by
 have HS:=Lib.hid hsen
 clear hsen
 obtain ⟨A,c,rfl,hr⟩:=ownTR_form h
 have HR:=Lib.hid (show ∀ W,Below w.heap.size w W→OwnER W (.slice A t.2.length c) t.2 from fun W h=>hr.below h)
 have HTR:=Lib.hid (show ∀ W,Below w.heap.size w W→OwnTR W (.agg #[.string t.1,.slice A t.2.length c]) t from fun W h=>⟨_,rfl,hr.below h⟩)
 clear h hr
 have bb0:Below w.heap.size w ((w.alloc (.cells #[.string t.1,.slice A t.2.length c] 41)).alloc (.cells #[.bool false,.slice none 0 0,.slice none 0 0] 36)):=below_al (below_al (Below.refl _ _) _) _
 have kt:=(box_new w #[.string t.1,.slice A t.2.length c] 41).below (below_al (Below.refl _ _) (.cells #[.bool false,.slice none 0 0,.slice none 0 0] 36))
 have ko:=(box_new (w.alloc (.cells #[.string t.1,.slice A t.2.length c] 41)) #[.bool false,.slice none 0 0,.slice none 0 0] 36)
 rw [show (w.alloc (.cells #[.string t.1,.slice A t.2.length c] 41)).heap.size = w.heap.size+1 by simp] at ko
 have HKO:=Lib.hid (ko.lt (w.heap.size+1) (by simp))
 obtain ⟨⟨X,x⟩,hX⟩:∃ r,storeT t.2 p t.1 = r:=⟨_,rfl⟩
 obtain ⟨⟨Y,y⟩,hY⟩:∃ r,storeT t.2 t.1 q = r:=⟨_,rfl⟩
 have HPV:=Lib.hid (pivT_of hX hY)
 have hsX:szQ X ≤ 1048576:=by have:=storeT_sz t.2 p t.1;rw [hX] at this;exact this
 have hsY:szQ Y ≤ 1048576:=by have:=storeT_sz t.2 t.1 q;rw [hY] at this;exact this
 have HX:=Lib.hid hX
 have HY:=Lib.hid hY
 clear hX hY
 obtain ⟨R,hR⟩:∃ R,pivT t p q = R:=⟨_,rfl⟩
 have EQ:=Lib.hid hR
 rw [hR]
 clear hR
 go_enter Tryz.func156,Tryz.ntmps156
 have kt_c0:=kt.here.cell 0 _ rfl
 have kt_c1:=kt.here.cell 1 _ rfl
 go_wp2_with fail
 clear kt_c0 kt_c1
 refine ((storedRate_any _ t.2 p t.1 _ hl hx (HR.out _ bb0) (HS.out.below bb0)).mono fun _ _ h=>postQn_is HX.out h).mono ?_
 rintro e w1 ⟨u1,S1,rfl,o1,l1,b1⟩
 obtain ⟨A1,c1,B1,d1,rfl⟩:=ownQ_form o1.here
 have hz1:w.heap.size+1+1 ≤ w1.heap.size:=by have:=b1.size;simp at this;omega
 have bb1:=Below.next bb0 b1
 replace kt:=kt.below b1
 replace ko:=ko.below b1
 have kx:=box_new (w1) #[.bool X.1.1,.slice A1 X.1.2.length c1,.slice B1 X.2.length d1] 36
 have alx:=below_al (Below.refl (w1).heap.size (w1)) (.cells #[.bool X.1.1,.slice A1 X.1.2.length c1,.slice B1 X.2.length d1] 36)
 have bbx:=Below.next bb1 alx
 replace kt:=kt.below alx
 replace ko:=ko.below alx
 replace o1:=o1.below alx
 have kt_c0:=kt.here.cell 0 _ rfl
 have kt_c1:=kt.here.cell 1 _ rfl
 go_wp2_with fail
 clear kt_c0 kt_c1
 refine ((storedRate_any _ t.2 t.1 q _ hl hx (HR.out _ bbx) (HS.out.below bbx)).mono fun _ _ h=>postQn_is HY.out h).mono ?_
 rintro e w2 ⟨u2,S2,rfl,o2,l2,b2⟩
 obtain ⟨A2,c2,B2,d2,rfl⟩:=ownQ_form o2.here
 have hz2:w1.heap.size+1 ≤ w2.heap.size:=by have:=b2.size;simp at this;omega
 have bb2:=Below.next bbx b2
 replace kt:=kt.below b2
 replace ko:=ko.below b2
 replace o1:=o1.below b2
 replace kx:=kx.below b2
 have cy0:=ko.here.cell 0 _ rfl
 have fy0:=Lib.frozen_of_heap ko.here 0
 have cy1:=ko.here.cell 1 _ rfl
 have fy1:=Lib.frozen_of_heap ko.here 1
 have cy2:=ko.here.cell 2 _ rfl
 have fy2:=Lib.frozen_of_heap ko.here 2
 have hlo:w.heap.size+1 < w2.heap.size:=by omega
 have hlo1:¬ w.heap.size+1 = w2.heap.size:=by omega
 have hlo2:¬ w2.heap.size = w.heap.size+1:=by omega
 have ky:=box_new (w2) #[.bool Y.1.1,.slice A2 Y.1.2.length c2,.slice B2 Y.2.length d2] 36
 have aly:=below_al (Below.refl (w2).heap.size (w2)) (.cells #[.bool Y.1.1,.slice A2 Y.1.2.length c2,.slice B2 Y.2.length d2] 36)
 have bby:=Below.next bb2 aly
 replace kt:=kt.below aly
 replace ko:=ko.below aly
 replace o1:=o1.below aly
 replace kx:=kx.below aly
 replace o2:=o2.below aly
 clear kt
 by_cases hx0:x = 0
 ·have HV:=Lib.hid (EQ.out.symm.trans (HPV.out.trans (if_pos (.inl hx0))))
  clear HX HY HPV
  subst hx0
  have HW:=Lib.hid (newQn_zero (T:=[w.heap.size+1]) (fun i hi=>by simp at hi;omega) bb2)
  clear ko kx ky o1 o2
  go_wp2
  refine bodyPost_ret (v:=.tuple #[.agg #[.bool false,.slice none 0 0,.slice none 0 0],.int .i64 0]) (by simp [results,Tryz.results156,go_sem,cy0,cy1,cy2,hlo]) rfl ?_
  rw [show R.1 = zeroQ by rw [HV.out],show R.2 = 0 by rw [HV.out]]
  refine HW.out _ ?_
  repeat (first | with_reducible exact Chg.refl _ _ | with_reducible refine Chg.setCell ?_ (by simp) _ | with_reducible refine Chg.trans ?_ (Chg.of_below (below_al (Below.refl _ _) _)))
 ·have hx1:(x == (0:Int)) = false:=by simpa using hx0
  by_cases hy0:y = 0
  ·have HV:=Lib.hid (EQ.out.symm.trans (HPV.out.trans (if_pos (.inr hy0))))
   clear HX HY HPV
   subst hy0
   clear hx0
   have HW:=Lib.hid (newQn_zero (T:=[w.heap.size+1]) (fun i hi=>by simp at hi;omega) bb2)
   clear ko kx ky o1 o2
   go_wp2
   refine bodyPost_ret (v:=.tuple #[.agg #[.bool false,.slice none 0 0,.slice none 0 0],.int .i64 0]) (by simp [results,Tryz.results156,go_sem,cy0,cy1,cy2,hlo]) rfl ?_
   rw [show R.1 = zeroQ by rw [HV.out],show R.2 = 0 by rw [HV.out]]
   refine HW.out _ ?_
   repeat (first | with_reducible exact Chg.refl _ _ | with_reducible refine Chg.setCell ?_ (by simp) _ | with_reducible refine Chg.trans ?_ (Chg.of_below (below_al (Below.refl _ _) _)))
  ·have hy1:(y == (0:Int)) = false:=by simpa using hy0
   have HV:=Lib.hid (EQ.out.symm.trans (HPV.out.trans (if_neg (fun hh=>hh.elim hx0 hy0))))
   clear hx0 hy0 HX HY HPV
   have kx_c0:=kx.here.cell 0 _ rfl
   have kx_c1:=kx.here.cell 1 _ rfl
   have kx_c2:=kx.here.cell 2 _ rfl
   have ky_c0:=ky.here.cell 0 _ rfl
   have ky_c1:=ky.here.cell 1 _ rfl
   have ky_c2:=ky.here.cell 2 _ rfl
   go_wp2_with fail
   clear kx_c0 kx_c1 kx_c2 ky_c0 ky_c1 ky_c2
   refine (implRatMul_any _ _ X Y _ hsX hsY o1.here o2.here (HS.out.below bby)).mono ?_
   rintro e w3 ⟨u3,S3,rfl,o3,l3,b3⟩
   obtain ⟨A3,c3,B3,d3,rfl⟩:=ownQ_form o3.here
   have hz3:w2.heap.size+1 ≤ w3.heap.size:=by have:=b3.size;simp at this;omega
   have bb3:=Below.next bby b3
   replace ko:=ko.below b3
   replace o1:=o1.below b3
   replace kx:=kx.below b3
   replace o2:=o2.below b3
   replace ky:=ky.below b3
   clear cy0 cy1 cy2 fy0 fy1 fy2 hlo hlo1 hlo2
   have o3P:=o3
   have cy0:=ko.here.cell 0 _ rfl
   have fy0:=Lib.frozen_of_heap ko.here 0
   have cy1:=ko.here.cell 1 _ rfl
   have fy1:=Lib.frozen_of_heap ko.here 1
   have cy2:=ko.here.cell 2 _ rfl
   have fy2:=Lib.frozen_of_heap ko.here 2
   have hlo:w.heap.size+1 < w3.heap.size:=by omega
   have hlo1:¬ w.heap.size+1 = w3.heap.size:=by omega
   have hlo2:¬ w3.heap.size = w.heap.size+1:=by omega
   have kz:=box_new (w3) #[.bool (mulQ X Y).1.1.1,.slice A3 (mulQ X Y).1.1.2.length c3,.slice B3 (mulQ X Y).1.2.length d3] 36
   have alz:=below_al (Below.refl (w3).heap.size (w3)) (.cells #[.bool (mulQ X Y).1.1.1,.slice A3 (mulQ X Y).1.1.2.length c3,.slice B3 (mulQ X Y).1.2.length d3] 36)
   have bbz:=Below.next bb3 alz
   replace ko:=ko.below alz
   replace o1:=o1.below alz
   replace kx:=kx.below alz
   replace o2:=o2.below alz
   replace ky:=ky.below alz
   replace o3:=o3.below alz
   have HW:=Lib.hid (newQn_chg (R0:=(mulQ X Y).1) (R1:=4) (v:=.agg #[.bool (mulQ X Y).1.1.1,.slice A3 (mulQ X Y).1.1.2.length c3,.slice B3 (mulQ X Y).1.2.length d3]) (T:=[w.heap.size+1]) o3P (fun i hi hm=>by have:=(l3 i hi).1;(try simp at this);simp at hm;omega) (fun i hi=>by simp at hi;omega) (fun i hi=>by have:=(l3 i hi).1;(try simp at this);omega) bb3)
   clear kz
   clear ko kx ky o1 o2 o3 o3P l3 hx1 hy1
   go_wp2
   refine bodyPost_ret (v:=.tuple #[.agg #[.bool (mulQ X Y).1.1.1,.slice A3 (mulQ X Y).1.1.2.length c3,.slice B3 (mulQ X Y).1.2.length d3],.int .i64 4]) (by simp [results,Tryz.results156,go_sem,cy0,cy1,cy2,hlo]) rfl ?_
   rw [show R.1 = (mulQ X Y).1 by rw [HV.out],show R.2 = 4 by rw [HV.out]]
   refine HW.out _ ?_
   repeat (first | with_reducible exact Chg.refl _ _ | with_reducible refine Chg.setCell ?_ (by simp) _ | with_reducible refine Chg.trans ?_ (Chg.of_below (below_al (Below.refl _ _) _)))
set_option maxHeartbeats 4000000 in
theorem findRate_any (v:Value) (t:TI) (p q:ByteArray) (w:World) (hl:t.2.length ≤ 1099511627776) (hx:∀ x ∈ t.2,x.2.2.1.2.length ≤ 1048576) (h:OwnTR w v t) (ht:CurTab w) (hsen:Sen w) :
 Calls Tryz.prog 129 #[v,.string p,.string q] w (PostQn (findT t p q).1 (findT t p q).2 w):=by
 have HS:=Lib.hid hsen
 clear hsen
 have HT:=Lib.hid ht
 clear ht
 obtain ⟨A,c,rfl,hr⟩:=ownTR_form h
 have HR:=Lib.hid (show ∀ W,Below w.heap.size w W→OwnER W (.slice A t.2.length c) t.2 from fun W h=>hr.below h)
 have HTR:=Lib.hid (show ∀ W,Below w.heap.size w W→OwnTR W (.agg #[.string t.1,.slice A t.2.length c]) t from fun W h=>⟨_,rfl,hr.below h⟩)
 clear h hr
 have bb0:Below w.heap.size w ((w.alloc (.cells #[.string t.1,.slice A t.2.length c] 41)).alloc (.cells #[.bool false,.slice none 0 0,.slice none 0 0] 36)):=below_al (below_al (Below.refl _ _) _) _
 have kt:=(box_new w #[.string t.1,.slice A t.2.length c] 41).below (below_al (Below.refl _ _) (.cells #[.bool false,.slice none 0 0,.slice none 0 0] 36))
 have ko:=(box_new (w.alloc (.cells #[.string t.1,.slice A t.2.length c] 41)) #[.bool false,.slice none 0 0,.slice none 0 0] 36)
 rw [show (w.alloc (.cells #[.string t.1,.slice A t.2.length c] 41)).heap.size = w.heap.size+1 by simp] at ko
 have HKO:=Lib.hid (ko.lt (w.heap.size+1) (by simp))
 obtain ⟨R,hR⟩:∃ R,findT t p q = R:=⟨_,rfl⟩
 have EQ:=Lib.hid hR
 rw [hR]
 clear hR
 go_enter Tryz.func129,Tryz.ntmps129
 have kt_c0:=kt.here.cell 0 _ rfl
 have kt_c1:=kt.here.cell 1 _ rfl
 go_wp2_with fail
 clear kt_c0 kt_c1
 refine (implRatesOk_any _ t _ hl hx (HTR.out _ bb0) (HT.out.below bb0)).mono ?_
 rintro e w1 ⟨rfl,b1⟩
 have hz1:w.heap.size+1+1 ≤ w1.heap.size:=by have:=b1.size;simp at this;omega
 have bb1:=Below.next bb0 b1
 replace kt:=kt.below b1
 replace ko:=ko.below b1
 by_cases ok0:okT t = true
 ·rw [ok0]
  have HOok0:=Lib.hid ok0
  clear ok0
  have kt_c0:=kt.here.cell 0 _ rfl
  have kt_c1:=kt.here.cell 1 _ rfl
  go_wp2_with fail
  clear kt_c0 kt_c1
  refine (implCurKnown_any p _ (HT.out.below bb1)).mono ?_
  rintro e w2 ⟨rfl,b2⟩
  have hz2:=b2.size
  have bb2:=Below.next bb1 b2
  replace kt:=kt.below b2
  replace ko:=ko.below b2
  by_cases ok1:knownC p = true
  ·rw [ok1]
   have HOok1:=Lib.hid ok1
   clear ok1
   have kt_c0:=kt.here.cell 0 _ rfl
   have kt_c1:=kt.here.cell 1 _ rfl
   go_wp2_with fail
   clear kt_c0 kt_c1
   refine (implCurKnown_any q _ (HT.out.below bb2)).mono ?_
   rintro e w3 ⟨rfl,b3⟩
   have hz3:=b3.size
   have bb3:=Below.next bb2 b3
   replace kt:=kt.below b3
   replace ko:=ko.below b3
   by_cases ok2:knownC q = true
   ·rw [ok2]
    have HOok2:=Lib.hid ok2
    clear ok2
    by_cases ab:p = q
    ·have HV:=Lib.hid (show R = (unitQ.1,1) from EQ.out.symm.trans (by unfold findT;rw [if_pos ⟨HOok0.out,HOok1.out,HOok2.out⟩,if_pos ab]))
     have e1:(p.toList == q.toList) = true:=by rw [ab];exact beq_self_eq_true _
     clear ab
     go_wp2_with fail
     refine (unitRat_any _ (HS.out.below bb3)).mono ?_
     rintro e w4 ⟨u4,S4,rfl,o4,l4,b4⟩
     obtain ⟨A4,c4,B4,d4,rfl⟩:=ownQ_form o4.here
     have bb4:=Below.next bb3 b4
     replace kt:=kt.below b4
     replace ko:=ko.below b4
     clear kt
     have HW:=Lib.hid (newQn_chg (R0:=unitQ.1) (R1:=1) (v:=.agg #[.bool unitQ.1.1.1,.slice A4 unitQ.1.1.2.length c4,.slice B4 unitQ.1.2.length d4]) (T:=[w.heap.size+1]) o4 (fun i hi hm=>by have:=(l4 i hi).1;(try simp at this);simp at hm;omega) (fun i hi=>by simp at hi;omega) (fun i hi=>by have:=(l4 i hi).1;(try simp at this);omega) bb4)
     have cz0:=ko.here.cell 0 _ rfl
     have fz0:=Lib.frozen_of_heap ko.here 0
     have cz1:=ko.here.cell 1 _ rfl
     have fz1:=Lib.frozen_of_heap ko.here 1
     have cz2:=ko.here.cell 2 _ rfl
     have fz2:=Lib.frozen_of_heap ko.here 2
     clear ko o4 l4 e1
     go_wp2
     refine bodyPost_ret (v:=.tuple #[.agg #[.bool unitQ.1.1.1,.slice A4 unitQ.1.1.2.length c4,.slice B4 unitQ.1.2.length d4],.int .i64 1]) (by simp [results,Tryz.results129,go_sem,cz0,cz1,cz2]) rfl ?_
     rw [show R.1 = unitQ.1 by rw [HV.out],show R.2 = 1 by rw [HV.out]]
     refine HW.out _ ?_
     repeat (first | with_reducible exact Chg.refl _ _ | with_reducible refine Chg.setCell ?_ (by simp) _ | with_reducible refine Chg.trans ?_ (Chg.of_below (below_al (Below.refl _ _) _)))
    ·have e1:=bytes_neC ab
     obtain ⟨⟨X,x⟩,hX⟩:∃ r,storeT t.2 p q = r:=⟨_,rfl⟩
     have HV0:=Lib.hid (EQ.out.symm.trans (findT_of ⟨HOok0.out,HOok1.out,HOok2.out⟩ ab hX))
     have HX:=Lib.hid hX
     clear ab hX
     have kt_c0:=kt.here.cell 0 _ rfl
     have kt_c1:=kt.here.cell 1 _ rfl
     go_wp2_with fail
     clear kt_c0 kt_c1
     refine ((storedRate_any _ t.2 p q _ hl hx (HR.out _ bb3) (HS.out.below bb3)).mono fun _ _ h=>postQn_is HX.out h).mono ?_
     rintro e w4 ⟨u4,S4,rfl,o4,l4,b4⟩
     obtain ⟨A4,c4,B4,d4,rfl⟩:=ownQ_form o4.here
     have hz4:=b4.size
     have bb4:=Below.next bb3 b4
     replace kt:=kt.below b4
     replace ko:=ko.below b4
     have o4P:=o4
     have cy0:=ko.here.cell 0 _ rfl
     have fy0:=Lib.frozen_of_heap ko.here 0
     have cy1:=ko.here.cell 1 _ rfl
     have fy1:=Lib.frozen_of_heap ko.here 1
     have cy2:=ko.here.cell 2 _ rfl
     have fy2:=Lib.frozen_of_heap ko.here 2
     have hlo:w.heap.size+1 < w4.heap.size:=by omega
     have hlo1:¬ w.heap.size+1 = w4.heap.size:=by omega
     have hlo2:¬ w4.heap.size = w.heap.size+1:=by omega
     have kx:=box_new (w4) #[.bool X.1.1,.slice A4 X.1.2.length c4,.slice B4 X.2.length d4] 36
     have alx:=below_al (Below.refl (w4).heap.size (w4)) (.cells #[.bool X.1.1,.slice A4 X.1.2.length c4,.slice B4 X.2.length d4] 36)
     have bbx:=Below.next bb4 alx
     replace kt:=kt.below alx
     replace ko:=ko.below alx
     replace o4:=o4.below alx
     clear e1
     by_cases hx0:x = 0
     ·obtain ⟨⟨Y,y⟩,hY⟩:∃ r,pivT t p q = r:=⟨_,rfl⟩
      have HV:=Lib.hid (show R = (Y,y) from HV0.out.trans ((if_pos hx0).trans hY))
      have HY:=Lib.hid hY
      clear hY HX HV0
      subst hx0
      have kt_c0:=kt.here.cell 0 _ rfl
      have kt_c1:=kt.here.cell 1 _ rfl
      go_wp2_with fail
      clear kt_c0 kt_c1
      refine ((pivotRate_any _ t p q _ hl hx (HTR.out _ bbx) (HS.out.below bbx)).mono fun _ _ h=>postQn_is HY.out h).mono ?_
      rintro e w5 ⟨u5,S5,rfl,o5,l5,b5⟩
      obtain ⟨A5,c5,B5,d5,rfl⟩:=ownQ_form o5.here
      have hz5:w4.heap.size+1 ≤ w5.heap.size:=by have:=b5.size;simp at this;omega
      have bb5:=Below.next bbx b5
      replace kt:=kt.below b5
      replace ko:=ko.below b5
      replace o4:=o4.below b5
      replace kx:=kx.below b5
      clear kt
      clear cy0 cy1 cy2 fy0 fy1 fy2 hlo hlo1 hlo2
      have HW:=Lib.hid (newQn_chg (R0:=Y) (R1:=y) (v:=.agg #[.bool Y.1.1,.slice A5 Y.1.2.length c5,.slice B5 Y.2.length d5]) (T:=[w.heap.size+1]) o5 (fun i hi hm=>by have:=(l5 i hi).1;(try simp at this);simp at hm;omega) (fun i hi=>by simp at hi;omega) (fun i hi=>by have:=(l5 i hi).1;(try simp at this);omega) bb5)
      have cz0:=ko.here.cell 0 _ rfl
      have fz0:=Lib.frozen_of_heap ko.here 0
      have cz1:=ko.here.cell 1 _ rfl
      have fz1:=Lib.frozen_of_heap ko.here 1
      have cz2:=ko.here.cell 2 _ rfl
      have fz2:=Lib.frozen_of_heap ko.here 2
      clear ko o4 o4P l4 kx o5 l5
      go_wp2
      refine bodyPost_ret (v:=.tuple #[.agg #[.bool Y.1.1,.slice A5 Y.1.2.length c5,.slice B5 Y.2.length d5],.int .i64 y]) (by simp [results,Tryz.results129,go_sem,cz0,cz1,cz2]) rfl ?_
      rw [show R.1 = Y by rw [HV.out],show R.2 = y by rw [HV.out]]
      refine HW.out _ ?_
      repeat (first | with_reducible exact Chg.refl _ _ | with_reducible refine Chg.setCell ?_ (by simp) _ | with_reducible refine Chg.trans ?_ (Chg.of_below (below_al (Below.refl _ _) _)))
     ·have HV:=Lib.hid (show R = (X,x) from HV0.out.trans (if_neg hx0))
      have hx1:(x != (0:Int)) = true:=by simpa using hx0
      clear hx0 kt HX HV0
      have HW:=Lib.hid (newQn_chg (R0:=X) (R1:=x) (v:=.agg #[.bool X.1.1,.slice A4 X.1.2.length c4,.slice B4 X.2.length d4]) (T:=[w.heap.size+1]) o4P (fun i hi hm=>by have:=(l4 i hi).1;(try simp at this);simp at hm;omega) (fun i hi=>by simp at hi;omega) (fun i hi=>by have:=(l4 i hi).1;(try simp at this);omega) bb4)
      clear kx
      clear ko o4 o4P l4
      go_wp2
      refine bodyPost_ret (v:=.tuple #[.agg #[.bool X.1.1,.slice A4 X.1.2.length c4,.slice B4 X.2.length d4],.int .i64 x]) (by simp [results,Tryz.results129,go_sem,cy0,cy1,cy2,hlo]) rfl ?_
      rw [show R.1 = X by rw [HV.out],show R.2 = x by rw [HV.out]]
      refine HW.out _ ?_
      repeat (first | with_reducible exact Chg.refl _ _ | with_reducible refine Chg.setCell ?_ (by simp) _ | with_reducible refine Chg.trans ?_ (Chg.of_below (below_al (Below.refl _ _) _)))
   ·have ok2':knownC q = false:=by simpa using ok2
    have HV:=Lib.hid (show R = (zeroQ,0) from EQ.out.symm.trans (by unfold findT;rw [if_neg (fun h=>ok2 h.2.2)]))
    rw [ok2']
    clear ok2 ok2' kt
    have HW:=Lib.hid (newQn_zero (T:=[w.heap.size+1]) (fun i hi=>by simp at hi;omega) bb3)
    have cz0:=ko.here.cell 0 _ rfl
    have fz0:=Lib.frozen_of_heap ko.here 0
    have cz1:=ko.here.cell 1 _ rfl
    have fz1:=Lib.frozen_of_heap ko.here 1
    have cz2:=ko.here.cell 2 _ rfl
    have fz2:=Lib.frozen_of_heap ko.here 2
    clear ko
    go_wp2
    refine bodyPost_ret (v:=.tuple #[.agg #[.bool false,.slice none 0 0,.slice none 0 0],.int .i64 0]) (by simp [results,Tryz.results129,go_sem,cz0,cz1,cz2]) rfl ?_
    rw [show R.1 = zeroQ by rw [HV.out],show R.2 = 0 by rw [HV.out]]
    refine HW.out _ ?_
    repeat (first | with_reducible exact Chg.refl _ _ | with_reducible refine Chg.setCell ?_ (by simp) _ | with_reducible refine Chg.trans ?_ (Chg.of_below (below_al (Below.refl _ _) _)))
  ·have ok1':knownC p = false:=by simpa using ok1
   have HV:=Lib.hid (show R = (zeroQ,0) from EQ.out.symm.trans (by unfold findT;rw [if_neg (fun h=>ok1 h.2.1)]))
   rw [ok1']
   clear ok1 ok1' kt
   have HW:=Lib.hid (newQn_zero (T:=[w.heap.size+1]) (fun i hi=>by simp at hi;omega) bb2)
   have cz0:=ko.here.cell 0 _ rfl
   have fz0:=Lib.frozen_of_heap ko.here 0
   have cz1:=ko.here.cell 1 _ rfl
   have fz1:=Lib.frozen_of_heap ko.here 1
   have cz2:=ko.here.cell 2 _ rfl
   have fz2:=Lib.frozen_of_heap ko.here 2
   clear ko
   go_wp2
   refine bodyPost_ret (v:=.tuple #[.agg #[.bool false,.slice none 0 0,.slice none 0 0],.int .i64 0]) (by simp [results,Tryz.results129,go_sem,cz0,cz1,cz2]) rfl ?_
   rw [show R.1 = zeroQ by rw [HV.out],show R.2 = 0 by rw [HV.out]]
   refine HW.out _ ?_
   repeat (first | with_reducible exact Chg.refl _ _ | with_reducible refine Chg.setCell ?_ (by simp) _ | with_reducible refine Chg.trans ?_ (Chg.of_below (below_al (Below.refl _ _) _)))
 ·have ok0':okT t = false:=by simpa using ok0
  have HV:=Lib.hid (show R = (zeroQ,0) from EQ.out.symm.trans (by unfold findT;rw [if_neg (fun h=>ok0 h.1)]))
  rw [ok0']
  clear ok0 ok0' kt
  have HW:=Lib.hid (newQn_zero (T:=[w.heap.size+1]) (fun i hi=>by simp at hi;omega) bb1)
  have cz0:=ko.here.cell 0 _ rfl
  have fz0:=Lib.frozen_of_heap ko.here 0
  have cz1:=ko.here.cell 1 _ rfl
  have fz1:=Lib.frozen_of_heap ko.here 1
  have cz2:=ko.here.cell 2 _ rfl
  have fz2:=Lib.frozen_of_heap ko.here 2
  clear ko
  go_wp2
  refine bodyPost_ret (v:=.tuple #[.agg #[.bool false,.slice none 0 0,.slice none 0 0],.int .i64 0]) (by simp [results,Tryz.results129,go_sem,cz0,cz1,cz2]) rfl ?_
  rw [show R.1 = zeroQ by rw [HV.out],show R.2 = 0 by rw [HV.out]]
  refine HW.out _ ?_
  repeat (first | with_reducible exact Chg.refl _ _ | with_reducible refine Chg.setCell ?_ (by simp) _ | with_reducible refine Chg.trans ?_ (Chg.of_below (below_al (Below.refl _ _) _)))
set_option maxHeartbeats 4000000 in
theorem implRateHow_any (v:Value) (t:TI) (p q:ByteArray) (w:World) (hl:t.2.length ≤ 1099511627776) (hx:∀ x ∈ t.2,x.2.2.1.2.length ≤ 1048576) (h:OwnTR w v t) (ht:CurTab w) (hsen:Sen w) :
 Calls Tryz.prog 102 #[v,.string p,.string q] w (Postn (howT t p q) w):=by
 have HS:=Lib.hid hsen
 clear hsen
 have HT:=Lib.hid ht
 clear ht
 obtain ⟨A,c,rfl,hr⟩:=ownTR_form h
 have HR:=Lib.hid (show ∀ W,Below w.heap.size w W→OwnER W (.slice A t.2.length c) t.2 from fun W h=>hr.below h)
 have HTR:=Lib.hid (show ∀ W,Below w.heap.size w W→OwnTR W (.agg #[.string t.1,.slice A t.2.length c]) t from fun W h=>⟨_,rfl,hr.below h⟩)
 clear h hr
 have bb0:Below w.heap.size w (w.alloc (.cells #[.string t.1,.slice A t.2.length c] 41)):=below_al (Below.refl _ _) _
 have kt:=(box_new w #[.string t.1,.slice A t.2.length c] 41)
 obtain ⟨⟨X,x⟩,hX⟩:∃ r,findT t p q = r:=⟨_,rfl⟩
 have HX:=Lib.hid hX
 have HV:=Lib.hid (show howT t p q = x by rw [← find_how,hX])
 clear hX
 go_enter Tryz.func102,Tryz.ntmps102
 have kt_c0:=kt.here.cell 0 _ rfl
 have kt_c1:=kt.here.cell 1 _ rfl
 go_wp2_with fail
 clear kt_c0 kt_c1
 refine ((findRate_any _ t p q _ hl hx (HTR.out _ bb0) (HT.out.below bb0) (HS.out.below bb0)).mono fun _ _ h=>postQn_is HX.out h).mono ?_
 rintro e w1 ⟨u1,S1,rfl,o1,l1,b1⟩
 obtain ⟨A1,c1,B1,d1,rfl⟩:=ownQ_form o1.here
 have bb1:=Below.next bb0 b1
 replace kt:=kt.below b1
 have kx:=box_new (w1) #[.bool X.1.1,.slice A1 X.1.2.length c1,.slice B1 X.2.length d1] 36
 have alx:=below_al (Below.refl (w1).heap.size (w1)) (.cells #[.bool X.1.1,.slice A1 X.1.2.length c1,.slice B1 X.2.length d1] 36)
 have bbx:=Below.next bb1 alx
 replace kt:=kt.below alx
 clear kt kx o1 l1
 go_wp2
 go_ret
 exact ⟨ret_int HV.out.symm,bbx⟩
set_option maxHeartbeats 4000000 in
theorem implRateOf_any (v:Value) (t:TI) (p q:ByteArray) (w:World) (hl:t.2.length ≤ 1099511627776) (hx:∀ x ∈ t.2,x.2.2.1.2.length ≤ 1048576) (h:OwnTR w v t) (ht:CurTab w) (hsen:Sen w) :
 Calls Tryz.prog 162 #[v,.string p,.string q] w (PostQb (rateT t p q).1 (rateT t p q).2 w):=by
 have HS:=Lib.hid hsen
 clear hsen
 have HT:=Lib.hid ht
 clear ht
 obtain ⟨A,c,rfl,hr⟩:=ownTR_form h
 have HR:=Lib.hid (show ∀ W,Below w.heap.size w W→OwnER W (.slice A t.2.length c) t.2 from fun W h=>hr.below h)
 have HTR:=Lib.hid (show ∀ W,Below w.heap.size w W→OwnTR W (.agg #[.string t.1,.slice A t.2.length c]) t from fun W h=>⟨_,rfl,hr.below h⟩)
 clear h hr
 have bb0:Below w.heap.size w ((w.alloc (.cells #[.string t.1,.slice A t.2.length c] 41)).alloc (.cells #[.bool false,.slice none 0 0,.slice none 0 0] 36)):=below_al (below_al (Below.refl _ _) _) _
 have kt:=(box_new w #[.string t.1,.slice A t.2.length c] 41).below (below_al (Below.refl _ _) (.cells #[.bool false,.slice none 0 0,.slice none 0 0] 36))
 have ko:=(box_new (w.alloc (.cells #[.string t.1,.slice A t.2.length c] 41)) #[.bool false,.slice none 0 0,.slice none 0 0] 36)
 rw [show (w.alloc (.cells #[.string t.1,.slice A t.2.length c] 41)).heap.size = w.heap.size+1 by simp] at ko
 have HKO:=Lib.hid (ko.lt (w.heap.size+1) (by simp))
 obtain ⟨⟨X,x⟩,hX⟩:∃ r,findT t p q = r:=⟨_,rfl⟩
 have HX:=Lib.hid hX
 have HV0:=Lib.hid (show rateT t p q = (X,x != 0) by rw [find_rate,hX])
 clear hX
 obtain ⟨R,hR⟩:∃ R,rateT t p q = R:=⟨_,rfl⟩
 have EQ:=Lib.hid hR
 rw [hR]
 clear hR
 go_enter Tryz.func162,Tryz.ntmps162
 have kt_c0:=kt.here.cell 0 _ rfl
 have kt_c1:=kt.here.cell 1 _ rfl
 go_wp2_with fail
 clear kt_c0 kt_c1
 refine ((findRate_any _ t p q _ hl hx (HTR.out _ bb0) (HT.out.below bb0) (HS.out.below bb0)).mono fun _ _ h=>postQn_is HX.out h).mono ?_
 rintro e w1 ⟨u1,S1,rfl,o1,l1,b1⟩
 obtain ⟨A1,c1,B1,d1,rfl⟩:=ownQ_form o1.here
 have hz1:w.heap.size+1+1 ≤ w1.heap.size:=by have:=b1.size;simp at this;omega
 have bb1:=Below.next bb0 b1
 replace kt:=kt.below b1
 replace ko:=ko.below b1
 have o1P:=o1
 have cy0:=ko.here.cell 0 _ rfl
 have fy0:=Lib.frozen_of_heap ko.here 0
 have cy1:=ko.here.cell 1 _ rfl
 have fy1:=Lib.frozen_of_heap ko.here 1
 have cy2:=ko.here.cell 2 _ rfl
 have fy2:=Lib.frozen_of_heap ko.here 2
 have hlo:w.heap.size+1 < w1.heap.size:=by omega
 have hlo1:¬ w.heap.size+1 = w1.heap.size:=by omega
 have hlo2:¬ w1.heap.size = w.heap.size+1:=by omega
 have kx:=box_new (w1) #[.bool X.1.1,.slice A1 X.1.2.length c1,.slice B1 X.2.length d1] 36
 have alx:=below_al (Below.refl (w1).heap.size (w1)) (.cells #[.bool X.1.1,.slice A1 X.1.2.length c1,.slice B1 X.2.length d1] 36)
 have bbx:=Below.next bb1 alx
 replace kt:=kt.below alx
 replace ko:=ko.below alx
 replace o1:=o1.below alx
 clear kt HX
 have HV:=Lib.hid (EQ.out.symm.trans HV0.out)
 have HW:=Lib.hid (newQb_chg (R0:=X) (R1:=x != 0) (v:=.agg #[.bool X.1.1,.slice A1 X.1.2.length c1,.slice B1 X.2.length d1]) (T:=[w.heap.size+1]) o1P (fun i hi hm=>by have:=(l1 i hi).1;simp at this hm;omega) (fun i hi=>by simp at hi;omega) (fun i hi=>by have:=(l1 i hi).1;simp at this;omega) bb1)
 clear kx
 clear ko o1 o1P l1
 go_wp2
 refine bodyPost_ret (v:=.tuple #[.agg #[.bool X.1.1,.slice A1 X.1.2.length c1,.slice B1 X.2.length d1],.bool (x != 0)]) (by simp [results,Tryz.results162,go_sem,cy0,cy1,cy2,hlo]) rfl ?_
 rw [show R.1 = X by rw [HV.out],show R.2 = (x != 0) by rw [HV.out]]
 refine HW.out _ ?_
 repeat (first | with_reducible exact Chg.refl _ _ | with_reducible refine Chg.setCell ?_ (by simp) _ | with_reducible refine Chg.trans ?_ (Chg.of_below (below_al (Below.refl _ _) _)))
theorem ownMR_belowC {w w':World} {v:Value} {l:List MI} (h:OwnMR w v l) (hb:Below w.heap.size w w'):OwnMR w' v l:=by
 obtain ⟨A,c,rfl,h⟩:=h
 refine ⟨A,c,rfl,fun j x hj=>?_⟩
 obtain ⟨a,u,rfl,h1,h2,h3,h4,h5⟩:=h j x hj
 exact ⟨a,u,rfl,Nat.lt_of_lt_of_le h1 hb.size,(cell_keep3' hb h1 j).trans h2,(cell_keep3 hb h1 j 1).trans h3,(cell_keep3 hb h1 j 2).trans h4,own_below h5 hb⟩
def IdxPost (p:MI→Bool) (l:List MI) (w:World) (e:Ending) (w':World):Prop :=
 ∃ i:Int,e = .returned (.int .i64 i)∧decide (0 ≤ i) = l.any p∧Below w.heap.size w w'
set_option maxHeartbeats 4000000 in
theorem indexM_any (g:FuncId) (lb:Array Value) (he:∀ (args:Array Value) (w:World),(callFunc g args).run Tryz.prog w = .ok (.enter g args) w) (p:MI→Bool) (v:Value) (l:List MI) (w:World) (hl:l.length ≤ 140737488355328) (h:OwnMR w v l)
 (hp:∀ (W:World) (vm:Value) (x:MI),x ∈ l→Below w.heap.size w W→OwnM vm x W→Calls Tryz.prog g (#[vm] ++ lb) W (Postb (p x) W)) :
 Calls Tryz.prog 128 #[v,.func (.func g) #[] lb] w (IdxPost p l w):=by
 obtain ⟨A,c,rfl,hc⟩:=h
 have HC:=Lib.hid hc
 have HP:=Lib.hid hp
 clear hc hp
 go_enter Tryz.func128,Tryz.ntmps128
 go_wp2
 go_loopw [5,8] (fun _ i wr=>∃ k:Nat,k ≤ l.length∧i = .int .i64 k∧Hid (∀ m ∈ l.take k,p m = false)∧Below w.heap.size w wr) (fun _ i _=>l.length - (intOf i).toNat)
 case atStart=>exact ⟨0,Nat.zero_le _,rfl,Lib.hid (fun m hm=>absurd hm (by simp)),Below.refl _ _⟩
 case round =>
  obtain ⟨k,hk,rfl,HK,hb⟩:=hrel
  by_cases hlt:k < l.length
  ·obtain ⟨x,hxk⟩:∃ x,l[k]? = some x:=⟨_,List.getElem?_eq_getElem hlt⟩
   obtain ⟨a,u,rfl,ha,hc0,hc1,hc2,hr⟩:=HC.out k x hxk
   obtain ⟨A1,c1,rfl⟩:=own_len hr
   have k0:=(cell_keep3' hb ha k).trans hc0
   have k1:=(cell_keep3 hb ha k 1).trans hc1
   have k2:=(cell_keep3 hb ha k 2).trans hc2
   have hcall:=HP.out wr (.agg #[.string x.1,.bool x.2.1,.slice A1 x.2.2.length c1]) x (List.mem_of_getElem? hxk) hb (OwnM.below ⟨_,rfl,hr⟩ hb)
   have HB:=Lib.hid hb
   clear hc0 hc1 hc2 hr ha hb
   obtain ⟨b,hpx⟩:∃ b,p x = b:=⟨_,rfl⟩
   rw [hpx] at hcall
   cases b with
   | true =>
     have HV:=Lib.hid (show decide ((0:Int) ≤ (k:Int)) = l.any p by
      rw [decide_eq_true (by omega)]
      exact (List.any_eq_true.2 ⟨x,List.mem_of_getElem? hxk,hpx⟩).symm)
     clear hpx hxk
     go_wp2_with (go_at_fn g;refine hcall.mono ?_;rintro e w1 ⟨rfl,b1⟩)
     go_ret
     exact ⟨_,rfl,HV.out,Below.next HB.out b1⟩
   | false =>
     have HN:=Lib.hid (show ∀ m ∈ l.take (k+1),p m = false from fun m hm=>by
      rw [take_snocM hxk] at hm
      rcases List.mem_append.1 hm with hm | hm
      ·exact HK.out m hm
      ·rw [List.mem_singleton.1 hm];exact hpx)
     clear hpx hxk
     go_wp2_with (go_at_fn g;refine hcall.mono ?_;rintro e w1 ⟨rfl,b1⟩)
     go_roundw
     case rel=>exact ⟨k+1,by omega,by go_num,HN,Below.next HB.out b1⟩
     case measure=>simp [intOf];omega
  ·obtain rfl:k = l.length:=by omega
   have HV:=Lib.hid (show decide ((0:Int) ≤ -1) = l.any p by
    rw [decide_eq_false (by omega)]
    symm
    rw [Bool.eq_false_iff]
    intro hh
    obtain ⟨m,hm,hpm⟩:=List.any_eq_true.1 hh
    have:=HK.out m (by rw [List.take_length];exact hm)
    rw [this] at hpm
    cases hpm)
   go_wp2
   go_ret
   exact ⟨_,rfl,HV.out,hb⟩
set_option maxHeartbeats 1000000 in
theorem containsM_any (g:FuncId) (lb:Array Value) (he:∀ (args:Array Value) (w:World),(callFunc g args).run Tryz.prog w = .ok (.enter g args) w) (p:MI→Bool) (v:Value) (l:List MI) (w:World) (hl:l.length ≤ 140737488355328) (h:OwnMR w v l)
 (hp:∀ (W:World) (vm:Value) (x:MI),x ∈ l→Below w.heap.size w W→OwnM vm x W→Calls Tryz.prog g (#[vm] ++ lb) W (Postb (p x) W)) :
 Calls Tryz.prog 100 #[v,.func (.func g) #[] lb] w (Postb (l.any p) w):=by
 have hcall:=indexM_any g lb he p v l w hl h hp
 obtain ⟨A,c,rfl,_⟩:=h
 clear hp
 go_enter Tryz.func100,Tryz.ntmps100
 go_wp2_with fail
 refine hcall.mono ?_
 rintro e w1 ⟨i,rfl,hi,b1⟩
 have HV:=Lib.hid hi
 obtain ⟨b,hbq⟩:∃ b,decide (0 ≤ i) = b:=⟨_,rfl⟩
 have HB:=Lib.hid (hi.symm.trans hbq)
 clear hi
 go_wp2
 go_ret
 exact ⟨ret_bool (by rw [HB.out]),b1⟩
set_option maxHeartbeats 1000000 in
theorem check1_any (vm:Value) (x:MI) (w:World) (hl:x.2.2.length ≤ 1048576) (hm:OwnM vm x w) (ht:CurTab w) :
 Calls Tryz.prog 96 #[vm] w (Postb (!okM x) w):=by
 have HT:=Lib.hid ht
 have Hm:=Lib.hid hm
 obtain ⟨Am,cm,rfl⟩:=ownM_form hm
 clear ht hm
 have bb0:Below w.heap.size w (w.alloc (.cells #[.string x.1,.bool x.2.1,.slice Am x.2.2.length cm] 34)):=below_al (Below.refl _ _) _
 have km:=box_new w #[.string x.1,.bool x.2.1,.slice Am x.2.2.length cm] 34
 go_enter Tryz.func96,Tryz.ntmps96
 have km_c0:=km.here.cell 0 _ rfl
 have km_c1:=km.here.cell 1 _ rfl
 have km_c2:=km.here.cell 2 _ rfl
 go_wp2_with fail
 clear km_c0 km_c1 km_c2
 refine (implMoneyOk_any _ x _ hl (OwnM.below Hm.out bb0) (HT.out.below bb0)).mono ?_
 rintro e w1 ⟨rfl,b1⟩
 have bb1:=Below.next bb0 b1
 obtain ⟨b,hb⟩:∃ b,okM x = b:=⟨_,rfl⟩
 rw [hb]
 have HV:=Lib.hid hb
 clear hb
 cases b
 ·go_wp2
  go_ret
  exact ⟨ret_bool (by rw [HV.out];rfl),bb1⟩
 ·go_wp2
  go_ret
  exact ⟨ret_bool (by rw [HV.out];rfl),bb1⟩
set_option maxHeartbeats 1000000 in
theorem check2_any (vm:Value) (x:MI) (B D:Nat) (t:TI) (A:Option Addr) (c:Nat) (q:ByteArray) (w:World) (hl:t.2.length ≤ 1099511627776) (hx:∀ x ∈ t.2,x.2.2.1.2.length ≤ 1048576) (hm:OwnM vm x w) (hr:OwnER w (.slice A t.2.length c) t.2)
 (kt:At [B] (BoxAt B #[.string t.1,.slice A t.2.length c] 41) w) (kq:At [D] (BoxAt D #[.string q] 9) w) (ht:CurTab w) (hsen:Sen w) :
 Calls Tryz.prog 101 #[vm,.pointer (some ⟨B,0,none⟩),.pointer (some ⟨D,0,none⟩)] w (Postb (decide (howT t x.1 q = 0)) w):=by
 have HT:=Lib.hid ht
 have HS:=Lib.hid hsen
 have HR:=Lib.hid hr
 obtain ⟨Am,cm,rfl⟩:=ownM_form hm
 clear ht hm hsen hr
 have al0:=below_al (Below.refl w.heap.size w) (.cells #[.string x.1,.bool x.2.1,.slice Am x.2.2.length cm] 34)
 have km:=box_new w #[.string x.1,.bool x.2.1,.slice Am x.2.2.length cm] 34
 replace kt:=kt.below al0
 replace kq:=kq.below al0
 go_enter Tryz.func101,Tryz.ntmps101
 have km_c0:=km.here.cell 0 _ rfl
 have kt_c0:=kt.here.cell 0 _ rfl
 have kt_c1:=kt.here.cell 1 _ rfl
 have kq_c0:=kq.here.cell 0 _ rfl
 go_wp2_with fail
 clear km_c0 kt_c0 kt_c1 kq_c0
 refine (implRateHow_any _ t x.1 q _ hl hx ⟨_,rfl,HR.out.below al0⟩ (HT.out.below al0) (HS.out.below al0)).mono ?_
 rintro e w1 ⟨rfl,b1⟩
 have bb1:=Below.next al0 b1
 generalize howT t x.1 q = z at *
 by_cases hz:z = 0
 ·subst hz
  go_wp2
  go_ret
  exact ⟨rfl,bb1⟩
 ·have hz1:(z == (0:Int)) = false:=by simpa using hz
  have HV:=Lib.hid (show decide (z = 0) = false from decide_eq_false hz)
  clear hz
  go_wp2
  go_ret
  exact ⟨ret_bool HV.out.symm,bb1⟩
set_option maxHeartbeats 4000000 in
theorem implcheckConversion_any (v vl:Value) (t:TI) (l:List MI) (q:ByteArray) (k:Int) (w:World) (hl:t.2.length ≤ 1099511627776) (hx:∀ x ∈ t.2,x.2.2.1.2.length ≤ 1048576) (hll:l.length ≤ 140737488355328) (hlx:∀ x ∈ l,x.2.2.length ≤ 1048576) (h:OwnTR w v t) (hm:OwnMR w vl l) (ht:CurTab w) (hsen:Sen w) :
 Calls Tryz.prog 70 #[v,vl,.string q,.int .i64 k] w (PostE (chkN t l q k) w):=by
 have HT:=Lib.hid ht
 have HS:=Lib.hid hsen
 clear ht hsen
 have HL:=Lib.hid (show ∀ W,Below w.heap.size w W→OwnMR W vl l from fun W hb=>ownMR_belowC hm hb)
 clear hm
 obtain ⟨A,c,rfl,hr⟩:=ownTR_form h
 have HR:=Lib.hid (show ∀ W,Below w.heap.size w W→OwnER W (.slice A t.2.length c) t.2 from fun W h=>hr.below h)
 have HTR:=Lib.hid (show ∀ W,Below w.heap.size w W→OwnTR W (.agg #[.string t.1,.slice A t.2.length c]) t from fun W h=>⟨_,rfl,hr.below h⟩)
 clear h hr
 have bb0:Below w.heap.size w ((w.alloc (.cells #[.string t.1,.slice A t.2.length c] 41)).alloc (.cells #[.string q] 9)):=below_al (below_al (Below.refl _ _) _) _
 have kt:=(box_new w #[.string t.1,.slice A t.2.length c] 41).below (below_al (Below.refl _ _) (.cells #[.string q] 9))
 have kq:=(box_new (w.alloc (.cells #[.string t.1,.slice A t.2.length c] 41)) #[.string q] 9)
 rw [show (w.alloc (.cells #[.string t.1,.slice A t.2.length c] 41)).heap.size = w.heap.size+1 by simp] at kq
 obtain ⟨N,hN⟩:∃ n,chkN t l q k = n:=⟨_,rfl⟩
 have EN:=Lib.hid hN
 rw [hN]
 clear hN
 have he1:∀ (args:Array Value) (w:World),(callFunc 96 args).run Tryz.prog w = .ok (.enter 96 args) w:=enters_of Tryz.func96 (by kernel_rfl) rfl
 have he2:∀ (args:Array Value) (w:World),(callFunc 101 args).run Tryz.prog w = .ok (.enter 101 args) w:=enters_of Tryz.func101 (by kernel_rfl) rfl
 have HE1:=Lib.hid he1
 have HE2:=Lib.hid he2
 clear he1 he2
 go_enter Tryz.func70,Tryz.ntmps70
 by_cases hk:modeB k = true
 ·have HK:=Lib.hid hk
  go_wp2_with fail
  refine (roundingOf_mode k hk _).mono ?_
  rintro e w1 ⟨rfl,b1⟩
  have bb1:=Below.next bb0 b1
  replace kt:=kt.below b1
  replace kq:=kq.below b1
  clear hk
  have kr:=box_new (w1) #[.string (nameB k),.func (.func (fnOf k)) #[] #[]] 151
  have alr:=below_al (Below.refl (w1).heap.size (w1)) (.cells #[.string (nameB k),.func (.func (fnOf k)) #[] #[]] 151)
  have bbr:=Below.next bb1 alr
  replace kt:=kt.below alr
  replace kq:=kq.below alr
  clear kr
  have kt_c0:=kt.here.cell 0 _ rfl
  have kt_c1:=kt.here.cell 1 _ rfl
  go_wp2_with fail
  clear kt_c0 kt_c1
  refine (implRatesOk_any _ t _ hl hx (HTR.out _ bbr) (HT.out.below bbr)).mono ?_
  rintro e w2 ⟨rfl,b2⟩
  have bb2:=Below.next bbr b2
  replace kt:=kt.below b2
  replace kq:=kq.below b2
  obtain ⟨ok1,hok1⟩:∃ b,okT t = b:=⟨_,rfl⟩
  rw [hok1]
  have HOK1:=Lib.hid hok1
  clear hok1
  cases ok1 with
  | false =>
    obtain rfl:N = 1:=EN.out.symm.trans (chk_form (form_bad (.inl HOK1.out)))
    clear kt kq
    go_wp2
    go_ret
    exact ⟨rfl,bb2⟩
  | true =>
    have kq_c0:=kq.here.cell 0 _ rfl
    go_wp2_with fail
    clear kq_c0
    refine (implCurKnown_any q _ (HT.out.below bb2)).mono ?_
    rintro e w3 ⟨rfl,b3⟩
    have bb3:=Below.next bb2 b3
    replace kt:=kt.below b3
    replace kq:=kq.below b3
    obtain ⟨ok2,hok2⟩:∃ b,knownC q = b:=⟨_,rfl⟩
    rw [hok2]
    have HOK2:=Lib.hid hok2
    clear hok2
    cases ok2 with
    | false =>
      obtain rfl:N = 1:=EN.out.symm.trans (chk_form (form_bad (.inr (.inl HOK2.out))))
      clear kt kq
      go_wp2
      go_ret
      exact ⟨rfl,bb3⟩
    | true =>
      go_wp2_with fail
      refine (containsM_any 96 #[] HE1.out (fun x=>!okM x) _ l _ hll (HL.out _ bb3) (fun W vm x hxm hW hm=>check1_any vm x W (hlx x hxm) hm (HT.out.below (Below.next bb3 hW)))).mono ?_
      rintro e w4 ⟨rfl,b4⟩
      have bb4:=Below.next bb3 b4
      replace kt:=kt.below b4
      replace kq:=kq.below b4
      rw [any_not]
      obtain ⟨ok3,hok3⟩:∃ b,l.all okM = b:=⟨_,rfl⟩
      rw [hok3]
      have HOK3:=Lib.hid hok3
      clear hok3
      cases ok3 with
      | false =>
        obtain rfl:N = 1:=EN.out.symm.trans (chk_form (form_bad (.inr (.inr (.inr HOK3.out)))))
        clear kt kq
        go_wp2
        go_ret
        exact ⟨rfl,bb4⟩
      | true =>
        have KT:=Lib.hid kt
        have KQ:=Lib.hid kq
        go_wp2_with fail
        refine (containsM_any 101 #[.pointer (some ⟨w.heap.size,0,none⟩),.pointer (some ⟨w.heap.size+1,0,none⟩)] HE2.out (fun m=>decide (howT t m.1 q = 0)) _ l _ hll (HL.out _ bb4) (fun W vm x _ hW hm=>check2_any vm x w.heap.size (w.heap.size+1) t A c q W hl hx hm (HR.out W (Below.next bb4 hW)) (KT.out.below hW) (KQ.out.below hW) (HT.out.below (Below.next bb4 hW)) (HS.out.below (Below.next bb4 hW)))).mono ?_
        rintro e w5 ⟨rfl,b5⟩
        have bb5:=Below.next bb4 b5
        replace kt:=kt.below b5
        replace kq:=kq.below b5
        have HF:=Lib.hid (form_good HOK1.out HOK2.out HK.out HOK3.out)
        obtain ⟨nb,hnb⟩:∃ b,noneB t l q = b:=⟨_,rfl⟩
        rw [show (l.any fun m=>decide (howT t m.1 q = 0)) = nb from hnb]
        have HNB:=Lib.hid hnb
        clear hnb
        cases nb with
        | false =>
          obtain rfl:N = 0:=EN.out.symm.trans (chk_good HF.out HNB.out)
          clear kt kq
          go_wp2
          go_ret
          exact ⟨rfl,bb5⟩
        | true =>
          obtain rfl:N = 2:=EN.out.symm.trans (chk_rate HF.out HNB.out)
          clear kt kq
          go_wp2
          go_ret
          exact ⟨rfl,bb5⟩
 ·have hkf:modeB k = false:=by simpa using hk
  go_wp2_with fail
  refine (roundingOf_none k hk _).mono ?_
  rintro e w1 ⟨rfl,b1⟩
  have bb1:=Below.next bb0 b1
  replace kt:=kt.below b1
  replace kq:=kq.below b1
  clear hk
  have kr:=box_new (w1) #[.string ⟨#[]⟩,.nilFunc] 151
  have alr:=below_al (Below.refl (w1).heap.size (w1)) (.cells #[.string ⟨#[]⟩,.nilFunc] 151)
  have bbr:=Below.next bb1 alr
  replace kt:=kt.below alr
  replace kq:=kq.below alr
  clear kr
  obtain rfl:N = 1:=EN.out.symm.trans (chk_form (form_bad (.inr (.inr (.inl hkf)))))
  clear kt kq
  go_wp2
  go_ret
  exact ⟨rfl,bbr⟩
theorem unit_make (n:ByteArray):makeQ (tenS (placesC n)) (ofZ 1) = ((tenS (placesC n),[1]),true):=by
 obtain ⟨h0,h1⟩:=placesC_range n
 rcases (show placesC n = 0 ∨ placesC n = 1 ∨ placesC n = 2 ∨ placesC n = 3 ∨ placesC n = 4 by omega) with h | h | h | h | h <;> rw [h] <;> decide +kernel
theorem tenS_szU (k:Int):szS (tenS k) ≤ 1048576:=by
 have:=tenN_len k
 have e:(tenS k).2 = tenN k:=rfl
 unfold szS szI
 rw [e]
 omega
theorem postQb_isU {q:QI × Bool} {X:QI} {b:Bool} (e:q = (X,b)) {w w':World} {n:Ending} (h:PostQb q.1 q.2 w n w'):PostQb X b w n w':=by rw [e] at h;exact h
set_option maxHeartbeats 2000000 in
theorem implCurUnit_any (n:ByteArray) (w:World) (ht:CurTab w) (hs:Sen w):Calls Tryz.prog 164 #[.string n] w (NewV (fun v=>OwnQ v (unitC n)) w):=by
 have HT:=Lib.hid ht
 have HS:=Lib.hid hs
 clear ht hs
 have ko:=box_new w #[.bool false,.slice none 0 0,.slice none 0 0] 36
 have bb0:=below_al (Below.refl w.heap.size w) (.cells #[.bool false,.slice none 0 0,.slice none 0 0] 36)
 have HKO:=Lib.hid (ko.lt w.heap.size (by simp))
 obtain ⟨W0,hW0⟩:∃ W0,W0 = w.alloc (.cells #[.bool false,.slice none 0 0,.slice none 0 0] 36):=⟨_,rfl⟩
 rw [← hW0] at ko bb0 HKO
 have HW0:=Lib.hid hW0
 clear hW0
 have EU:=Lib.hid (unit_make n)
 go_enter Tryz.func164,Tryz.ntmps164
 go_wp2_with fail
 rw [← HW0.out]
 refine (implFind_any n _ (HT.out.below bb0)).mono ?_
 rintro e w1 ⟨rfl,b1⟩
 have bb1:=Below.next bb0 b1
 replace ko:=ko.below b1
 have hpl:(rowOf specT n).2.2.1 = placesC n:=rfl
 obtain ⟨⟨rc,rm,rp,rq⟩,hR⟩:∃ r,rowOf specT n = r:=⟨_,rfl⟩
 rw [hR] at hpl ⊢
 clear hR
 dsimp only at hpl ⊢
 have kr:=box_new w1 #[.string rc,.string rm,.int .i64 rp,.int .i64 rq] 182
 have alr:=below_al (Below.refl w1.heap.size w1) (.cells #[.string rc,.string rm,.int .i64 rp,.int .i64 rq] 182)
 have bbr:=Below.next bb1 alr
 replace ko:=ko.below alr
 by_cases hk:knownC n = true
 ·have HV:=Lib.hid (show unitC n = (tenS rp,[1]) by unfold unitC;rw [if_pos hk,hpl])
  rw [hk]
  rw [← hpl] at EU
  clear hk hpl
  have cr2:=kr.here.cell 2 _ rfl
  go_wp2_with fail
  clear cr2
  refine (tenTo_any rp _).mono ?_
  rintro e w2 ⟨us,Ss,rfl,os,ls,b2⟩
  obtain ⟨As,cs,rfl⟩:=ownS_form os.here
  have bb2:=Below.next bbr b2
  replace ko:=ko.below b2
  have hzs:szS (tenS rp) ≤ 1048576:=tenS_szU rp
  go_wp2_with fail
  refine ((implRatInt_any _ (tenS rp) _ hzs os.here (HS.out.below bb2)).mono fun _ _ h=>postQb_isU EU.out h).mono ?_
  rintro e w3 ⟨uf,Sf,rfl,of,lf,b3⟩
  obtain ⟨Af,cf,Bf,df,rfl⟩:=ownQ_form of.here
  have bb3:=Below.next bb2 b3
  obtain ⟨Q,hQ⟩:∃ Q:QI,(tenS rp,[1]) = Q:=⟨_,rfl⟩
  rw [hQ] at HV of ⊢
  dsimp only at of ⊢
  have al:=below_al (Below.refl w3.heap.size w3) (.cells #[.bool Q.1.1,.slice Af Q.1.2.length cf,.slice Bf Q.2.length df] 36)
  have kq:=box_new w3 #[.bool Q.1.1,.slice Af Q.1.2.length cf,.slice Bf Q.2.length df] 36
  have hz0:=HKO.out
  have z1:=bb2.size
  have z2:=b1.size
  have z3:=alr.size
  have z4:=b2.size
  have HW:=Lib.hid (newV_chg (φ:=fun v=>OwnQ v Q) (T:=[w.heap.size]) (of.below al) (fun i hi hm=>by have:=(lf i hi).1;simp at hm;omega) (fun i hi=>by simp at hi;omega) (fun i hi=>by have:=(lf i hi).1;omega) (Below.next bb3 al))
  have ko2:=(ko.below b3).below al
  have cz0:=ko2.here.cell 0 _ rfl
  have cz1:=ko2.here.cell 1 _ rfl
  have cz2:=ko2.here.cell 2 _ rfl
  have fz0:=Lib.frozen_of_heap ko2.here 0
  have fz1:=Lib.frozen_of_heap ko2.here 1
  have fz2:=Lib.frozen_of_heap ko2.here 2
  have kq0:=kq.here.cell 0 _ rfl
  have kq1:=kq.here.cell 1 _ rfl
  have kq2:=kq.here.cell 2 _ rfl
  clear ko ko2 of al kr kq bb3 b3 hz0 os z1 z2 z3 z4
  go_wp2
  refine bodyPost_ret (v:=.agg #[.bool Q.1.1,.slice Af Q.1.2.length cf,.slice Bf Q.2.length df]) (by simp [results,Tryz.results164,go_sem,cz0,cz1,cz2]) rfl ?_
  rw [HV.out]
  refine HW.out _ ?_
  repeat (first | exact Chg.refl _ _ | refine Chg.setCell ?_ (by simp) _)
 ·have hk':knownC n = false:=by simpa using hk
  rw [hk']
  have HV:=Lib.hid (show unitC n = zeroQ by unfold unitC;rw [if_neg hk])
  clear hk hk' hpl
  have cz0:=ko.here.cell 0 _ rfl
  have cz1:=ko.here.cell 1 _ rfl
  have cz2:=ko.here.cell 2 _ rfl
  have fz0:=Lib.frozen_of_heap ko.here 0
  have fz1:=Lib.frozen_of_heap ko.here 1
  have fz2:=Lib.frozen_of_heap ko.here 2
  have HW:=Lib.hid (newV_chg (φ:=fun v=>OwnQ v zeroQ) (v:=.agg #[.bool false,.slice none 0 0,.slice none 0 0]) (T:=[w.heap.size]) (S:=[]) ⟨⟨_,_,rfl,World.ownsRow_nil _ _ _ _,World.ownsRow_nil _ _ _ _,fun g hg=>by cases hg⟩,fun _ hg=>absurd hg List.not_mem_nil,fun w' _=>⟨_,_,rfl,World.ownsRow_nil _ _ _ _,World.ownsRow_nil _ _ _ _,fun g hg=>by cases hg⟩⟩ (fun i hi=>absurd hi List.not_mem_nil) (fun i hi=>by simp at hi;omega) (fun i hi=>absurd hi List.not_mem_nil) bbr)
  clear ko
  go_wp2
  refine bodyPost_ret (v:=.agg #[.bool false,.slice none 0 0,.slice none 0 0]) (by simp [results,Tryz.results164,go_sem,cz0,cz1,cz2]) rfl ?_
  rw [HV.out]
  refine HW.out _ ?_
  repeat (first | exact Chg.refl _ _ | refine Chg.setCell ?_ (by simp) _)
set_option maxHeartbeats 4000000 in
theorem implUnitRate_any (v:Value) (t:TI) (p q:ByteArray) (w:World) (hl:t.2.length ≤ 1099511627776) (hx:∀ x ∈ t.2,x.2.2.1.2.length ≤ 1048576) (h:OwnTR w v t) (ht:CurTab w) (hsen:Sen w) :
 Calls Tryz.prog 134 #[v,.string p,.string q] w (PostQb (unitR t p q).1 (unitR t p q).2 w):=by
 have HT:=Lib.hid ht
 have HS:=Lib.hid hsen
 clear ht hsen
 obtain ⟨A,c,rfl,hr⟩:=ownTR_form h
 have HR:=Lib.hid (show ∀ W,Below w.heap.size w W→OwnER W (.slice A t.2.length c) t.2 from fun W h=>hr.below h)
 have HTR:=Lib.hid (show ∀ W,Below w.heap.size w W→OwnTR W (.agg #[.string t.1,.slice A t.2.length c]) t from fun W h=>⟨_,rfl,hr.below h⟩)
 clear h hr
 have bb0:Below w.heap.size w ((w.alloc (.cells #[.string t.1,.slice A t.2.length c] 41)).alloc (.cells #[.bool false,.slice none 0 0,.slice none 0 0] 36)):=below_al (below_al (Below.refl _ _) _) _
 have kt:=(box_new w #[.string t.1,.slice A t.2.length c] 41).below (below_al (Below.refl _ _) (.cells #[.bool false,.slice none 0 0,.slice none 0 0] 36))
 have ko:=(box_new (w.alloc (.cells #[.string t.1,.slice A t.2.length c] 41)) #[.bool false,.slice none 0 0,.slice none 0 0] 36)
 rw [show (w.alloc (.cells #[.string t.1,.slice A t.2.length c] 41)).heap.size = w.heap.size+1 by simp] at ko
 obtain ⟨⟨X,x⟩,hHX⟩:∃ r,rateT t p q = r:=⟨_,rfl⟩
 have HX:=Lib.hid hHX
 obtain ⟨⟨Y,y⟩,hHY⟩:∃ r,divQ (unitC q) (unitC p) = r:=⟨_,rfl⟩
 have HY:=Lib.hid hHY
 obtain ⟨⟨R,r⟩,hHR2⟩:∃ r,unitR t p q = r:=⟨_,rfl⟩
 have HR2:=Lib.hid hHR2
 have hsX:szQ X ≤ 1048576:=by have:=rateT_szC t p q;rw [hHX] at this;exact this
 have hsY:szQ Y ≤ 1048576:=by have:=divQ_szC (unitC q) (unitC p);rw [hHY] at this;exact this
 have EV:=Lib.hid (show mulQ X Y = (R,r) by rw [← hHR2,← unit_impl];unfold facU;rw [hHX,hHY])
 have EN:=Lib.hid (show x = false→(R,r) = (zeroQ,false) from fun h=>by rw [← hHR2];unfold unitR;rw [hHX,if_neg (fun hh=>by have h2:x = true:=hh;rw [h] at h2;cases h2)])
 rw [hHR2]
 clear hHX hHY hHR2
 go_enter Tryz.func134,Tryz.ntmps134
 have kt_c0:=kt.here.cell 0 _ rfl
 have kt_c1:=kt.here.cell 1 _ rfl
 go_wp2_with fail
 clear kt_c0 kt_c1
 refine ((implRateOf_any _ t p q _ hl hx (HTR.out _ bb0) (HT.out.below bb0) (HS.out.below bb0)).mono fun _ _ h=>postQb_isC HX.out h).mono ?_
 rintro e w1 ⟨u1,S1,rfl,o1,l1,b1⟩
 obtain ⟨A1,c1,B1,d1,rfl⟩:=ownQ_form o1.here
 have hz1:w.heap.size+2 ≤ w1.heap.size:=by have:=b1.size;(try simp at this);omega
 have bb1:=Below.next bb0 b1
 replace kt:=kt.below b1
 replace ko:=ko.below b1
 have kx:=box_new (w1) #[.bool X.1.1,.slice A1 X.1.2.length c1,.slice B1 X.2.length d1] 36
 have alx:=below_al (Below.refl (w1).heap.size (w1)) (.cells #[.bool X.1.1,.slice A1 X.1.2.length c1,.slice B1 X.2.length d1] 36)
 have bbx:=Below.next bb1 alx
 replace kt:=kt.below alx
 replace ko:=ko.below alx
 replace o1:=o1.below alx
 clear kt
 go_wp2_with fail
 refine (implCurUnit_any q _ (HT.out.below bbx) (HS.out.below bbx)).mono ?_
 rintro e w2 ⟨u2,S2,rfl,o2,l2,b2⟩
 obtain ⟨A2,c2,B2,d2,rfl⟩:=ownQ_form o2.here
 have hz2:w.heap.size+2 ≤ w2.heap.size:=by have:=b2.size;(try simp at this);omega
 have bb2:=Below.next bbx b2
 replace ko:=ko.below b2
 replace o1:=o1.below b2
 replace kx:=kx.below b2
 go_wp2_with fail
 refine (implCurUnit_any p _ (HT.out.below bb2) (HS.out.below bb2)).mono ?_
 rintro e w3 ⟨u3,S3,rfl,o3,l3,b3⟩
 obtain ⟨A3,c3,B3,d3,rfl⟩:=ownQ_form o3.here
 have hz3:w.heap.size+2 ≤ w3.heap.size:=by have:=b3.size;(try simp at this);omega
 have bb3:=Below.next bb2 b3
 replace ko:=ko.below b3
 replace o1:=o1.below b3
 replace kx:=kx.below b3
 replace o2:=o2.below b3
 go_wp2_with fail
 refine ((implRatDiv_any _ _ (unitC q) (unitC p) _ (unitC_szC q) (unitC_szC p) o2.here o3.here (HS.out.below bb3)).mono fun _ _ h=>postQb_isC HY.out h).mono ?_
 rintro e w4 ⟨u4,S4,rfl,o4,l4,b4⟩
 obtain ⟨A4,c4,B4,d4,rfl⟩:=ownQ_form o4.here
 have hz4:w.heap.size+2 ≤ w4.heap.size:=by have:=b4.size;(try simp at this);omega
 have bb4:=Below.next bb3 b4
 replace ko:=ko.below b4
 replace o1:=o1.below b4
 replace kx:=kx.below b4
 replace o2:=o2.below b4
 replace o3:=o3.below b4
 clear o2 o3
 have ky:=box_new (w4) #[.bool Y.1.1,.slice A4 Y.1.2.length c4,.slice B4 Y.2.length d4] 36
 have aly:=below_al (Below.refl (w4).heap.size (w4)) (.cells #[.bool Y.1.1,.slice A4 Y.1.2.length c4,.slice B4 Y.2.length d4] 36)
 have bby:=Below.next bb4 aly
 replace ko:=ko.below aly
 replace o1:=o1.below aly
 replace kx:=kx.below aly
 replace o4:=o4.below aly
 have kx_c0:=kx.here.cell 0 _ rfl
 have kx_c1:=kx.here.cell 1 _ rfl
 have kx_c2:=kx.here.cell 2 _ rfl
 have ky_c0:=ky.here.cell 0 _ rfl
 have ky_c1:=ky.here.cell 1 _ rfl
 have ky_c2:=ky.here.cell 2 _ rfl
 go_wp2_with fail
 clear kx_c0 kx_c1 kx_c2 ky_c0 ky_c1 ky_c2
 refine ((implRatMul_any _ _ X Y _ hsX hsY o1.here o4.here (HS.out.below bby)).mono fun _ _ h=>postQb_isC EV.out h).mono ?_
 rintro e w5 ⟨u5,S5,rfl,o5,l5,b5⟩
 obtain ⟨A5,c5,B5,d5,rfl⟩:=ownQ_form o5.here
 have hz5:w.heap.size+2 ≤ w5.heap.size:=by have:=b5.size;(try simp at this);omega
 have bb5:=Below.next bby b5
 replace ko:=ko.below b5
 replace o1:=o1.below b5
 replace kx:=kx.below b5
 replace o4:=o4.below b5
 replace ky:=ky.below b5
 have hlow:∀ i ∈ S5,w.heap.size+1 < i:=fun i hi=>by have:=(l5 i hi).1;(try simp at this);omega
 have HW:=Lib.hid (newQb_chgC (R0:=R) (R1:=r) (v:=.agg #[.bool R.1.1,.slice A5 R.1.2.length c5,.slice B5 R.2.length d5]) (T:=[w.heap.size+1]) o5 (fun i hi hm=>by have:=hlow i hi;simp at hm;omega) (fun i hi=>by simp at hi;omega) (fun i hi=>by have:=hlow i hi;omega) bb5)
 have cz0:=ko.here.cell 0 _ rfl
 have fz0:=Lib.frozen_of_heap ko.here 0
 have cz1:=ko.here.cell 1 _ rfl
 have fz1:=Lib.frozen_of_heap ko.here 1
 have cz2:=ko.here.cell 2 _ rfl
 have fz2:=Lib.frozen_of_heap ko.here 2
 clear ko o1 o4 o5 l1 l2 l3 l4 l5 kx ky hlow
 go_wp2
 refine bodyPost_ret (v:=.tuple #[.agg #[.bool R.1.1,.slice A5 R.1.2.length c5,.slice B5 R.2.length d5],.bool r]) (by simp [results,Tryz.results134,go_sem,cz0,cz1,cz2]) rfl ?_
 refine HW.out _ ?_
 repeat (first | with_reducible exact Chg.refl _ _ | with_reducible refine Chg.setCell ?_ (by simp) _ | with_reducible refine Chg.drew1 ?_ | with_reducible refine Chg.trans ?_ (Chg.of_below (below_al (Below.refl _ _) _)))
set_option maxHeartbeats 2000000 in
theorem implMoneyRat_any (vm:Value) (m:MI) (w:World) (hz:szS m.2 ≤ 1048576) (hm:OwnM vm m w) (ht:CurTab w) (hs:Sen w):Calls Tryz.prog 136 #[vm] w (NewV (fun v=>OwnQ v (ratM m)) w):=by
 have HT:=Lib.hid ht
 have HS:=Lib.hid hs
 clear ht hs
 have Hm:=Lib.hid hm
 obtain ⟨Am,cm,rfl⟩:=ownM_form hm
 have OMm:=Lib.hid (show ∀ W,Below w.heap.size w W→OwnM (.agg #[.string m.1,.bool m.2.1,.slice Am m.2.2.length cm]) m W from fun W hb=>OwnM.below Hm.out hb)
 have OSm:=Lib.hid (show ∀ W,Below w.heap.size w W→OwnS (.agg #[.bool m.2.1,.slice Am m.2.2.length cm]) m.2 W from fun W hb=>OwnS.mk (ownM_open (OMm.out W hb)))
 clear hm
 have hl:m.2.2.length ≤ 1048576:=by unfold szS szI at hz;omega
 have bb0:Below w.heap.size w ((w.alloc (.cells #[.string m.1,.bool m.2.1,.slice Am m.2.2.length cm] 34)).alloc (.cells #[.bool false,.slice none 0 0,.slice none 0 0] 36)):=below_al (below_al (Below.refl _ _) _) _
 have km:=(box_new w #[.string m.1,.bool m.2.1,.slice Am m.2.2.length cm] 34).below (below_al (Below.refl _ _) (.cells #[.bool false,.slice none 0 0,.slice none 0 0] 36))
 have ko:=box_new (w.alloc (.cells #[.string m.1,.bool m.2.1,.slice Am m.2.2.length cm] 34)) #[.bool false,.slice none 0 0,.slice none 0 0] 36
 rw [show (w.alloc (.cells #[.string m.1,.bool m.2.1,.slice Am m.2.2.length cm] 34)).heap.size = w.heap.size+1 by simp] at ko
 have hko:=ko.lt (w.heap.size+1) (by simp)
 have HKO:=Lib.hid hko
 go_enter Tryz.func136,Tryz.ntmps136
 have km_c0:=km.here.cell 0 _ rfl
 have km_c1:=km.here.cell 1 _ rfl
 have km_c2:=km.here.cell 2 _ rfl
 go_wp2_with fail
 clear km_c0 km_c1 km_c2 hko
 refine (implMoneyOk_any _ m _ hl (OMm.out _ bb0) (HT.out.below bb0)).mono ?_
 rintro e w1 ⟨rfl,b1⟩
 have bb1:=Below.next bb0 b1
 replace km:=km.below b1
 replace ko:=ko.below b1
 by_cases hk:okM m = true
 ·rw [hk]
  have HV:=Lib.hid (show ratM m = (makeQ m.2 (ofZ 1)).1 by unfold ratM;rw [if_pos hk])
  clear hk
  have km_c0:=km.here.cell 0 _ rfl
  have km_c1:=km.here.cell 1 _ rfl
  have km_c2:=km.here.cell 2 _ rfl
  go_wp2_with fail
  clear km_c0 km_c1 km_c2
  refine (implRatInt_any _ m.2 _ hz (OSm.out _ bb1) (HS.out.below bb1)).mono ?_
  generalize makeQ m.2 (ofZ 1) = Q at *
  rintro e w2 ⟨uf,Sf,rfl,of,lf,b2⟩
  obtain ⟨Af,cf,Bf,df,rfl⟩:=ownQ_form of.here
  have bb2:=Below.next bb1 b2
  have al:=below_al (Below.refl w2.heap.size w2) (.cells #[.bool Q.1.1.1,.slice Af Q.1.1.2.length cf,.slice Bf Q.1.2.length df] 36)
  have kr:=box_new w2 #[.bool Q.1.1.1,.slice Af Q.1.1.2.length cf,.slice Bf Q.1.2.length df] 36
  have z1:=b1.size
  have hz0:=HKO.out
  have HW:=Lib.hid (newV_chg (φ:=fun v=>OwnQ v Q.1) (T:=[w.heap.size+1]) (of.below al) (fun i hi hm=>by have:=(lf i hi).1;simp at hm;omega) (fun i hi=>by simp at hi;omega) (fun i hi=>by have:=(lf i hi).1;have:=bb1.size;omega) (Below.next bb2 al))
  have ko2:=(ko.below b2).below al
  have cz0:=ko2.here.cell 0 _ rfl
  have cz1:=ko2.here.cell 1 _ rfl
  have cz2:=ko2.here.cell 2 _ rfl
  have fz0:=Lib.frozen_of_heap ko2.here 0
  have fz1:=Lib.frozen_of_heap ko2.here 1
  have fz2:=Lib.frozen_of_heap ko2.here 2
  have kr0:=kr.here.cell 0 _ rfl
  have kr1:=kr.here.cell 1 _ rfl
  have kr2:=kr.here.cell 2 _ rfl
  clear ko ko2 of al kr km bb2 b2 hz0
  go_wp2
  refine bodyPost_ret (v:=.agg #[.bool Q.1.1.1,.slice Af Q.1.1.2.length cf,.slice Bf Q.1.2.length df]) (by simp [results,Tryz.results136,go_sem,cz0,cz1,cz2]) rfl ?_
  rw [HV.out]
  refine HW.out _ ?_
  repeat (first | exact Chg.refl _ _ | refine Chg.setCell ?_ (by simp) _)
 ·have hk':okM m = false:=by simpa using hk
  rw [hk']
  have HV:=Lib.hid (show ratM m = zeroQ by unfold ratM;rw [if_neg hk])
  clear hk hk'
  have cz0:=ko.here.cell 0 _ rfl
  have cz1:=ko.here.cell 1 _ rfl
  have cz2:=ko.here.cell 2 _ rfl
  have fz0:=Lib.frozen_of_heap ko.here 0
  have fz1:=Lib.frozen_of_heap ko.here 1
  have fz2:=Lib.frozen_of_heap ko.here 2
  have HW:=Lib.hid (newV_chg (φ:=fun v=>OwnQ v zeroQ) (v:=.agg #[.bool false,.slice none 0 0,.slice none 0 0]) (T:=[w.heap.size+1]) (S:=[]) ⟨⟨_,_,rfl,World.ownsRow_nil _ _ _ _,World.ownsRow_nil _ _ _ _,fun g hg=>by cases hg⟩,fun _ hg=>absurd hg List.not_mem_nil,fun w' _=>⟨_,_,rfl,World.ownsRow_nil _ _ _ _,World.ownsRow_nil _ _ _ _,fun g hg=>by cases hg⟩⟩ (fun i hi=>absurd hi List.not_mem_nil) (fun i hi=>by simp at hi;omega) (fun i hi=>absurd hi List.not_mem_nil) bb1)
  clear ko km
  go_wp2
  refine bodyPost_ret (v:=.agg #[.bool false,.slice none 0 0,.slice none 0 0]) (by simp [results,Tryz.results136,go_sem,cz0,cz1,cz2]) rfl ?_
  rw [HV.out]
  refine HW.out _ ?_
  repeat (first | exact Chg.refl _ _ | refine Chg.setCell ?_ (by simp) _)
set_option maxHeartbeats 4000000 in
theorem implExact_any (v vm:Value) (t:TI) (m:MI) (q:ByteArray) (w:World) (hl:t.2.length ≤ 1099511627776) (hx:∀ x ∈ t.2,x.2.2.1.2.length ≤ 1048576) (hzm:szS m.2 ≤ 1048576) (h:OwnTR w v t) (hm:OwnM vm m w) (ht:CurTab w) (hsen:Sen w) :
 Calls Tryz.prog 106 #[v,vm,.string q] w (PostQb (exactR t m q).1 (exactR t m q).2 w):=by
 have HT:=Lib.hid ht
 have HS:=Lib.hid hsen
 clear ht hsen
 obtain ⟨A,c,rfl,hr⟩:=ownTR_form h
 have HR:=Lib.hid (show ∀ W,Below w.heap.size w W→OwnER W (.slice A t.2.length c) t.2 from fun W h=>hr.below h)
 have HTR:=Lib.hid (show ∀ W,Below w.heap.size w W→OwnTR W (.agg #[.string t.1,.slice A t.2.length c]) t from fun W h=>⟨_,rfl,hr.below h⟩)
 clear h hr
 have Hm:=Lib.hid hm
 obtain ⟨Am,cm,rfl⟩:=ownM_form hm
 have OMm:=Lib.hid (show ∀ W,Below w.heap.size w W→OwnM (.agg #[.string m.1,.bool m.2.1,.slice Am m.2.2.length cm]) m W from fun W hb=>OwnM.below Hm.out hb)
 have OIm:=Lib.hid (show ∀ W,Below w.heap.size w W→OwnI (.slice Am m.2.2.length cm) m.2.2 W from fun W hb=>ownM_open (OMm.out W hb))
 have OSm:=Lib.hid (show ∀ W,Below w.heap.size w W→OwnS (.agg #[.bool m.2.1,.slice Am m.2.2.length cm]) m.2 W from fun W hb=>OwnS.mk (OIm.out W hb))
 clear hm
 have bb0:Below w.heap.size w (((w.alloc (.cells #[.string t.1,.slice A t.2.length c] 41)).alloc (.cells #[.string m.1,.bool m.2.1,.slice Am m.2.2.length cm] 34)).alloc (.cells #[.bool false,.slice none 0 0,.slice none 0 0] 36)):=below_al (below_al (below_al (Below.refl _ _) _) _) _
 have kt:=(box_new w #[.string t.1,.slice A t.2.length c] 41).below (below_al (below_al (Below.refl _ _) (.cells #[.string m.1,.bool m.2.1,.slice Am m.2.2.length cm] 34)) (.cells #[.bool false,.slice none 0 0,.slice none 0 0] 36))
 have km:=(box_new (w.alloc (.cells #[.string t.1,.slice A t.2.length c] 41)) #[.string m.1,.bool m.2.1,.slice Am m.2.2.length cm] 34).below (below_al (Below.refl _ _) (.cells #[.bool false,.slice none 0 0,.slice none 0 0] 36))
 rw [show (w.alloc (.cells #[.string t.1,.slice A t.2.length c] 41)).heap.size = w.heap.size+1 by simp] at km
 have ko:=(box_new ((w.alloc (.cells #[.string t.1,.slice A t.2.length c] 41)).alloc (.cells #[.string m.1,.bool m.2.1,.slice Am m.2.2.length cm] 34)) #[.bool false,.slice none 0 0,.slice none 0 0] 36)
 rw [show ((w.alloc (.cells #[.string t.1,.slice A t.2.length c] 41)).alloc (.cells #[.string m.1,.bool m.2.1,.slice Am m.2.2.length cm] 34)).heap.size = w.heap.size+1+1 by simp] at ko
 have hlm:m.2.2.length ≤ 1048576:=by unfold szS szI at hzm;omega
 obtain ⟨⟨X,x⟩,hHX⟩:∃ r,unitR t m.1 q = r:=⟨_,rfl⟩
 have HX:=Lib.hid hHX
 obtain ⟨⟨Y,y⟩,hHY⟩:∃ r,exactR t m q = r:=⟨_,rfl⟩
 have HY:=Lib.hid hHY
 have hsX:szQ X ≤ 1048576:=by have:=unitR_sz t m.1 q;rw [hHX] at this;exact this
 have hsM:=ratM_szC m
 have EV:=Lib.hid (show mulQ (ratM m) X = (Y,y) by rw [← hHY,← exact_impl,hHX])
 have EN:=Lib.hid (show x = false→(Y,y) = (zeroQ,false) from fun h=>by rw [← hHY];unfold exactR;rw [if_neg (fun hh=>by have:=hh.1;rw [hHX,h] at this;cases this)])
 have EM:=Lib.hid (show okM m = false→(Y,y) = (zeroQ,false) from fun h=>by rw [← hHY];unfold exactR;rw [if_neg (fun hh=>by have:=hh.2;rw [h] at this;cases this)])
 rw [hHY]
 clear hHX hHY
 go_enter Tryz.func106,Tryz.ntmps106
 have kt_c0:=kt.here.cell 0 _ rfl
 have kt_c1:=kt.here.cell 1 _ rfl
 have km_c0:=km.here.cell 0 _ rfl
 have km_c1:=km.here.cell 1 _ rfl
 have km_c2:=km.here.cell 2 _ rfl
 go_wp2_with fail
 clear kt_c0 kt_c1 km_c0 km_c1 km_c2
 refine ((implUnitRate_any _ t m.1 q _ hl hx (HTR.out _ bb0) (HT.out.below bb0) (HS.out.below bb0)).mono fun _ _ h=>postQb_isC HX.out h).mono ?_
 rintro e w1 ⟨u1,S1,rfl,o1,l1,b1⟩
 obtain ⟨A1,c1,B1,d1,rfl⟩:=ownQ_form o1.here
 have hz1:w.heap.size+3 ≤ w1.heap.size:=by have:=b1.size;(try simp at this);omega
 have bb1:=Below.next bb0 b1
 replace kt:=kt.below b1
 replace km:=km.below b1
 replace ko:=ko.below b1
 have kx:=box_new (w1) #[.bool X.1.1,.slice A1 X.1.2.length c1,.slice B1 X.2.length d1] 36
 have alx:=below_al (Below.refl (w1).heap.size (w1)) (.cells #[.bool X.1.1,.slice A1 X.1.2.length c1,.slice B1 X.2.length d1] 36)
 have bbx:=Below.next bb1 alx
 replace kt:=kt.below alx
 replace km:=km.below alx
 replace ko:=ko.below alx
 replace o1:=o1.below alx
 clear kt
 have km_c0:=km.here.cell 0 _ rfl
 have km_c1:=km.here.cell 1 _ rfl
 have km_c2:=km.here.cell 2 _ rfl
 have kx_c0:=kx.here.cell 0 _ rfl
 have kx_c1:=kx.here.cell 1 _ rfl
 have kx_c2:=kx.here.cell 2 _ rfl
 go_upto_region 2 with fail
 obtain ⟨w2,hw2⟩:∃ W,W = (w1.alloc (.cells #[.bool X.1.1,.slice A1 X.1.2.length c1,.slice B1 X.2.length d1] 36)):=⟨_,rfl⟩
 have hz2:w.heap.size+3 ≤ w2.heap.size:=by rw [hw2];simp;omega
 clear km_c0 km_c1 km_c2 kx_c0 kx_c1 kx_c2
 rw [← hw2] at km ko o1 kx bbx ⊢
 clear hw2
 have km_c0:=km.here.cell 0 _ rfl
 have km_c1:=km.here.cell 1 _ rfl
 have km_c2:=km.here.cell 2 _ rfl
 have kx_c0:=kx.here.cell 0 _ rfl
 have kx_c1:=kx.here.cell 1 _ rfl
 have kx_c2:=kx.here.cell 2 _ rfl
 have HC0:=Lib.hid (show Chg [w.heap.size+1+1] w2 w2.drew from (Chg.refl _ _).drew1)
 have HCr:=Lib.hid (show Chg [w.heap.size+1+1] w2 w2 from Chg.refl _ _)
 have KL:=Lib.hid (show ∀ W,Chg [w.heap.size+1+1] w2 W→W.cell? ⟨w.heap.size+1,0,none⟩ = some (.string m.1)∧W.cell? ⟨w.heap.size+1,1,none⟩ = some (.bool m.2.1)∧W.cell? ⟨w.heap.size+1,2,none⟩ = some (.slice Am m.2.2.length cm)∧W.cell? ⟨w1.heap.size,0,none⟩ = some (.bool X.1.1)∧W.cell? ⟨w1.heap.size,1,none⟩ = some (.slice A1 X.1.2.length c1)∧W.cell? ⟨w1.heap.size,2,none⟩ = some (.slice B1 X.2.length d1)∧Hid (Chg [w.heap.size+1+1] w2 W) from fun W hc=>⟨(km.chg hc (fun i hi hm=>by simp at hi hm;omega)).here.cell 0 _ rfl,(km.chg hc (fun i hi hm=>by simp at hi hm;omega)).here.cell 1 _ rfl,(km.chg hc (fun i hi hm=>by simp at hi hm;omega)).here.cell 2 _ rfl,(kx.chg hc (fun i hi hm=>by simp at hi hm;omega)).here.cell 0 _ rfl,(kx.chg hc (fun i hi hm=>by simp at hi hm;omega)).here.cell 1 _ rfl,(kx.chg hc (fun i hi hm=>by simp at hi hm;omega)).here.cell 2 _ rfl,Lib.hid hc⟩)
 have BBF:=Lib.hid (show ∀ W,Chg [w.heap.size+1+1] w2 W→Below w.heap.size w W from fun W hc=>below_chg bbx hc bbx.size (fun i hi=>by simp at hi;omega))
 clear km_c0 km_c1 km_c2 kx_c0 kx_c1 kx_c2
 go_region_held3 (fun W=>W.cell? ⟨w.heap.size+1,0,none⟩ = some (.string m.1)∧W.cell? ⟨w.heap.size+1,1,none⟩ = some (.bool m.2.1)∧W.cell? ⟨w.heap.size+1,2,none⟩ = some (.slice Am m.2.2.length cm)∧W.cell? ⟨w1.heap.size,0,none⟩ = some (.bool X.1.1)∧W.cell? ⟨w1.heap.size,1,none⟩ = some (.slice A1 X.1.2.length c1)∧W.cell? ⟨w1.heap.size,2,none⟩ = some (.slice B1 X.2.length d1)∧Hid (Chg [w.heap.size+1+1] w2 W))
  ((refine KL.out _ ?_;(first | exact HC4.out | exact HC3.out | exact HCr.out | exact HC0.out | exact HC4.out.drew1 | exact HC3.out.drew1 | exact HCr.out.drew1 | exact HC0.out.drew1 | exact HC4.out.trans (Chg.of_below (below_al (Below.refl _ _) _)) | exact HC3.out.trans (Chg.of_below (below_al (Below.refl _ _) _)) | exact HCr.out.trans (Chg.of_below (below_al (Below.refl _ _) _)) | exact HC0.out.trans (Chg.of_below (below_al (Below.refl _ _) _)) | exact (Chg.setCell HC4.out (by simp) _) | exact (Chg.setCell (Chg.setCell HC4.out (by simp) _) (by simp) _) | exact (Chg.setCell (Chg.setCell (Chg.setCell HC4.out (by simp) _) (by simp) _) (by simp) _) | fail)))
  (first
    | (go_at_call 136;(have hBB:=(‹_∧_∧_∧_∧_∧_∧Hid (Chg [w.heap.size+1+1] w2 _)›).2.2.2.2.2.2);(with_reducible refine (implMoneyRat_any _ m _ hzm (OMm.out _ (BBF.out _ hBB.out)) (HT.out.below (BBF.out _ hBB.out)) (HS.out.below (BBF.out _ hBB.out))).mono ?_);rintro e w3 ⟨u7,S7,rfl,o7,l7,b3⟩;have HC3:=Lib.hid (hBB.out.trans (Chg.of_below b3));(have ko_3:=At.below (by first | exact ko | exact At.below ko (below_al (Below.refl _ _) _) | exact At.below (At.below ko (below_al (Below.refl _ _) _)) (below_al (Below.refl _ _) _) | exact At.move ko (fun _ _=>rfl) (Nat.le_refl _) | exact At.below (At.move (w':=w2.drew) ko (fun _ _=>rfl) (Nat.le_refl _)) (below_al (Below.refl _ _) _)) b3);(have o1_3:=At.below (by first | exact o1 | exact At.below o1 (below_al (Below.refl _ _) _) | exact At.below (At.below o1 (below_al (Below.refl _ _) _)) (below_al (Below.refl _ _) _) | exact At.move o1 (fun _ _=>rfl) (Nat.le_refl _) | exact At.below (At.move (w':=w2.drew) o1 (fun _ _=>rfl) (Nat.le_refl _)) (below_al (Below.refl _ _) _)) b3);obtain ⟨A7,c7,B7,d7,rfl⟩:=ownQ_form o7.here;have HBZ3:=Lib.hid hBB.out.size;clear hBB)
    | (go_at_call 135;(have hBB:=(‹_∧_∧_∧_∧_∧_∧Hid (Chg [w.heap.size+1+1] w2 _)›).2.2.2.2.2.2);(with_reducible refine ((implRatMul_any _ _ (ratM m) X _ hsM hsX (At.here (by first | exact o7 | exact At.below o7 (below_al (Below.refl _ _) _) | exact At.below (At.below o7 (below_al (Below.refl _ _) _)) (below_al (Below.refl _ _) _) | exact At.move o7 (fun _ _=>rfl) (Nat.le_refl _) | exact At.below (At.move (w':=w2.drew) o7 (fun _ _=>rfl) (Nat.le_refl _)) (below_al (Below.refl _ _) _))) (At.here (by first | exact o1_3 | exact At.below o1_3 (below_al (Below.refl _ _) _) | exact At.below (At.below o1_3 (below_al (Below.refl _ _) _)) (below_al (Below.refl _ _) _) | exact At.move o1_3 (fun _ _=>rfl) (Nat.le_refl _) | exact At.below (At.move (w':=w2.drew) o1_3 (fun _ _=>rfl) (Nat.le_refl _)) (below_al (Below.refl _ _) _))) (HS.out.below (BBF.out _ hBB.out))).mono fun _ _ h=>postQb_isC EV.out h).mono ?_);rintro e w4 ⟨u8,S8,rfl,o8,l8,b4⟩;have HC4:=Lib.hid (hBB.out.trans (Chg.of_below b4));(have ko_4:=At.below (by first | exact ko_3 | exact At.below ko_3 (below_al (Below.refl _ _) _) | exact At.below (At.below ko_3 (below_al (Below.refl _ _) _)) (below_al (Below.refl _ _) _) | exact At.move ko_3 (fun _ _=>rfl) (Nat.le_refl _) | exact At.below (At.move (w':=w2.drew) ko_3 (fun _ _=>rfl) (Nat.le_refl _)) (below_al (Below.refl _ _) _)) b4);(have o1_4:=At.below (by first | exact o1_3 | exact At.below o1_3 (below_al (Below.refl _ _) _) | exact At.below (At.below o1_3 (below_al (Below.refl _ _) _)) (below_al (Below.refl _ _) _) | exact At.move o1_3 (fun _ _=>rfl) (Nat.le_refl _) | exact At.below (At.move (w':=w2.drew) o1_3 (fun _ _=>rfl) (Nat.le_refl _)) (below_al (Below.refl _ _) _)) b4);(have o7_4:=At.below (by first | exact o7 | exact At.below o7 (below_al (Below.refl _ _) _) | exact At.below (At.below o7 (below_al (Below.refl _ _) _)) (below_al (Below.refl _ _) _) | exact At.move o7 (fun _ _=>rfl) (Nat.le_refl _) | exact At.below (At.move (w':=w2.drew) o7 (fun _ _=>rfl) (Nat.le_refl _)) (below_al (Below.refl _ _) _)) b4);obtain ⟨A8,c8,B8,d8,rfl⟩:=ownQ_form o8.here;have cz0:=ko_4.here.cell 0 _ rfl;have fz0:=Lib.frozen_of_heap ko_4.here 0;have cz1:=ko_4.here.cell 1 _ rfl;have fz1:=Lib.frozen_of_heap ko_4.here 1;have cz2:=ko_4.here.cell 2 _ rfl;have fz2:=Lib.frozen_of_heap ko_4.here 2;have HBZ4:=Lib.hid hBB.out.size;clear hBB))
 all_goals
  have bb4:=BBF.out _ HC4.out
  replace km:=km.chg HC4.out (fun i hi hm=>by simp at hi hm;omega)
  replace kx:=kx.chg HC4.out (fun i hi hm=>by simp at hi hm;omega)
  replace ko:=ko_4
  replace o1:=o1_4
  have o7:=o7_4
  have HW:=Lib.hid (newQb_at (r:=w.heap.size+1+1) (b:=y) o8 l8 (by have:=HBZ4.out;omega) (by omega) bb4)
  clear o8 o7 o1 l8 l7 km kx ko
  go_wp2
  refine bodyPost_ret (v:=.tuple #[.agg #[.bool Y.1.1,.slice A8 Y.1.2.length c8,.slice B8 Y.2.length d8],.bool y]) (by simp [results,Tryz.results106,go_sem,cz0,cz1,cz2]) rfl ?_
  exact HW.out
theorem set3_boxC {g:Nat} {a b c c0 c1 c2:Value} {T:TypeId} {W:World} (h:BoxAt g #[c0,c1,c2] T W):BoxAt g #[a,b,c] T (((W.setCell ⟨g,0,none⟩ a).setCell ⟨g,1,none⟩ b).setCell ⟨g,2,none⟩ c):=by
 have h':W.heap[g]? = some (.cells #[c0,c1,c2] T (0,0)):=h
 simp [BoxAt,World.setCell,Array.getElem?_modify,h']
def SumQRel (t:TI) (q:ByteArray) (l:List MI) (A:Option Addr) (c sb:Nat) (w:World) (i:Value) (wr:World):Prop :=
 ∃ (k:Nat) (Au:Option Addr) (cu:Nat) (Bu:Option Addr) (du:Nat) (S:List Nat),k ≤ l.length∧i = .int .i64 k∧At [sb] (BoxAt sb #[.bool (sumQ t q (l.take k)).1.1,.slice Au (sumQ t q (l.take k)).1.2.length cu,.slice Bu (sumQ t q (l.take k)).2.length du] 36) wr ∧
   At S (OwnQ (.agg #[.bool (sumQ t q (l.take k)).1.1,.slice Au (sumQ t q (l.take k)).1.2.length cu,.slice Bu (sumQ t q (l.take k)).2.length du]) (sumQ t q (l.take k))) wr∧Hid (∀ i ∈ S,w.heap.size+1 < i∧¬ i = sb) ∧
   At [w.heap.size] (BoxAt w.heap.size #[.string t.1,.slice A t.2.length c] 41) wr∧At [w.heap.size+1] (BoxAt (w.heap.size+1) #[.bool false,.slice none 0 0,.slice none 0 0] 36) wr∧Below w.heap.size w wr
theorem sumQRel_next {t:TI} {q:ByteArray} {l:List MI} {A:Option Addr} {c sb k:Nat} {w w3:World} {x:MI} {s:QI} {z0 z1 z2:Value} {A3 B3:Option Addr} {c3 d3:Nat} {S3:List Nat} (hk:k < l.length) (hx:l[k]? = some x) (hs:(addQ (sumQ t q (l.take k)) (exactR t x q).1).1 = s) (hsb:w.heap.size+1 < sb)
 (ks:At [sb] (BoxAt sb #[z0,z1,z2] 36) w3) (o3:At S3 (OwnQ (.agg #[.bool s.1.1,.slice A3 s.1.2.length c3,.slice B3 s.2.length d3]) s) w3) (l3:∀ i ∈ S3,sb < i)
 (kt:At [w.heap.size] (BoxAt w.heap.size #[.string t.1,.slice A t.2.length c] 41) w3) (ko:At [w.heap.size+1] (BoxAt (w.heap.size+1) #[.bool false,.slice none 0 0,.slice none 0 0] 36) w3) (hb:Below w.heap.size w w3) :
 SumQRel t q l A c sb w (.int .i64 ((k:Int)+1)) (((w3.setCell ⟨sb,0,none⟩ (.bool s.1.1)).setCell ⟨sb,1,none⟩ (.slice A3 s.1.2.length c3)).setCell ⟨sb,2,none⟩ (.slice B3 s.2.length d3)):=by
 have e:sumQ t q (l.take (k+1)) = s:=by rw [take_snocM hx,sumQ_snoc,hs]
 have hc:Chg [sb] w3 (((w3.setCell ⟨sb,0,none⟩ (.bool s.1.1)).setCell ⟨sb,1,none⟩ (.slice A3 s.1.2.length c3)).setCell ⟨sb,2,none⟩ (.slice B3 s.2.length d3)):=(((Chg.refl _ _).setCell (by simp) _).setCell (by simp) _).setCell (by simp) _
 subst e
 exact ⟨k+1,A3,c3,B3,d3,S3,by omega,by go_num,box_at (set3_boxC ks.here),o3.chg hc (fun i hi hm=>by have:=l3 i hi;simp at hm;omega),Lib.hid (fun i hi=>by have:=l3 i hi;omega),
  kt.chg hc (fun i hi hm=>by simp at hi hm;omega),ko.chg hc (fun i hi hm=>by simp at hi hm;omega),below_chg hb hc hb.size (fun i hi=>by simp at hi;omega)⟩
set_option maxHeartbeats 8000000 in
theorem implexactSum_any (v vl:Value) (t:TI) (l:List MI) (q:ByteArray) (w:World) (hl:t.2.length ≤ 1099511627776) (hx:∀ x ∈ t.2,x.2.2.1.2.length ≤ 1048576) (hll:l.length ≤ 140737488355328) (hlx:∀ x ∈ l,szS x.2 ≤ 1048576) (h:OwnTR w v t) (hm:OwnMR w vl l) (ht:CurTab w) (hsen:Sen w) :
 Calls Tryz.prog 72 #[v,vl,.string q] w (NewV (fun u=>OwnQ u (sumQ t q l)) w):=by
 have HT:=Lib.hid ht
 have HS:=Lib.hid hsen
 clear ht hsen
 obtain ⟨A,c,rfl,hr⟩:=ownTR_form h
 have HTR:=Lib.hid (show ∀ W,Below w.heap.size w W→OwnTR W (.agg #[.string t.1,.slice A t.2.length c]) t from fun W h=>⟨_,rfl,hr.below h⟩)
 clear h hr
 obtain ⟨AL,cL,rfl,hc⟩:=hm
 have HC:=Lib.hid hc
 clear hc
 have bb0:Below w.heap.size w ((w.alloc (.cells #[.string t.1,.slice A t.2.length c] 41)).alloc (.cells #[.bool false,.slice none 0 0,.slice none 0 0] 36)):=below_al (below_al (Below.refl _ _) _) _
 have kt:=(box_new w #[.string t.1,.slice A t.2.length c] 41).below (below_al (Below.refl _ _) (.cells #[.bool false,.slice none 0 0,.slice none 0 0] 36))
 have ko:=box_new (w.alloc (.cells #[.string t.1,.slice A t.2.length c] 41)) #[.bool false,.slice none 0 0,.slice none 0 0] 36
 rw [show (w.alloc (.cells #[.string t.1,.slice A t.2.length c] 41)).heap.size = w.heap.size+1 by simp] at ko
 go_enter Tryz.func72,Tryz.ntmps72
 go_wp2_with fail
 refine (implRatZero_any _).mono ?_
 rintro e w1 ⟨u1,S1,rfl,o1,l1,b1⟩
 obtain ⟨A1,c1,B1,d1,rfl⟩:=ownQ_form o1.here
 have hz1:w.heap.size+2 ≤ w1.heap.size:=by have:=b1.size;simp at this;omega
 have bb1:=Below.next bb0 b1
 replace kt:=kt.below b1
 replace ko:=ko.below b1
 have ks:=box_new w1 #[.bool oneQ.1.1,.slice A1 oneQ.1.2.length c1,.slice B1 oneQ.2.length d1] 36
 have al1:=below_al (Below.refl w1.heap.size w1) (.cells #[.bool oneQ.1.1,.slice A1 oneQ.1.2.length c1,.slice B1 oneQ.2.length d1] 36)
 have bb2:=Below.next bb1 al1
 replace kt:=kt.below al1
 replace ko:=ko.below al1
 have o1b:=o1.below al1
 have hsb:w.heap.size+1 < w1.heap.size:=by omega
 have HREL:=Lib.hid (show SumQRel t q l A c w1.heap.size w (.int .i64 0) _ from ⟨0,A1,c1,B1,d1,S1,Nat.zero_le _,rfl,ks,o1b,Lib.hid (fun i hi=>by have h1:=(l1 i hi).1;have h2:=o1.lt i hi;simp at h1;omega),kt,ko,bb2⟩)
 clear kt ko ks al1 bb2 o1b o1 l1 bb0 bb1 b1
 generalize hsbE:w1.heap.size = sb at *
 go_wp2
 go_loopw [15] (fun i wr=>SumQRel t q l A c sb w i wr) (fun i _=>l.length - (intOf i).toNat)
 case atStart=>exact HREL.out
 case round =>
  clear HREL hsbE
  obtain ⟨k,Au,cu,Bu,du,S,hk,rfl,ks,os,HSL,kt,ko,hb⟩:=hrel
  by_cases hlt:k < l.length
  ·obtain ⟨x,hxk⟩:∃ x,l[k]? = some x:=⟨_,List.getElem?_eq_getElem hlt⟩
   obtain ⟨a,ux,rfl,haa,hc0,hc1,hc2,hox⟩:=HC.out k x hxk
   have hzx:=hlx x (List.mem_of_getElem? hxk)
   obtain ⟨Ax,cx,rfl⟩:=own_len hox
   have k0:=(cell_keep3' hb haa k).trans hc0
   have k1:=(cell_keep3 hb haa k 1).trans hc1
   have k2:=(cell_keep3 hb haa k 2).trans hc2
   have alx:=below_al (Below.refl wr.heap.size wr) (.cells #[.string x.1,.bool x.2.1,.slice Ax x.2.2.length cx] 34)
   have km:=box_new wr #[.string x.1,.bool x.2.1,.slice Ax x.2.2.length cx] 34
   have hsl:=ks.lt sb (by simp)
   have OX:=Lib.hid (OwnM.below (OwnM.below (⟨_,rfl,hox⟩:OwnM (.agg #[.string x.1,.bool x.2.1,.slice Ax x.2.2.length cx]) x w) hb) alx)
   have bbx:=Below.next hb alx
   replace ks:=ks.below alx
   replace os:=os.below alx
   replace kt:=kt.below alx
   replace ko:=ko.below alx
   have HSZ:=Lib.hid (sumQ_sz t q (l.take k))
   obtain ⟨⟨X,xb⟩,hX⟩:∃ r,exactR t x q = r:=⟨_,rfl⟩
   have HX:=Lib.hid hX
   have HZX:=Lib.hid (show szQ X ≤ 1048576 by have:=exactR_sz t x q;rw [hX] at this;exact this)
   have HXK:=Lib.hid hxk
   obtain ⟨s',hs'⟩:∃ s',(addQ (sumQ t q (l.take k)) X).1 = s':=⟨_,rfl⟩
   have HSN:=Lib.hid (show (addQ (sumQ t q (l.take k)) (exactR t x q).1).1 = s' by rw [hX];exact hs')
   have HSQ:=Lib.hid hs'
   clear hX hc0 hc1 hc2 hox hxk haa hs'
   generalize hsE:sumQ t q (l.take k) = s at *
   have HSE:=Lib.hid hsE
   clear hsE
   have kt_c0:=kt.here.cell 0 _ rfl
   have kt_c1:=kt.here.cell 1 _ rfl
   have km_c0:=km.here.cell 0 _ rfl
   have km_c1:=km.here.cell 1 _ rfl
   have km_c2:=km.here.cell 2 _ rfl
   go_wp2_with fail
   clear kt_c0 kt_c1 km_c0 km_c1 km_c2 k0 k1 k2 km
   refine ((implExact_any _ _ t x q _ hl hx hzx (HTR.out _ bbx) OX.out (HT.out.below bbx) (HS.out.below bbx)).mono fun _ _ h=>postQb_isC HX.out h).mono ?_
   rintro e w2 ⟨u2,S2,rfl,o2,l2,b2⟩
   obtain ⟨A2,c2,B2,d2,rfl⟩:=ownQ_form o2.here
   have hz2:sb < w2.heap.size:=by have:=b2.size;simp at this;omega
   have bby:=Below.next bbx b2
   replace ks:=ks.below b2
   replace os:=os.below b2
   replace kt:=kt.below b2
   replace ko:=ko.below b2
   have kx:=box_new w2 #[.bool X.1.1,.slice A2 X.1.2.length c2,.slice B2 X.2.length d2] 36
   have aly:=below_al (Below.refl w2.heap.size w2) (.cells #[.bool X.1.1,.slice A2 X.1.2.length c2,.slice B2 X.2.length d2] 36)
   have bbz:=Below.next bby aly
   replace ks:=ks.below aly
   replace os:=os.below aly
   replace kt:=kt.below aly
   replace ko:=ko.below aly
   replace o2:=o2.below aly
   have ks_c0:=ks.here.cell 0 _ rfl
   have ks_c1:=ks.here.cell 1 _ rfl
   have ks_c2:=ks.here.cell 2 _ rfl
   have kx_c0:=kx.here.cell 0 _ rfl
   have kx_c1:=kx.here.cell 1 _ rfl
   have kx_c2:=kx.here.cell 2 _ rfl
   go_wp2_with fail
   clear ks_c0 ks_c1 ks_c2 kx_c0 kx_c1 kx_c2 kx
   refine ((implRatAdd_any _ _ s X _ HSZ.out HZX.out os.here o2.here (HS.out.below bbz)).mono fun _ _ h=>postQb_isC (X:=s') (b:=(addQ s X).2) (Prod.ext HSQ.out rfl) h).mono ?_
   rintro e w3 ⟨u3,S3,rfl,o3,l3,b3⟩
   obtain ⟨A3,c3,B3,d3,rfl⟩:=ownQ_form o3.here
   have bbw:=Below.next bbz b3
   replace ks:=ks.below b3
   replace kt:=kt.below b3
   replace ko:=ko.below b3
   have HREL:=Lib.hid (sumQRel_next (t:=t) (q:=q) (l:=l) (A:=A) (c:=c) (w:=w) hlt HXK.out (by rw [HSE.out];exact HSN.out) hsb ks o3 (fun i hi=>by have h1:=(l3 i hi).1;simp at h1;omega) kt ko bbw)
   have cz0:=ks.here.cell 0 _ rfl
   have cz1:=ks.here.cell 1 _ rfl
   have cz2:=ks.here.cell 2 _ rfl
   have fz0:=Lib.frozen_of_heap ks.here 0
   have fz1:=Lib.frozen_of_heap ks.here 1
   have fz2:=Lib.frozen_of_heap ks.here 2
   clear ks kt ko os o2 o3 l2 l3 b2 b3 bbx bby bbz bbw alx aly hb
   go_wp2
   exact ⟨HREL.out,by simp [intOf];omega⟩
  ·obtain rfl:k = l.length:=by omega
   rw [List.take_length] at ks os
   have HF:=Lib.hid (show ∀ W',Chg [w.heap.size+1] wr W'→NewV (fun u=>OwnQ u (sumQ t q l)) w (.returned (.agg #[.bool (sumQ t q l).1.1,.slice Au (sumQ t q l).1.2.length cu,.slice Bu (sumQ t q l).2.length du])) W' from
    fun W' hc=>⟨_,S,rfl,os.chg hc (fun i hi hm=>by have:=HSL.out i hi;simp at hm;omega),fun i hi=>⟨by have:=HSL.out i hi;omega,Nat.lt_of_lt_of_le (os.lt i hi) hc.size⟩,below_chg hb hc hb.size (fun i hi=>by simp at hi;omega)⟩)
   obtain ⟨s,hsE⟩:∃ s,sumQ t q l = s:=⟨_,rfl⟩
   rw [hsE] at HF ks
   have HSE:=Lib.hid hsE
   clear hsE
   have ks_c0:=ks.here.cell 0 _ rfl
   have ks_c1:=ks.here.cell 1 _ rfl
   have ks_c2:=ks.here.cell 2 _ rfl
   have cz0:=ko.here.cell 0 _ rfl
   have cz1:=ko.here.cell 1 _ rfl
   have cz2:=ko.here.cell 2 _ rfl
   have fz0:=Lib.frozen_of_heap ko.here 0
   have fz1:=Lib.frozen_of_heap ko.here 1
   have fz2:=Lib.frozen_of_heap ko.here 2
   clear ks ko kt os hb
   go_wp2
   refine bodyPost_ret (v:=.agg #[.bool s.1.1,.slice Au s.1.2.length cu,.slice Bu s.2.length du]) (by simp [results,Tryz.results72,go_sem,cz0,cz1,cz2]) rfl ?_
   rw [HSE.out]
   refine HF.out _ ?_
   repeat (first | with_reducible exact Chg.refl _ _ | with_reducible refine Chg.setCell ?_ (by simp) _)
set_option maxHeartbeats 4000000 in
theorem implRatRest_any (vr:Value) (r:QI) (m:Int) (w:World) (hz:szQ r ≤ 1048576) (hr:OwnQ vr r w) (hsen:Sen w) :
 Calls Tryz.prog 103 #[vr,.int .i64 m] w (PostSQb (restS r m) (restQ r m) (restB r m) w):=by
 have HS:=Lib.hid hsen
 clear hsen
 have Hr:=Lib.hid hr
 obtain ⟨Ar,cr,Br,dr,rfl⟩:=ownQ_form hr
 have OQr:=Lib.hid (show ∀ W,Below w.heap.size w W→OwnQ (.agg #[.bool r.1.1,.slice Ar r.1.2.length cr,.slice Br r.2.length dr]) r W from fun W hb=>OwnQ.below Hr.out hb)
 have OUr:=Lib.hid (show ∀ W,Below w.heap.size w W→OwnI (.slice Ar r.1.2.length cr) r.1.2 W from fun W hb=>(ownQ_open (OQr.out W hb)).2.1)
 have ODr:=Lib.hid (show ∀ W,Below w.heap.size w W→OwnI (.slice Br r.2.length dr) r.2 W from fun W hb=>(ownQ_open (OQr.out W hb)).2.2.1)
 have OSr:=Lib.hid (show ∀ W,Below w.heap.size w W→OwnS (.agg #[.bool r.1.1,.slice Ar r.1.2.length cr]) r.1 W from fun W hb=>OwnS.mk (OUr.out W hb))
 clear hr
 have bb0:Below w.heap.size w (((w.alloc (.cells #[.bool r.1.1,.slice Ar r.1.2.length cr,.slice Br r.2.length dr] 36)).alloc (.cells #[.bool false,.slice none 0 0] 32)).alloc (.cells #[.bool false,.slice none 0 0,.slice none 0 0] 36)):=below_al (below_al (below_al (Below.refl _ _) _) _) _
 have kr:=(box_new w #[.bool r.1.1,.slice Ar r.1.2.length cr,.slice Br r.2.length dr] 36).below (below_al (below_al (Below.refl _ _) (.cells #[.bool false,.slice none 0 0] 32)) (.cells #[.bool false,.slice none 0 0,.slice none 0 0] 36))
 have ko:=(box_new (w.alloc (.cells #[.bool r.1.1,.slice Ar r.1.2.length cr,.slice Br r.2.length dr] 36)) #[.bool false,.slice none 0 0] 32).below (below_al (Below.refl _ _) (.cells #[.bool false,.slice none 0 0,.slice none 0 0] 36))
 rw [show (w.alloc (.cells #[.bool r.1.1,.slice Ar r.1.2.length cr,.slice Br r.2.length dr] 36)).heap.size = w.heap.size+1 by simp] at ko
 have kp:=(box_new ((w.alloc (.cells #[.bool r.1.1,.slice Ar r.1.2.length cr,.slice Br r.2.length dr] 36)).alloc (.cells #[.bool false,.slice none 0 0] 32)) #[.bool false,.slice none 0 0,.slice none 0 0] 36)
 rw [show ((w.alloc (.cells #[.bool r.1.1,.slice Ar r.1.2.length cr,.slice Br r.2.length dr] 36)).alloc (.cells #[.bool false,.slice none 0 0] 32)).heap.size = w.heap.size+1+1 by simp] at kp
 have HKO:=Lib.hid (ko.lt (w.heap.size+1) (by simp))
 have HKP:=Lib.hid (kp.lt (w.heap.size+1+1) (by simp))
 obtain ⟨X,hX⟩:∃ X,(roundR r m).1 = X:=⟨_,rfl⟩
 obtain ⟨Y,hY⟩:∃ Y,(makeQ X (ofZ 1)).1 = Y:=⟨_,rfl⟩
 obtain ⟨Z,hZ⟩:∃ Z,(subQ r Y).1 = Z:=⟨_,rfl⟩
 have zX:szS X ≤ 1048576:=by rw [← hX];exact roundR_sz r m
 have zY:szQ Y ≤ 1048576:=by rw [← hY];exact makeQ_szQ _ _
 by_cases hb:okQ r = true∧modeB m = true
 ·obtain ⟨r1,r2,r3,r4⟩:=rest_all hb.1 hb.2
  have ER:=Lib.hid (show roundR r m = (X,true) by rw [r1,← hX,r1])
  have rp:=rest_parts hb.1 m
  have e0:roundS r m = X:=by rw [← hX,r1]
  rw [e0] at rp r3 r4
  rw [hY] at rp r4
  rw [hZ] at r4
  have EM:=Lib.hid (show makeQ X (ofZ 1) = (Y,true) by rw [← hY,← rp.1])
  have ES:=Lib.hid (show subQ r Y = (Z,true) by rw [← hZ,← rp.2])
  have HV:=Lib.hid (show restS r m = X∧restQ r m = Z∧restB r m = true from ⟨r3,r4,r2⟩)
  clear rp e0
  clear hX hY hZ r1 r2 r3 r4 hb
  go_enter Tryz.func103,Tryz.ntmps103
  have kr_c0:=kr.here.cell 0 _ rfl
  have kr_c1:=kr.here.cell 1 _ rfl
  have kr_c2:=kr.here.cell 2 _ rfl
  go_wp2_with fail
  clear kr_c0 kr_c1 kr_c2
  refine ((implRatRound_any _ r m _ hz (OQr.out _ bb0) (HS.out.below bb0)).mono fun _ _ h=>postSb_is ER.out h).mono ?_
  rintro e w1 ⟨ux,Sx,rfl,ox,lx,b1⟩
  obtain ⟨Ax,cx,rfl⟩:=ownS_form ox.here
  have bb1:=Below.next bb0 b1
  replace kr:=kr.below b1
  replace ko:=ko.below b1
  replace kp:=kp.below b1
  have kx:=box_new (w1) #[.bool X.1,.slice Ax X.2.length cx] 32
  have alx:=below_al (Below.refl (w1).heap.size (w1)) (.cells #[.bool X.1,.slice Ax X.2.length cx] 32)
  have bbx:=Below.next bb1 alx
  replace kr:=kr.below alx
  replace ko:=ko.below alx
  replace kp:=kp.below alx
  replace ox:=ox.below alx
  have kx_c0:=kx.here.cell 0 _ rfl
  have kx_c1:=kx.here.cell 1 _ rfl
  go_wp2_with fail
  clear kx_c0 kx_c1
  refine ((implRatInt_any _ X _ zX ox.here (HS.out.below bbx)).mono fun _ _ h=>postQb_is EM.out h).mono ?_
  rintro e w2 ⟨uy,Sy,rfl,oy,ly,b2⟩
  obtain ⟨Ay,cy,By,dy,rfl⟩:=ownQ_form oy.here
  have bb2:=Below.next bbx b2
  replace kr:=kr.below b2
  replace ko:=ko.below b2
  replace kp:=kp.below b2
  replace ox:=ox.below b2
  replace kx:=kx.below b2
  have ky:=box_new (w2) #[.bool Y.1.1,.slice Ay Y.1.2.length cy,.slice By Y.2.length dy] 36
  have aly:=below_al (Below.refl (w2).heap.size (w2)) (.cells #[.bool Y.1.1,.slice Ay Y.1.2.length cy,.slice By Y.2.length dy] 36)
  have bby:=Below.next bb2 aly
  replace kr:=kr.below aly
  replace ko:=ko.below aly
  replace kp:=kp.below aly
  replace ox:=ox.below aly
  replace kx:=kx.below aly
  replace oy:=oy.below aly
  have kr_c0:=kr.here.cell 0 _ rfl
  have kr_c1:=kr.here.cell 1 _ rfl
  have kr_c2:=kr.here.cell 2 _ rfl
  have ky_c0:=ky.here.cell 0 _ rfl
  have ky_c1:=ky.here.cell 1 _ rfl
  have ky_c2:=ky.here.cell 2 _ rfl
  go_wp2_with fail
  clear kr_c0 kr_c1 kr_c2 ky_c0 ky_c1 ky_c2
  refine ((implRatSub_any _ _ r Y _ hz zY (OQr.out _ bby) oy.here (HS.out.below bby)).mono fun _ _ h=>postQb_is ES.out h).mono ?_
  rintro e w3 ⟨uz,Sz,rfl,oz,lz,b3⟩
  obtain ⟨Az,cz,Bz,dz,rfl⟩:=ownQ_form oz.here
  have bb3:=Below.next bby b3
  replace kr:=kr.below b3
  replace ko:=ko.below b3
  replace kp:=kp.below b3
  replace ox:=ox.below b3
  replace kx:=kx.below b3
  replace oy:=oy.below b3
  replace ky:=ky.below b3
  have kz:=box_new (w3) #[.bool Z.1.1,.slice Az Z.1.2.length cz,.slice Bz Z.2.length dz] 36
  have alz:=below_al (Below.refl (w3).heap.size (w3)) (.cells #[.bool Z.1.1,.slice Az Z.1.2.length cz,.slice Bz Z.2.length dz] 36)
  have bbz:=Below.next bb3 alz
  replace kr:=kr.below alz
  replace ko:=ko.below alz
  replace kp:=kp.below alz
  replace ox:=ox.below alz
  replace kx:=kx.below alz
  replace oy:=oy.below alz
  replace ky:=ky.below alz
  replace oz:=oz.below alz
  have z1:=b1.size
  have z2:=b2.size
  have z3:=b3.size
  have zx:=alx.size
  have zy:=aly.size
  have zz:=alz.size
  have HKX:=Lib.hid (kx.lt _ (List.mem_singleton.2 rfl))
  have HW:=Lib.hid (newSQb_at (b:=true) (r:=w.heap.size+1) (p:=w.heap.size+1+1) ox oz (within_up lx (Nat.le_refl _) (Nat.le_trans zx (Nat.le_trans z2 (Nat.le_trans zy (Nat.le_trans z3 zz))))) (within_up lz (Nat.le_refl _) zz) (Within.apart lx lz (.inl (Nat.le_trans zx (Nat.le_trans z2 zy)))) HKP.out (Nat.lt_of_lt_of_le HKP.out (Nat.le_trans z1 (Nat.le_trans zx (Nat.le_trans z2 zy)))) (by omega) (by omega) (by omega) bbz)
  have hs1:=HKP.out
  have hs2:=Nat.lt_of_lt_of_le HKP.out z1
  have hs3:=Nat.lt_of_lt_of_le hs2 (Nat.le_trans zx (Nat.le_trans z2 (Nat.le_trans zy z3)))
  have hn_w1_1:¬ w1.heap.size = w.heap.size+1:=by omega
  have hn_w1_1':¬ w.heap.size+1 = w1.heap.size:=by omega
  have hn_w1_2:¬ w1.heap.size = w.heap.size+1+1:=by omega
  have hn_w1_2':¬ w.heap.size+1+1 = w1.heap.size:=by omega
  have hn_w3_1:¬ w3.heap.size = w.heap.size+1:=by omega
  have hn_w3_1':¬ w.heap.size+1 = w3.heap.size:=by omega
  have hn_w3_2:¬ w3.heap.size = w.heap.size+1+1:=by omega
  have hn_w3_2':¬ w.heap.size+1+1 = w3.heap.size:=by omega
  clear hs1 hs2 hs3
  have cko0:=ko.here.cell 0 _ rfl
  have cko1:=ko.here.cell 1 _ rfl
  have fko0:=Lib.frozen_of_heap ko.here 0
  have fko1:=Lib.frozen_of_heap ko.here 1
  have ckp0:=kp.here.cell 0 _ rfl
  have ckp1:=kp.here.cell 1 _ rfl
  have ckp2:=kp.here.cell 2 _ rfl
  have fkp0:=Lib.frozen_of_heap kp.here 0
  have fkp1:=Lib.frozen_of_heap kp.here 1
  have fkp2:=Lib.frozen_of_heap kp.here 2
  have ckx0:=kx.here.cell 0 _ rfl
  have ckx1:=kx.here.cell 1 _ rfl
  have ckz0:=kz.here.cell 0 _ rfl
  have ckz1:=kz.here.cell 1 _ rfl
  have ckz2:=kz.here.cell 2 _ rfl
  clear ox oy oz ko kp kr kx ky kz z1 z2 z3 zx zy zz lx ly lz
  go_wp2_with fail
  go_region
  all_goals (go_wp2;refine bodyPost_ret (v:=.tuple #[.agg #[.bool X.1,.slice Ax X.2.length cx],.agg #[.bool Z.1.1,.slice Az Z.1.2.length cz,.slice Bz Z.2.length dz],.bool true]) (by simp [results,Tryz.results103,go_sem,cko0,cko1,ckp0,ckp1,ckp2]) rfl ?_)
  all_goals (rw [HV.out.1,HV.out.2.1,HV.out.2.2];refine HW.out _ ?_;repeat (first | exact Chg.refl _ _ | refine Chg.setCell ?_ (by simp) _ | refine Chg.drew1 ?_))
 ·obtain ⟨r1,r2,r3,r4⟩:=rest_none hb
  have ER:=Lib.hid (show roundR r m = (X,false) by rw [r1,← hX,r1])
  have HV:=Lib.hid (show restS r m = zeroS∧restQ r m = zeroQ∧restB r m = false from ⟨r3,r4,r2⟩)
  obtain ⟨by_,hby⟩:∃ b,(makeQ X (ofZ 1)).2 = b:=⟨_,rfl⟩
  obtain ⟨bz_,hbz⟩:∃ b,(subQ r Y).2 = b:=⟨_,rfl⟩
  have EM:=Lib.hid (show makeQ X (ofZ 1) = (Y,by_) by rw [← hY,← hby])
  have ES:=Lib.hid (show subQ r Y = (Z,bz_) by rw [← hZ,← hbz])
  clear hby hbz
  clear hX hY hZ r1 r2 r3 r4 hb
  go_enter Tryz.func103,Tryz.ntmps103
  have kr_c0:=kr.here.cell 0 _ rfl
  have kr_c1:=kr.here.cell 1 _ rfl
  have kr_c2:=kr.here.cell 2 _ rfl
  go_wp2_with fail
  clear kr_c0 kr_c1 kr_c2
  refine ((implRatRound_any _ r m _ hz (OQr.out _ bb0) (HS.out.below bb0)).mono fun _ _ h=>postSb_is ER.out h).mono ?_
  rintro e w1 ⟨ux,Sx,rfl,ox,lx,b1⟩
  obtain ⟨Ax,cx,rfl⟩:=ownS_form ox.here
  have bb1:=Below.next bb0 b1
  replace kr:=kr.below b1
  replace ko:=ko.below b1
  replace kp:=kp.below b1
  have kx:=box_new (w1) #[.bool X.1,.slice Ax X.2.length cx] 32
  have alx:=below_al (Below.refl (w1).heap.size (w1)) (.cells #[.bool X.1,.slice Ax X.2.length cx] 32)
  have bbx:=Below.next bb1 alx
  replace kr:=kr.below alx
  replace ko:=ko.below alx
  replace kp:=kp.below alx
  replace ox:=ox.below alx
  have cko0:=ko.here.cell 0 _ rfl
  have fko0:=Lib.frozen_of_heap ko.here 0
  have cko1:=ko.here.cell 1 _ rfl
  have fko1:=Lib.frozen_of_heap ko.here 1
  have ckp0:=kp.here.cell 0 _ rfl
  have fkp0:=Lib.frozen_of_heap kp.here 0
  have ckp1:=kp.here.cell 1 _ rfl
  have fkp1:=Lib.frozen_of_heap kp.here 1
  have ckp2:=kp.here.cell 2 _ rfl
  have fkp2:=Lib.frozen_of_heap kp.here 2
  go_wp2
  refine bodyPost_ret (v:=.tuple #[.agg #[.bool false,.slice none 0 0],.agg #[.bool false,.slice none 0 0,.slice none 0 0],.bool false]) (by simp [results,Tryz.results103,go_sem,cko0,cko1,ckp0,ckp1,ckp2]) rfl ?_
  rw [HV.out.1,HV.out.2.1,HV.out.2.2]
  first | exact newSQb_zero bbx | exact newSQb_zero (below_set3 (below_set2 bbx (by omega)) (by omega))
set_option maxHeartbeats 4000000 in
theorem implRatMoney_any (cu:ByteArray) (vr:Value) (r:QI) (m:Int) (w:World) (hz:szQ r ≤ 1048576) (hr:OwnQ vr r w) (ht:CurTab w) (hsen:Sen w) :
 Calls Tryz.prog 71 #[.string cu,vr,.int .i64 m] w (PostMQb (rmM cu r m) (rmQ cu r m) (rmB cu r m) w):=by
 have HT:=Lib.hid ht
 have HS:=Lib.hid hsen
 clear ht hsen
 have Hr:=Lib.hid hr
 obtain ⟨Ar,cr,Br,dr,rfl⟩:=ownQ_form hr
 have OQr:=Lib.hid (show ∀ W,Below w.heap.size w W→OwnQ (.agg #[.bool r.1.1,.slice Ar r.1.2.length cr,.slice Br r.2.length dr]) r W from fun W hb=>OwnQ.below Hr.out hb)
 clear hr
 have bb0:Below w.heap.size w (((w.alloc (.cells #[.bool r.1.1,.slice Ar r.1.2.length cr,.slice Br r.2.length dr] 36)).alloc (.cells #[.string ⟨#[]⟩,.bool false,.slice none 0 0] 34)).alloc (.cells #[.bool false,.slice none 0 0,.slice none 0 0] 36)):=below_al (below_al (below_al (Below.refl _ _) _) _) _
 have kr:=(box_new w #[.bool r.1.1,.slice Ar r.1.2.length cr,.slice Br r.2.length dr] 36).below (below_al (below_al (Below.refl _ _) (.cells #[.string ⟨#[]⟩,.bool false,.slice none 0 0] 34)) (.cells #[.bool false,.slice none 0 0,.slice none 0 0] 36))
 have ko:=(box_new (w.alloc (.cells #[.bool r.1.1,.slice Ar r.1.2.length cr,.slice Br r.2.length dr] 36)) #[.string ⟨#[]⟩,.bool false,.slice none 0 0] 34).below (below_al (Below.refl _ _) (.cells #[.bool false,.slice none 0 0,.slice none 0 0] 36))
 rw [show (w.alloc (.cells #[.bool r.1.1,.slice Ar r.1.2.length cr,.slice Br r.2.length dr] 36)).heap.size = w.heap.size+1 by simp] at ko
 have kp:=(box_new ((w.alloc (.cells #[.bool r.1.1,.slice Ar r.1.2.length cr,.slice Br r.2.length dr] 36)).alloc (.cells #[.string ⟨#[]⟩,.bool false,.slice none 0 0] 34)) #[.bool false,.slice none 0 0,.slice none 0 0] 36)
 rw [show ((w.alloc (.cells #[.bool r.1.1,.slice Ar r.1.2.length cr,.slice Br r.2.length dr] 36)).alloc (.cells #[.string ⟨#[]⟩,.bool false,.slice none 0 0] 34)).heap.size = w.heap.size+1+1 by simp] at kp
 have HKO:=Lib.hid (ko.lt (w.heap.size+1) (by simp))
 have HKP:=Lib.hid (kp.lt (w.heap.size+1+1) (by simp))
 have hzX:(restS r m).2.length ≤ 1048576:=restS_len r m
 obtain ⟨X,hX⟩:∃ X,restS r m = X:=⟨_,rfl⟩
 obtain ⟨Y,hY⟩:∃ Y,restQ r m = Y:=⟨_,rfl⟩
 obtain ⟨rb,hrb⟩:∃ b,restB r m = b:=⟨_,rfl⟩
 obtain ⟨⟨Q,qb⟩,hQ⟩:∃ Q,makeM cu X = Q:=⟨_,rfl⟩
 have EX:=Lib.hid hX
 have EY:=Lib.hid hY
 have EQ:=Lib.hid hQ
 have EG:=Lib.hid (show rb = true→qb = true→rmM cu r m = Q∧rmQ cu r m = Y∧rmB cu r m = true from fun h1 h2=>by have h:=rm_good (cu:=cu) (r:=r) (m:=m) (by rw [hrb];exact h1) (by rw [hX,hQ];exact h2);rw [hX,hQ,hY] at h;exact h)
 have EB:=Lib.hid (show rb = false ∨ qb = false→rmM cu r m = zeroM∧rmQ cu r m = zeroQ∧rmB cu r m = false from fun h=>rm_bad (by rw [hrb,hX,hQ];exact h))
 have ER:=Lib.hid hrb
 rw [hX] at hzX
 clear hX hY hrb hQ
 generalize rmM cu r m = RM at *
 generalize rmQ cu r m = RQ at *
 generalize rmB cu r m = RB at *
 go_enter Tryz.func71,Tryz.ntmps71
 have kr_c0:=kr.here.cell 0 _ rfl
 have kr_c1:=kr.here.cell 1 _ rfl
 have kr_c2:=kr.here.cell 2 _ rfl
 go_wp2_with fail
 clear kr_c0 kr_c1 kr_c2
 refine ((implRatRest_any _ r m _ hz (OQr.out _ bb0) (HS.out.below bb0)).mono fun _ _ h=>postSQb_isM EX.out EY.out ER.out h).mono ?_
 rintro e w1 ⟨ux,uy,Sx,Sy,rfl,ox,oy,hap,lx,ly,b1⟩
 obtain ⟨Ax,cx,rfl⟩:=ownS_form ox.here
 obtain ⟨Ay,cy,By,dy,rfl⟩:=ownQ_form oy.here
 have bb1:=Below.next bb0 b1
 replace kr:=kr.below b1
 replace ko:=ko.below b1
 replace kp:=kp.below b1
 have kx:=box_new (w1) #[.bool X.1,.slice Ax X.2.length cx] 32
 have alx:=below_al (Below.refl (w1).heap.size (w1)) (.cells #[.bool X.1,.slice Ax X.2.length cx] 32)
 have bbx:=Below.next bb1 alx
 replace kr:=kr.below alx
 replace ko:=ko.below alx
 replace kp:=kp.below alx
 replace ox:=ox.below alx
 replace oy:=oy.below alx
 have ky:=box_new ((w1.alloc (.cells #[.bool X.1,.slice Ax X.2.length cx] 32))) #[.bool Y.1.1,.slice Ay Y.1.2.length cy,.slice By Y.2.length dy] 36
 have aly:=below_al (Below.refl ((w1.alloc (.cells #[.bool X.1,.slice Ax X.2.length cx] 32))).heap.size ((w1.alloc (.cells #[.bool X.1,.slice Ax X.2.length cx] 32)))) (.cells #[.bool Y.1.1,.slice Ay Y.1.2.length cy,.slice By Y.2.length dy] 36)
 have bby:=Below.next bbx aly
 replace kr:=kr.below aly
 replace ko:=ko.below aly
 replace kp:=kp.below aly
 replace ox:=ox.below aly
 replace oy:=oy.below aly
 replace kx:=kx.below aly
 have kx_c0:=kx.here.cell 0 _ rfl
 have kx_c1:=kx.here.cell 1 _ rfl
 go_wp2_with fail
 clear kx_c0 kx_c1
 refine ((validMoney_any cu _ X _ _ hzX ox (HT.out.below bby)).mono fun _ _ h=>keptM_eq EQ.out h).mono ?_
 rintro e w2 ⟨um,Sm,rfl,om,sm,b2⟩
 obtain ⟨Am,cm,rfl⟩:=ownM_form om.here
 have bb2:=Below.next bby b2
 replace kr:=kr.below b2
 replace ko:=ko.below b2
 replace kp:=kp.below b2
 replace ox:=ox.below b2
 replace oy:=oy.below b2
 replace kx:=kx.below b2
 replace ky:=ky.below b2
 have km:=box_new (w2) #[.string Q.1,.bool Q.2.1,.slice Am Q.2.2.length cm] 34
 have alm:=below_al (Below.refl (w2).heap.size (w2)) (.cells #[.string Q.1,.bool Q.2.1,.slice Am Q.2.2.length cm] 34)
 have bbm:=Below.next bb2 alm
 replace kr:=kr.below alm
 replace ko:=ko.below alm
 replace kp:=kp.below alm
 replace ox:=ox.below alm
 replace oy:=oy.below alm
 replace kx:=kx.below alm
 replace ky:=ky.below alm
 replace om:=om.below alm
 cases rb with
 | false =>
   have HV:=Lib.hid (EB.out (.inl rfl))
   have cko0:=ko.here.cell 0 _ rfl
   have fko0:=Lib.frozen_of_heap ko.here 0
   have cko1:=ko.here.cell 1 _ rfl
   have fko1:=Lib.frozen_of_heap ko.here 1
   have cko2:=ko.here.cell 2 _ rfl
   have fko2:=Lib.frozen_of_heap ko.here 2
   have ckp0:=kp.here.cell 0 _ rfl
   have fkp0:=Lib.frozen_of_heap kp.here 0
   have ckp1:=kp.here.cell 1 _ rfl
   have fkp1:=Lib.frozen_of_heap kp.here 1
   have ckp2:=kp.here.cell 2 _ rfl
   have fkp2:=Lib.frozen_of_heap kp.here 2
   clear ox oy om ko kp kr kx ky km lx ly sm hap
   go_wp2
   refine bodyPost_ret (v:=.tuple #[.agg #[.string ⟨#[]⟩,.bool false,.slice none 0 0],.agg #[.bool false,.slice none 0 0,.slice none 0 0],.bool false]) (by simp [results,Tryz.results71,go_sem,cko0,cko1,cko2,ckp0,ckp1,ckp2]) rfl ?_
   rw [HV.out.1,HV.out.2.1,HV.out.2.2]
   have hle1:w.heap.size ≤ w.heap.size+1:=by omega
   have hle2:w.heap.size ≤ w.heap.size+1+1:=by omega
   first | with_reducible exact newMQb_zero (below_set3 (below_set3 bbm hle1) hle2) | with_reducible exact newMQb_zero bbm
 | true =>
   cases qb with
   | false =>
     have HV:=Lib.hid (EB.out (.inr rfl))
     have cko0:=ko.here.cell 0 _ rfl
     have fko0:=Lib.frozen_of_heap ko.here 0
     have cko1:=ko.here.cell 1 _ rfl
     have fko1:=Lib.frozen_of_heap ko.here 1
     have cko2:=ko.here.cell 2 _ rfl
     have fko2:=Lib.frozen_of_heap ko.here 2
     have ckp0:=kp.here.cell 0 _ rfl
     have fkp0:=Lib.frozen_of_heap kp.here 0
     have ckp1:=kp.here.cell 1 _ rfl
     have fkp1:=Lib.frozen_of_heap kp.here 1
     have ckp2:=kp.here.cell 2 _ rfl
     have fkp2:=Lib.frozen_of_heap kp.here 2
     clear ox oy om ko kp kr kx ky km lx ly sm hap
     go_wp2
     refine bodyPost_ret (v:=.tuple #[.agg #[.string ⟨#[]⟩,.bool false,.slice none 0 0],.agg #[.bool false,.slice none 0 0,.slice none 0 0],.bool false]) (by simp [results,Tryz.results71,go_sem,cko0,cko1,cko2,ckp0,ckp1,ckp2]) rfl ?_
     rw [HV.out.1,HV.out.2.1,HV.out.2.2]
     have hle1:w.heap.size ≤ w.heap.size+1:=by omega
     have hle2:w.heap.size ≤ w.heap.size+1+1:=by omega
     first | with_reducible exact newMQb_zero (below_set3 (below_set3 bbm hle1) hle2) | with_reducible exact newMQb_zero bbm
   | true =>
     have HV:=Lib.hid (EG.out rfl rfl)
     have z1:=b1.size
     have z2:=b2.size
     have zx:=alx.size
     have zy:=aly.size
     have zm:=alm.size
     have e1:(w1.alloc (.cells #[.bool X.1,.slice Ax X.2.length cx] 32)).heap.size = w1.heap.size+1:=by simp
     have e2:((w1.alloc (.cells #[.bool X.1,.slice Ax X.2.length cx] 32)).alloc (.cells #[.bool Y.1.1,.slice Ay Y.1.2.length cy,.slice By Y.2.length dy] 36)).heap.size = w1.heap.size+1+1:=by simp
     have hko:=HKO.out
     have hkp:=HKP.out
     have HW:=Lib.hid (newMQb_at (b:=true) (r:=w.heap.size+1) (p:=w.heap.size+1+1) om oy (B:=w.heap.size+3) (C:=w.heap.size+3) (fun i hi=>⟨by have:=(lx i (sm i hi)).1;simp at this;omega,om.lt i hi⟩) (fun i hi=>⟨by have:=(ly i hi).1;simp at this;omega,oy.lt i hi⟩) (fun i hi=>hap i (sm i hi)) (by omega) (by omega) (by omega) (by omega) (by omega) bbm)
     have hw1:w.heap.size+3 ≤ w1.heap.size:=by simp at z1;omega
     have hw2:w1.heap.size+2 ≤ w2.heap.size:=by rw [e2] at z2;omega
     have hn_w1_1:¬ w1.heap.size = w.heap.size+1:=by omega
     have hn_w1_1':¬ w.heap.size+1 = w1.heap.size:=by omega
     have hn_w1_2:¬ w1.heap.size = w.heap.size+1+1:=by omega
     have hn_w1_2':¬ w.heap.size+1+1 = w1.heap.size:=by omega
     have hn_w2_1:¬ w2.heap.size = w.heap.size+1:=by omega
     have hn_w2_1':¬ w.heap.size+1 = w2.heap.size:=by omega
     have hn_w2_2:¬ w2.heap.size = w.heap.size+1+1:=by omega
     have hn_w2_2':¬ w.heap.size+1+1 = w2.heap.size:=by omega
     have hn_y_1:¬ w1.heap.size+1 = w.heap.size+1:=by omega
     have hn_y_1':¬ w.heap.size+1 = w1.heap.size+1:=by omega
     have hn_y_2:¬ w1.heap.size+1 = w.heap.size+1+1:=by omega
     have hn_y_2':¬ w.heap.size+1+1 = w1.heap.size+1:=by omega
     rw [e1] at ky
     have cko0:=ko.here.cell 0 _ rfl
     have fko0:=Lib.frozen_of_heap ko.here 0
     have cko1:=ko.here.cell 1 _ rfl
     have fko1:=Lib.frozen_of_heap ko.here 1
     have cko2:=ko.here.cell 2 _ rfl
     have fko2:=Lib.frozen_of_heap ko.here 2
     have ckp0:=kp.here.cell 0 _ rfl
     have fkp0:=Lib.frozen_of_heap kp.here 0
     have ckp1:=kp.here.cell 1 _ rfl
     have fkp1:=Lib.frozen_of_heap kp.here 1
     have ckp2:=kp.here.cell 2 _ rfl
     have fkp2:=Lib.frozen_of_heap kp.here 2
     have ckm0:=km.here.cell 0 _ rfl
     have ckm1:=km.here.cell 1 _ rfl
     have ckm2:=km.here.cell 2 _ rfl
     have cky0:=ky.here.cell 0 _ rfl
     have cky1:=ky.here.cell 1 _ rfl
     have cky2:=ky.here.cell 2 _ rfl
     clear ox oy om ko kp kr kx ky km lx ly sm hap z1 z2 zx zy zm e1 e2 hko hkp hw1 hw2
     go_wp2_with fail
     go_region
     all_goals (go_wp2;refine bodyPost_ret (v:=.tuple #[.agg #[.string Q.1,.bool Q.2.1,.slice Am Q.2.2.length cm],.agg #[.bool Y.1.1,.slice Ay Y.1.2.length cy,.slice By Y.2.length dy],.bool true]) (by simp [results,Tryz.results71,go_sem,cko0,cko1,cko2,ckp0,ckp1,ckp2]) rfl ?_)
     all_goals (rw [HV.out.1,HV.out.2.1,HV.out.2.2];refine HW.out _ ?_;repeat (first | with_reducible exact Chg.refl _ _ | with_reducible refine Chg.drew1 ?_ | with_reducible refine Chg.setCell ?_ (by simp) _))
set_option maxHeartbeats 4000000 in
theorem implconvertSum_any (v vl:Value) (t:TI) (l:List MI) (q:ByteArray) (k:Int) (w:World) (hl:t.2.length ≤ 1099511627776) (hx:∀ x ∈ t.2,x.2.2.1.2.length ≤ 1048576) (hll:l.length ≤ 140737488355328) (hlx:∀ x ∈ l,szS x.2 ≤ 1048576) (h:OwnTR w v t) (hm:OwnMR w vl l) (ht:CurTab w) (hsen:Sen w) :
 Calls Tryz.prog 50 #[v,vl,.string q,.int .i64 k] w (PostMQe (cvM t l q k) (cvQ t l q k) (cvN t l q k) w):=by
 have HT:=Lib.hid ht
 have HS:=Lib.hid hsen
 clear ht hsen
 have HL:=Lib.hid (show ∀ W,Below w.heap.size w W→OwnMR W vl l from fun W hb=>ownMR_belowC hm hb)
 clear hm
 have HLX:=Lib.hid (show ∀ x ∈ l,x.2.2.length ≤ 1048576 from fun x hx=>by have:=hlx x hx;unfold szS szI at this;omega)
 obtain ⟨A,c,rfl,hr⟩:=ownTR_form h
 have HR:=Lib.hid (show ∀ W,Below w.heap.size w W→OwnER W (.slice A t.2.length c) t.2 from fun W h=>hr.below h)
 have HTR:=Lib.hid (show ∀ W,Below w.heap.size w W→OwnTR W (.agg #[.string t.1,.slice A t.2.length c]) t from fun W h=>⟨_,rfl,hr.below h⟩)
 clear h hr
 have bb0:Below w.heap.size w (((w.alloc (.cells #[.string t.1,.slice A t.2.length c] 41)).alloc (.cells #[.string ⟨#[]⟩,.bool false,.slice none 0 0] 34)).alloc (.cells #[.bool false,.slice none 0 0,.slice none 0 0] 36)):=below_al (below_al (below_al (Below.refl _ _) _) _) _
 have kt:=(box_new w #[.string t.1,.slice A t.2.length c] 41).below (below_al (below_al (Below.refl _ _) (.cells #[.string ⟨#[]⟩,.bool false,.slice none 0 0] 34)) (.cells #[.bool false,.slice none 0 0,.slice none 0 0] 36))
 have kM:=(box_new (w.alloc (.cells #[.string t.1,.slice A t.2.length c] 41)) #[.string ⟨#[]⟩,.bool false,.slice none 0 0] 34).below (below_al (Below.refl _ _) (.cells #[.bool false,.slice none 0 0,.slice none 0 0] 36))
 rw [show (w.alloc (.cells #[.string t.1,.slice A t.2.length c] 41)).heap.size = w.heap.size+1 by simp] at kM
 have kQ:=(box_new ((w.alloc (.cells #[.string t.1,.slice A t.2.length c] 41)).alloc (.cells #[.string ⟨#[]⟩,.bool false,.slice none 0 0] 34)) #[.bool false,.slice none 0 0,.slice none 0 0] 36)
 rw [show ((w.alloc (.cells #[.string t.1,.slice A t.2.length c] 41)).alloc (.cells #[.string ⟨#[]⟩,.bool false,.slice none 0 0] 34)).heap.size = w.heap.size+1+1 by simp] at kQ
 go_enter Tryz.func50,Tryz.ntmps50
 obtain ⟨fb,hf⟩:∃ b,formB t l q k = b:=⟨_,rfl⟩
 cases fb with
 | false =>
   have HV:=Lib.hid (cv_form hf)
   rw [HV.out.1,HV.out.2.1,HV.out.2.2]
   have kt_c0:=kt.here.cell 0 _ rfl
   have kt_c1:=kt.here.cell 1 _ rfl
   go_wp2_with fail
   clear kt_c0 kt_c1
   refine ((implcheckConversion_any _ _ t l q k _ hl hx hll HLX.out (HTR.out _ bb0) (HL.out _ bb0) (HT.out.below bb0) (HS.out.below bb0)).mono fun _ _ h=>postE_err (chk_form hf) (by decide:¬ (1:Int) = 0) h).mono ?_
   rintro e w1 ⟨rfl,b1⟩
   have bb1:=Below.next bb0 b1
   replace kt:=kt.below b1
   replace kM:=kM.below b1
   replace kQ:=kQ.below b1
   clear kt
   have HW:=Lib.hid (newMQe_zero (n:=1) (T:=[w.heap.size+1,w.heap.size+1+1]) (errV_pos (by decide)) (fun i hi=>by simp at hi;omega) bb1)
   have ckM0:=kM.here.cell 0 _ rfl
   have fkM0:=Lib.frozen_of_heap kM.here 0
   have ckM1:=kM.here.cell 1 _ rfl
   have fkM1:=Lib.frozen_of_heap kM.here 1
   have ckM2:=kM.here.cell 2 _ rfl
   have fkM2:=Lib.frozen_of_heap kM.here 2
   have ckQ0:=kQ.here.cell 0 _ rfl
   have fkQ0:=Lib.frozen_of_heap kQ.here 0
   have ckQ1:=kQ.here.cell 1 _ rfl
   have fkQ1:=Lib.frozen_of_heap kQ.here 1
   have ckQ2:=kQ.here.cell 2 _ rfl
   have fkQ2:=Lib.frozen_of_heap kQ.here 2
   clear kM kQ
   go_wp2
   refine bodyPost_ret (v:=.tuple #[.agg #[.string ⟨#[]⟩,.bool false,.slice none 0 0],.agg #[.bool false,.slice none 0 0,.slice none 0 0],.iface 97 (.agg #[.int .i64 1])]) (by simp [results,Tryz.results50,go_sem,ckM0,ckM1,ckM2,ckQ0,ckQ1,ckQ2]) rfl ?_
   refine HW.out _ ?_
   repeat (first | with_reducible exact Chg.refl _ _ | with_reducible refine Chg.drew1 ?_ | with_reducible refine Chg.setCell ?_ (by simp) _)
 | true =>
   obtain ⟨nb,hn⟩:∃ b,noneB t l q = b:=⟨_,rfl⟩
   cases nb with
   | true =>
     have HV:=Lib.hid (cv_rate hf hn)
     rw [HV.out.1,HV.out.2.1,HV.out.2.2]
     have kt_c0:=kt.here.cell 0 _ rfl
     have kt_c1:=kt.here.cell 1 _ rfl
     go_wp2_with fail
     clear kt_c0 kt_c1
     refine ((implcheckConversion_any _ _ t l q k _ hl hx hll HLX.out (HTR.out _ bb0) (HL.out _ bb0) (HT.out.below bb0) (HS.out.below bb0)).mono fun _ _ h=>postE_err (chk_rate hf hn) (by decide:¬ (2:Int) = 0) h).mono ?_
     rintro e w1 ⟨rfl,b1⟩
     have bb1:=Below.next bb0 b1
     replace kt:=kt.below b1
     replace kM:=kM.below b1
     replace kQ:=kQ.below b1
     clear kt
     have HW:=Lib.hid (newMQe_zero (n:=2) (T:=[w.heap.size+1,w.heap.size+1+1]) (errV_pos (by decide)) (fun i hi=>by simp at hi;omega) bb1)
     have ckM0:=kM.here.cell 0 _ rfl
     have fkM0:=Lib.frozen_of_heap kM.here 0
     have ckM1:=kM.here.cell 1 _ rfl
     have fkM1:=Lib.frozen_of_heap kM.here 1
     have ckM2:=kM.here.cell 2 _ rfl
     have fkM2:=Lib.frozen_of_heap kM.here 2
     have ckQ0:=kQ.here.cell 0 _ rfl
     have fkQ0:=Lib.frozen_of_heap kQ.here 0
     have ckQ1:=kQ.here.cell 1 _ rfl
     have fkQ1:=Lib.frozen_of_heap kQ.here 1
     have ckQ2:=kQ.here.cell 2 _ rfl
     have fkQ2:=Lib.frozen_of_heap kQ.here 2
     clear kM kQ
     go_wp2
     refine bodyPost_ret (v:=.tuple #[.agg #[.string ⟨#[]⟩,.bool false,.slice none 0 0],.agg #[.bool false,.slice none 0 0,.slice none 0 0],.iface 97 (.agg #[.int .i64 2])]) (by simp [results,Tryz.results50,go_sem,ckM0,ckM1,ckM2,ckQ0,ckQ1,ckQ2]) rfl ?_
     refine HW.out _ ?_
     repeat (first | with_reducible exact Chg.refl _ _ | with_reducible refine Chg.drew1 ?_ | with_reducible refine Chg.setCell ?_ (by simp) _)
   | false =>
     have HF:=Lib.hid hf
     have HN:=Lib.hid hn
     clear hf hn
     have kt_c0:=kt.here.cell 0 _ rfl
     have kt_c1:=kt.here.cell 1 _ rfl
     go_wp2_with fail
     clear kt_c0 kt_c1
     refine ((implcheckConversion_any _ _ t l q k _ hl hx hll HLX.out (HTR.out _ bb0) (HL.out _ bb0) (HT.out.below bb0) (HS.out.below bb0)).mono fun _ _ h=>postE_nil (chk_good HF.out HN.out) h).mono ?_
     rintro e w1 ⟨rfl,b1⟩
     have hz1:w.heap.size+3 ≤ w1.heap.size:=by have:=b1.size;(try simp at this);omega
     have bb1:=Below.next bb0 b1
     replace kt:=kt.below b1
     replace kM:=kM.below b1
     replace kQ:=kQ.below b1
     have kt_c0:=kt.here.cell 0 _ rfl
     have kt_c1:=kt.here.cell 1 _ rfl
     go_wp2_with fail
     clear kt_c0 kt_c1
     refine (implexactSum_any _ _ t l q _ hl hx hll hlx (HTR.out _ bb1) (HL.out _ bb1) (HT.out.below bb1) (HS.out.below bb1)).mono ?_
     rintro e w2 ⟨u2,S2,rfl,o2,l2,b2⟩
     have hz2:w.heap.size+3 ≤ w2.heap.size:=by have:=b2.size;(try simp at this);omega
     have bb2:=Below.next bb1 b2
     replace kt:=kt.below b2
     replace kM:=kM.below b2
     replace kQ:=kQ.below b2
     obtain ⟨Y,hY⟩:∃ Y,sumQ t q l = Y:=⟨_,rfl⟩
     have hsY:szQ Y ≤ 1048576:=by have:=sumQ_sz t q l;rw [hY] at this;exact this
     rw [hY] at o2
     have HY:=Lib.hid hY
     clear hY
     obtain ⟨A2,c2,B2,d2,rfl⟩:=ownQ_form o2.here
     clear kt
     obtain ⟨R,hR⟩:∃ R,rmM q Y k = R:=⟨_,rfl⟩
     obtain ⟨Q,hQ⟩:∃ Q,rmQ q Y k = Q:=⟨_,rfl⟩
     obtain ⟨r,hr2⟩:∃ r,rmB q Y k = r:=⟨_,rfl⟩
     have ER:=Lib.hid hR
     have EQ:=Lib.hid hQ
     have EB:=Lib.hid hr2
     clear hR hQ hr2
     go_wp2_with fail
     refine ((implRatMoney_any q _ Y k _ hsY o2.here (HT.out.below bb2) (HS.out.below bb2)).mono fun _ _ h=>postMQb_is3 ER.out EQ.out EB.out h).mono ?_
     rintro e w3 ⟨u3,x3,S3,T3,rfl,o3,q3,ap3,l3,k3,b3⟩
     obtain ⟨A3,c3,rfl⟩:=ownM_form o3.here
     obtain ⟨A4,c4,B4,d4,rfl⟩:=ownQ_form q3.here
     have hz3:w.heap.size+3 ≤ w3.heap.size:=by have:=b3.size;(try simp at this);omega
     have bb3:=Below.next bb2 b3
     replace kM:=kM.below b3
     replace kQ:=kQ.below b3
     replace o2:=o2.below b3
     have hlowS:∀ i ∈ S3,w.heap.size+1+1 < i:=fun i hi=>by have:=(l3 i hi).1;omega
     have hlowT:∀ i ∈ T3,w.heap.size+1+1 < i:=fun i hi=>by have:=(k3 i hi).1;omega
     clear o2
     clear l3 k3
     have HAP:=Lib.hid ap3
     clear ap3
     have HLS:=Lib.hid hlowS
     have HLT:=Lib.hid hlowT
     clear hlowS hlowT
     go_upto_region 5 with fail
     have al4:Below w3.heap.size w3 ((w3.alloc (.cells #[.string R.1,.bool R.2.1,.slice A3 R.2.2.length c3] 34)).alloc (.cells #[.bool Q.1.1,.slice A4 Q.1.2.length c4,.slice B4 Q.2.length d4] 36)):=Below.next (below_al (Below.refl _ _) _) (below_al (Below.refl _ _) _)
     have km:=(box_new w3 #[.string R.1,.bool R.2.1,.slice A3 R.2.2.length c3] 34).below (below_al (Below.refl _ _) (.cells #[.bool Q.1.1,.slice A4 Q.1.2.length c4,.slice B4 Q.2.length d4] 36))
     have kx:=(box_new (w3.alloc (.cells #[.string R.1,.bool R.2.1,.slice A3 R.2.2.length c3] 34)) #[.bool Q.1.1,.slice A4 Q.1.2.length c4,.slice B4 Q.2.length d4] 36)
     rw [show (w3.alloc (.cells #[.string R.1,.bool R.2.1,.slice A3 R.2.2.length c3] 34)).heap.size = w3.heap.size+1 by simp] at kx
     have bb4:=Below.next bb3 al4
     replace kM:=kM.below al4
     replace kQ:=kQ.below al4
     replace o3:=o3.below al4
     replace q3:=q3.below al4
     obtain ⟨w4,hw4⟩:∃ W,W = ((w3.alloc (.cells #[.string R.1,.bool R.2.1,.slice A3 R.2.2.length c3] 34)).alloc (.cells #[.bool Q.1.1,.slice A4 Q.1.2.length c4,.slice B4 Q.2.length d4] 36)):=⟨_,rfl⟩
     rw [← hw4] at km kx kM kQ o3 q3 bb4 ⊢
     clear hw4 al4
     cases r with
     | false =>
       have HV:=Lib.hid (cv_large HF.out HN.out (by rw [HY.out];exact EB.out))
       have HW:=Lib.hid (newMQe_zero (n:=3) (T:=[w.heap.size+1,w.heap.size+1+1]) (errV_pos (by decide)) (fun i hi=>by simp at hi;omega) bb4)
       have ckM0:=kM.here.cell 0 _ rfl
       have fkM0:=Lib.frozen_of_heap kM.here 0
       have ckM1:=kM.here.cell 1 _ rfl
       have fkM1:=Lib.frozen_of_heap kM.here 1
       have ckM2:=kM.here.cell 2 _ rfl
       have fkM2:=Lib.frozen_of_heap kM.here 2
       have ckQ0:=kQ.here.cell 0 _ rfl
       have fkQ0:=Lib.frozen_of_heap kQ.here 0
       have ckQ1:=kQ.here.cell 1 _ rfl
       have fkQ1:=Lib.frozen_of_heap kQ.here 1
       have ckQ2:=kQ.here.cell 2 _ rfl
       have fkQ2:=Lib.frozen_of_heap kQ.here 2
       clear kM kQ km kx o3 q3
       go_wp2
       refine bodyPost_ret (v:=.tuple #[.agg #[.string ⟨#[]⟩,.bool false,.slice none 0 0],.agg #[.bool false,.slice none 0 0,.slice none 0 0],.iface 97 (.agg #[.int .i64 3])]) (by simp [results,Tryz.results50,go_sem,ckM0,ckM1,ckM2,ckQ0,ckQ1,ckQ2]) rfl ?_
       rw [HV.out.1,HV.out.2.1,HV.out.2.2]
       refine HW.out _ ?_
       repeat (first | with_reducible exact Chg.refl _ _ | with_reducible refine Chg.drew1 ?_ | with_reducible refine Chg.setCell ?_ (by simp) _)
     | true =>
       have HV:=Lib.hid (cv_good HF.out HN.out (by rw [HY.out];exact EB.out))
       have HW:=Lib.hid (newMQe_chg (R2:=0) (ev:=.nilIface) (T:=[w.heap.size+1,w.heap.size+1+1]) rfl o3 q3 HAP.out (fun i hi hm=>by have:=HLS.out i hi;simp at hm;omega) (fun i hi hm=>by have:=HLT.out i hi;simp at hm;omega) (fun i hi=>by simp at hi;omega) (fun i hi=>by have:=HLS.out i hi;omega) (fun i hi=>by have:=HLT.out i hi;omega) bb4)
       have ckM0:=kM.here.cell 0 _ rfl
       have fkM0:=Lib.frozen_of_heap kM.here 0
       have ckM1:=kM.here.cell 1 _ rfl
       have fkM1:=Lib.frozen_of_heap kM.here 1
       have ckM2:=kM.here.cell 2 _ rfl
       have fkM2:=Lib.frozen_of_heap kM.here 2
       have ckQ0:=kQ.here.cell 0 _ rfl
       have fkQ0:=Lib.frozen_of_heap kQ.here 0
       have ckQ1:=kQ.here.cell 1 _ rfl
       have fkQ1:=Lib.frozen_of_heap kQ.here 1
       have ckQ2:=kQ.here.cell 2 _ rfl
       have fkQ2:=Lib.frozen_of_heap kQ.here 2
       have ckm0:=km.here.cell 0 _ rfl
       have ckm1:=km.here.cell 1 _ rfl
       have ckm2:=km.here.cell 2 _ rfl
       have ckx0:=kx.here.cell 0 _ rfl
       have ckx1:=kx.here.cell 1 _ rfl
       have ckx2:=kx.here.cell 2 _ rfl
       have hn1:¬ w3.heap.size = w.heap.size+1:=by omega
       have hn2:¬ w.heap.size+1 = w3.heap.size:=by omega
       have hn3:¬ w3.heap.size = w.heap.size+1+1:=by omega
       have hn4:¬ w.heap.size+1+1 = w3.heap.size:=by omega
       have hn5:¬ w3.heap.size+1 = w.heap.size+1:=by omega
       have hn6:¬ w.heap.size+1 = w3.heap.size+1:=by omega
       have hn7:¬ w3.heap.size+1 = w.heap.size+1+1:=by omega
       have hn8:¬ w.heap.size+1+1 = w3.heap.size+1:=by omega
       clear kM kQ km kx o3 q3
       go_wp2_with fail
       go_region
       all_goals
        go_wp2
        refine bodyPost_ret (v:=.tuple #[.agg #[.string R.1,.bool R.2.1,.slice A3 R.2.2.length c3],.agg #[.bool Q.1.1,.slice A4 Q.1.2.length c4,.slice B4 Q.2.length d4],.nilIface]) (by simp [results,Tryz.results50,go_sem,ckM0,ckM1,ckM2,ckQ0,ckQ1,ckQ2]) rfl ?_
        rw [HV.out.1,HV.out.2.1,HV.out.2.2,HY.out,ER.out,EQ.out]
        refine HW.out _ ?_
        repeat (first | with_reducible exact Chg.refl _ _ | with_reducible refine Chg.drew1 ?_ | with_reducible refine Chg.setCell ?_ (by simp) _)
end Go.Proofs.YtipbdpdmefcofabGreatDoor
