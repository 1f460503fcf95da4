/-
  For all arguments the law FnExactFairShare of chapter 13 returns true: a weight's fair share of a number is the fraction that the model reckons, in memory of its own. No conditions beyond the card's own (the listed variable holds what the program's text lays).
-/
import Derived.Test.YtipbdpdmefcofaaDoorCore
import Derived.LaidEql
import Derived.Stop.Asserts
import Derived.RowKitTokens
import Derived.Test.YtipbdpdmefcofaaDoorFairS
import Derived.Test.YtipbdpdmefcofaaDoorLoc
import Derived.Test.YtipbdpdmefcofaaDoorSignedArg
import Derived.Deep.DeepCutAuto
import Derived.Deep.RegionHeld3
import Derived.Test.YtipbdpdmefcofaaDoorNatConv
import Derived.Test.YtipbdpdmefcofaaDoorSignSpec
import Derived.Lib.Builder
import Derived.Lib.SliceRun
import Derived.Test.YtipbdpdmefcofaaDoorNatPow
import Derived.Deep.LoopGhost
import Derived.Test.YtipbdpdmefcofaaDoorObj
import Derived.Test.YtipbdpdmefcofaaDoorSignAdd
import Derived.Deep.Cut
import Derived.Deep.CutBlock
import Derived.Shelf.Bits.Mul64
import Derived.Shelf.Small.Bits
import Derived.Test.YtipbdpdmefcofaaDoorProg
import Derived.Laws.Bits64b
import Derived.Lib.BitFns
import Derived.Test.YtipbdpdmefcofaaDoorDivSpec4
import Derived.Laws.Externs
import Derived.Test.YtipbdpdmefcofaaDoorSignCmp
import Derived.Test.YtipbdpdmefcofaaDoorRatImplPlain
import Derived.Test.YtipbdpdmefcofaaDoorFairWords
import Derived.Test.YtipbdpdmefcofaaDoorLaw
import Derived.Test.YtipbdpdmefcofaaDoorCards
import Derived.Test.YtipbdpdmefcofaaDoorTie
import Derived.Deep.DeepHandedRow
import Derived.Stop.LaidErr
set_option maxRecDepth 100000
namespace Go.Proofs.YtipbdpdmefcofaaDoor
open Go.RowKit Go.Extern.Stop Go.Stop Go.Extern
theorem isTypeOf (v:Value) (w:World):(Extern.ReflectliteType.typeOf #[.iface 105 v]).run Tryd.prog w = .ok (.iface 88 (.agg #[.pointer (some ⟨3,105,none⟩)])) w:=by kernel_rfl
theorem isComparable (w : World) : ((Extern.ReflectliteType.method fun t => do Extern.Rtype.noPackHeld "Comparable" t; (fun a => Value.bool a.comparable) <$> typeInfo t) #[.agg #[.pointer (some ⟨3, 105, none⟩)]]).run Tryd.prog w = .ok (.bool true) w := by kernel_rfl
theorem isMethodComparable (v : Value) (w : World) : (Go.method 243 88 v "Comparable").run Tryd.prog w = .ok (102, v) w := by kernel_rfl
theorem isComp:(Tryd.prog.info? 105).map (·.comparable) = some true:=by kernel_rfl
theorem isSize:(Tryd.prog.info? 131).map (·.size) = some 1:=by kernel_rfl
def Sen (w:World):Prop:=∃ a:Addr,w.cell? ⟨0,0,none⟩ = some (.iface 105 (.pointer (some a)))
theorem Sen.below {w w':World} (h:Sen w) (hb:Below w.heap.size w w'):Sen w':=by
 obtain ⟨a,ha⟩:=h
 exact ⟨a,(hb.cell (cell_lt ha)).trans ha⟩
set_option maxHeartbeats 1000000 in
theorem is_same (a:Addr) (w:World) :
 Calls Tryd.prog 57 #[.iface 105 (.pointer (some a)),.iface 105 (.pointer (some a))] w fun e w'=>e = .returned (.bool true)∧w = w':=by
 obtain ⟨i,hi,hcmp⟩:=Option.map_eq_some_iff.1 isComp
 obtain ⟨j,hj,hjs⟩:=Option.map_eq_some_iff.1 isSize
 have h8:=@run_callFunc_extern Tryd.prog 67 _ Extern.ReflectliteType.typeOf Tryd.func67 (by kernel_rfl) (by kernel_rfl) (by kernel_rfl) (by kernel_rfl)
 have h32 := @run_callFunc_extern Tryd.prog 102 _ (Extern.ReflectliteType.method fun t => do Extern.Rtype.noPackHeld "Comparable" t; pure (.bool (← typeInfo t).comparable)) Tryd.func102 (by kernel_rfl) (by kernel_rfl) (by kernel_rfl) (by kernel_rfl)
 have tT:=isTypeOf
 have cT:=isComparable
 have mR:=isMethodComparable
 have heq:=run_eql_iface_ptr_same (P:=Tryd.prog) w a Tryd.underlying72 Tryd.underlying105 hi hcmp hj
 go_enter Tryd.func57,Tryd.ntmps57
 go_wp2
 refine wp_loop_rounds 1 ?_
 rw [rounds_succ]
 go_wp2
 go_ret
 exact ⟨rfl,rfl⟩
set_option maxHeartbeats 400000 in
theorem is_nil (b:Addr) (w:World) :
 Calls Tryd.prog 57 #[.nilIface,.iface 105 (.pointer (some b))] w fun e w'=>e = .returned (.bool false)∧w = w':=by
 have hn:=run_eql_iface_nil_left (P:=Tryd.prog) w 105 (.pointer (some b)) Tryd.underlying72
 go_enter Tryd.func57,Tryd.ntmps57
 go_wp2
 go_ret
 exact ⟨rfl,rfl⟩
end Go.Proofs.YtipbdpdmefcofaaDoor
namespace Go.Proofs.YtipbdpdmefcofaaDoor
open Go.RowKit
set_option maxHeartbeats 4000000 in
theorem lawFairShare_walk (vx vws:Value) (x:SI) (ws:List Int) (i:Int) (R0:QI) (R1:Bool) (w:World)
 (hS:∀ (ux uws:Value) (W:World),OwnS ux x W→OwnI uws ws W→Calls Tryd.prog 5 #[ux,uws,.int .i64 i] W (PostQb R0 R1 W))
 (hI:∀ (ux uws:Value) (W:World),OwnS ux x W→OwnI uws ws W→Sen W→Calls Tryd.prog 8 #[ux,uws,.int .i64 i] W (PostQb R0 R1 W))
 (ht0:Sen w) (hl:szS x ≤ 1048576) (hlws:ws.length ≤ 1048576) (hlR0:szQ R0 ≤ 1048576) (rx:RdS w vx x) (rws:Row w 0 w.heap.size vws (intsV ws)) :
 Calls Tryd.prog 3 #[vx,vws,.int .i64 i] w fun e w'=>e = .returned (.bool true)∧Below w.heap.size w w':=by
 have HS:=Lib.hid hS
 have HI:=Lib.hid hI
 clear hS hI
 have HT0:=Lib.hid ht0
 clear ht0
 have hsx:=szS_nonneg x
 have hsR0:=szQ_nonneg R0
 have hzx:szS x ≤ 1048576:=by omega
 obtain ⟨Ax,cx,rfl⟩:=rdS_form rx
 have hwlws:¬ (1048576:Int) < (ws.length:Int):=by omega
 obtain ⟨Aws,cws,rfl⟩:=row_form rws
 rw [intsV_length] at rws ⊢
 have RFws:Hid (∀ W,Below w.heap.size w W→Row W 0 w.heap.size (.slice Aws ws.length cws) (intsV ws)):=Lib.hid fun W hb=>rws.below hb (Nat.le_refl _)
 have bb0:Below w.heap.size w (w.alloc (.cells #[.bool x.1,.slice Ax x.2.length cx] 24)):=below_al (Below.refl _ _) _
 have kx:=box_new w #[.bool x.1,.slice Ax x.2.length cx] 24
 have RFx:Hid (∀ W,Below w.heap.size w W→RdS W (.agg #[.bool x.1,.slice Ax x.2.length cx]) x):=Lib.hid fun W hb=>rx.below hb
 go_enter Tryd.func3,Tryd.ntmps3
 have kx_c0:=kx.here.cell 0 _ rfl
 have kx_c1:=kx.here.cell 1 _ rfl
 go_wp2_with fail
 clear kx_c0 kx_c1
 refine (szS_cal _ x (1048576) _ (capS_of hzx) (by omega) (by omega) (RFx.out _ bb0)).mono ?_
 rintro e w1 ⟨rfl,b1⟩
 rw [leftI_of (by omega)]
 have bb1:=Below.next bb0 b1
 replace kx:=kx.below b1
 have hn:decide (((1048576:Int) - szS x:Int) < 0) = false:=decide_eq_false (by omega)
 have HKx:=Lib.hid (kx.lt (w.heap.size) (by simp))
 have kx_c0:=kx.here.cell 0 _ rfl
 have kx_c1:=kx.here.cell 1 _ rfl
 go_upto_region 7 with fail
 go_cut [8,9] (fun s t1 wx=>NewLocV 28 (fun v=>OwnQ v R0) w1 s wx∧t1 = .bool R1)
 case first =>
  go_wp2_with fail
  refine (toS_new _ x _ hzx (RFx.out _ bb1)).mono ?_
  rintro e wt0 ⟨ut0,St0,rfl,ot0,lt0,bt0⟩
  obtain ⟨At0,ct0,rfl⟩:=ownS_form ot0.here
  have bbt0:=Below.next bb1 bt0
  go_wp2_with fail
  refine (toIntS_at _ ws 0 w.heap.size _ (by have:=(bbt0).size;omega) (by omega) (RFws.out _ bbt0)).mono ?_
  rintro e wt1 ⟨ut1,St1,rfl,ot1,lt1,bt1⟩
  obtain ⟨At1,ct1,rfl⟩:=own_len ot1.here
  replace ot0:=ot0.below bt1
  have bbt1:=Below.next bbt0 bt1
  have bct1:=Below.next bt0 bt1
  go_wp2_with fail
  refine (HS.out _ _ _ ot0.here ot1.here).mono ?_
  rintro e wf ⟨uf,Sf,rfl,of,lf,bf⟩
  obtain ⟨Af,cf,Bf,df,rfl⟩:=ownQ_form of.here
  have bwf:=Below.next bct1 bf
  go_wp2_with fail
  go_meet
  exact ⟨newLocV_last of lf bct1.size bwf,rfl⟩
 rename World=>w2
 clear kx_c0 kx_c1
 obtain ⟨⟨gw0,csw0,Sw0,rfl,kw0,ow0,nw0,lw0,b2⟩,rfl⟩:=hcut
 obtain ⟨Aw0,cw0,Bw0,dw0,ew0⟩:=ownQ_form ow0.here
 injection ew0 with ew0
 subst ew0
 have bb2:=Below.next bb1 b2
 replace kx:=kx.below b2
 have kx_c0:=kx.here.cell 0 _ rfl
 have kx_c1:=kx.here.cell 1 _ rfl
 go_upto_region 8 with fail
 go_cut [10] (fun s wx=>NewLocV 26 (fun v=>OwnS v x) w2 s wx)
 case first =>
  go_wp2_with fail
  refine (toS_new _ x _ hzx (RFx.out _ bb2)).mono ?_
  rintro e wt ⟨ut,St,rfl,ot,lt,bt⟩
  obtain ⟨At,ct,rfl⟩:=ownS_form ot.here
  go_wp2_with fail
  go_meet
  exact newLocV_last ot lt (Nat.le_refl _) bt
 rename World=>w3
 clear kx_c0 kx_c1
 obtain ⟨gxx,csxx,Sxx,rfl,kxx,oxx,nxx,lxx,b3⟩:=hcut
 obtain ⟨Axx,cxx,exx⟩:=ownS_form oxx.here
 injection exx with exx
 subst exx
 have bb3:=Below.next bb2 b3
 replace kx:=kx.below b3
 replace kw0:=kw0.below b3
 replace ow0:=ow0.below b3
 go_wp2_with fail
 refine (toIntS_at _ ws 0 w.heap.size _ (by have:=(bb3).size;omega) (by omega) (RFws.out _ bb3)).mono ?_
 rintro e w4 ⟨uxws,Sxws,rfl,oxws,lxws,b4⟩
 obtain ⟨Axws,cxws,rfl⟩:=own_len oxws.here
 have bb4:=Below.next bb3 b4
 replace kx:=kx.below b4
 replace kw0:=kw0.below b4
 replace ow0:=ow0.below b4
 replace kxx:=kxx.below b4
 replace oxx:=oxx.below b4
 have kxx_c0:=kxx.here.cell 0 _ rfl
 have kxx_c1:=kxx.here.cell 1 _ rfl
 go_upto_region 10 with fail
 go_cut [12,13] (fun s t1 wx=>NewLocV 28 (fun v=>OwnQ v R0) w4 s wx∧t1 = .bool R1)
 case first =>
  go_wp2_with fail
  refine (HI.out _ _ _ oxx.here oxws.here (HT0.out.below bb4)).mono ?_
  rintro e wf ⟨uf,Sf,rfl,of,lf,bf⟩
  obtain ⟨Af,cf,Bf,df,rfl⟩:=ownQ_form of.here
  go_wp2_with fail
  go_meet
  exact ⟨newLocV_last of lf (Nat.le_refl _) bf,rfl⟩
 rename World=>w5
 clear kxx_c0 kxx_c1
 obtain ⟨⟨gg0,csg0,Sg0,rfl,kg0,og0,ng0,lg0,b5⟩,rfl⟩:=hcut
 obtain ⟨Ag0,cg0,Bg0,dg0,eg0⟩:=ownQ_form og0.here
 injection eg0 with eg0
 subst eg0
 have bb5:=Below.next bb4 b5
 replace kx:=kx.below b5
 replace kw0:=kw0.below b5
 replace ow0:=ow0.below b5
 replace kxx:=kxx.below b5
 replace oxx:=oxx.below b5
 replace oxws:=oxws.below b5
 have kg0_c0:=kg0.here.cell 0 _ rfl
 have kg0_c1:=kg0.here.cell 1 _ rfl
 have kg0_c2:=kg0.here.cell 2 _ rfl
 have kw0_c0:=kw0.here.cell 0 _ rfl
 have kw0_c1:=kw0.here.cell 1 _ rfl
 have kw0_c2:=kw0.here.cell 2 _ rfl
 go_wp2_with fail
 clear kg0_c0 kg0_c1 kg0_c2 kw0_c0 kw0_c1 kw0_c2
 refine (eqQ_cal _ _ R0 R0 _ (capQ_of (by omega)) (OwnQ.rd og0.here) (OwnQ.rd ow0.here)).mono ?_
 rintro e w6 ⟨rfl,b6⟩
 rw [decide_refl]
 have bb6:=Below.next bb5 b6
 replace kx:=kx.below b6
 replace kw0:=kw0.below b6
 replace ow0:=ow0.below b6
 replace kxx:=kxx.below b6
 replace oxx:=oxx.below b6
 replace oxws:=oxws.below b6
 replace kg0:=kg0.below b6
 replace og0:=og0.below b6
 have kx_c0:=kx.here.cell 0 _ rfl
 have kx_c1:=kx.here.cell 1 _ rfl
 have kxx_c0:=kxx.here.cell 0 _ rfl
 have kxx_c1:=kxx.here.cell 1 _ rfl
 go_wp2_with fail
 have HB0:=Lib.hid (show Below w6.heap.size w6 w6.drew from (Below.refl _ _).drew)
 have KL:=Lib.hid (show ∀ W,Below w6.heap.size w6 W→W.cell? ⟨w.heap.size,0,none⟩ = some (.bool x.1)∧W.cell? ⟨w.heap.size,1,none⟩ = some (.slice Ax x.2.length cx)∧W.cell? ⟨gxx,0,none⟩ = some (.bool x.1)∧W.cell? ⟨gxx,1,none⟩ = some (.slice Axx x.2.length cxx)∧Hid (Below w6.heap.size w6 W) from
  fun W hb=>⟨(kx.below hb).here.cell 0 _ rfl,(kx.below hb).here.cell 1 _ rfl,(kxx.below hb).here.cell 0 _ rfl,(kxx.below hb).here.cell 1 _ rfl,Lib.hid hb⟩)
 have BBF:=Lib.hid (show ∀ W,Below w6.heap.size w6 W→Below w.heap.size w W from fun W hb=>Below.next bb6 hb)
 have OXF:=Lib.hid (show ∀ W,Below w6.heap.size w6 W→OwnS (.agg #[.bool x.1,.slice Axx x.2.length cxx]) x W from fun W hb=>(oxx.below hb).here)
 clear kx_c0 kx_c1 kxx_c0 kxx_c1
 go_region_held3 (fun W=>W.cell? ⟨w.heap.size,0,none⟩ = some (.bool x.1)∧W.cell? ⟨w.heap.size,1,none⟩ = some (.slice Ax x.2.length cx)∧W.cell? ⟨gxx,0,none⟩ = some (.bool x.1)∧W.cell? ⟨gxx,1,none⟩ = some (.slice Axx x.2.length cxx)∧Hid (Below w6.heap.size w6 W))
  ((refine KL.out _ ?_;(first | exact HBe.out | exact HBt.out | exact HB0.out | fail)))
  (first
    | (go_at_call 6;(have hBB:=(‹_∧_∧_∧_∧Hid (Below w6.heap.size w6 _)›).2.2.2.2);(with_reducible refine (toS_new _ x _ hzx (RFx.out _ (BBF.out _ hBB.out))).mono ?_);rintro e wt ⟨t,St,rfl,ot,lt,bt⟩;have HBt:=Lib.hid (Below.next hBB.out bt);clear hBB)
    | (go_at_call 10;(have hBB:=(‹_∧_∧_∧_∧Hid (Below w6.heap.size w6 _)›).2.2.2.2);(with_reducible refine (eqS_cal _ _ x x _ (capS_of hzx) (OwnS.rd (OXF.out _ hBB.out)) (OwnS.rd ot.here)).mono ?_);rintro e w7 ⟨rfl,be⟩;rw [decide_refl];have HBe:=Lib.hid (Below.next hBB.out be);clear hBB))
 have b7:=HBe.out
 have bb7:=Below.next bb6 b7
 replace kx:=kx.below b7
 replace kw0:=kw0.below b7
 replace ow0:=ow0.below b7
 replace kxx:=kxx.below b7
 replace oxx:=oxx.below b7
 replace oxws:=oxws.below b7
 replace kg0:=kg0.below b7
 replace og0:=og0.below b7
 clear HB0 KL BBF OXF HBt HBe ot lt
 go_wp2_with fail
 refine (toIntS_at _ ws 0 w.heap.size _ (by have:=(bb7).size;omega) (by omega) (RFws.out _ bb7)).mono ?_
 rintro e wt ⟨ut,St,rfl,ot,lt,bt⟩
 obtain ⟨At,ct,rfl⟩:=own_len ot.here
 go_wp2_with fail
 refine (eqIntS_at _ _ ws ws _ (by omega) (oxws.below bt).here ot.here).mono ?_
 rintro e w8 ⟨rfl,be⟩
 rw [decide_refl]
 have b8:=Below.next bt be
 have bb8:=Below.next bb7 b8
 replace kx:=kx.below b8
 replace kw0:=kw0.below b8
 replace ow0:=ow0.below b8
 replace kxx:=kxx.below b8
 replace oxx:=oxx.below b8
 replace oxws:=oxws.below b8
 replace kg0:=kg0.below b8
 replace og0:=og0.below b8
 clear ot lt be bt
 have z1:=b1.size
 have z2:=b2.size
 have z3:=b3.size
 have z4:=b4.size
 have z5:=b5.size
 have z6:=b6.size
 have z7:=b7.size
 have z8:=b8.size
 have AP_xx_xws:=Lib.hid (Within.apart lxx lxws (.inl (by omega)))
 have AP_xx_g0:=Lib.hid (Within.apart lxx lg0 (.inl (by omega)))
 have AP_xws_g0:=Lib.hid (Within.apart lxws lg0 (.inl (by omega)))
 have AP_w0_xx:=Lib.hid (Within.apart lw0 lxx (.inl (by omega)))
 have AP_w0_xws:=Lib.hid (Within.apart lw0 lxws (.inl (by omega)))
 have AP_w0_g0:=Lib.hid (Within.apart lw0 lg0 (.inl (by omega)))
 have F_xx:=Lib.hid (Within.from (B:=w.heap.size) lxx (by have:=bb1.size;omega))
 have N_xx:=Lib.hid nxx
 have KX_x_xx:=Lib.hid (show ∀ i ∈ [w.heap.size],i ∉ gxx :: Sxx from fun i hi hm=>by have h1:=(lxx i hm).1;have h2:=HKx.out;simp at hi;omega)
 have F_xws:=Lib.hid (Within.from (B:=w.heap.size) lxws (by have:=bb1.size;omega))
 have KX_x_xws:=Lib.hid (show ∀ i ∈ [w.heap.size],i ∉ Sxws from fun i hi hm=>by have h1:=(lxws i hm).1;have h2:=HKx.out;simp at hi;omega)
 have F_g0:=Lib.hid (Within.from (B:=w.heap.size) lg0 (by have:=bb1.size;omega))
 have N_g0:=Lib.hid ng0
 have KX_x_g0:=Lib.hid (show ∀ i ∈ [w.heap.size],i ∉ gg0 :: Sg0 from fun i hi hm=>by have h1:=(lg0 i hm).1;have h2:=HKx.out;simp at hi;omega)
 clear z1 z2 z3 z4 z5 z6 z7 z8
 have kxx_c0:=kxx.here.cell 0 _ rfl
 have kxx_c1:=kxx.here.cell 1 _ rfl
 go_wp2_with fail
 clear kxx_c0 kxx_c1
 refine (markS_cal _ x _ (1) _ (by omega) (by omega) oxx).mono ?_
 rintro e w9 ⟨rfl,mkxx,c9⟩
 clear oxx
 have bb9:=below_chg bb8 c9 bb8.size (fun i hi=>F_xx.out i (List.mem_cons_of_mem _ hi))
 replace kx:=kx.chg c9 (fun i hi hm=>KX_x_xx.out i hi (List.mem_cons_of_mem _ hm))
 replace kw0:=kw0.chg c9 (fun i hi hm=>AP_w0_xx.out i (by simp at hi;subst hi;exact List.mem_cons_self ..) (List.mem_cons_of_mem _ hm))
 replace ow0:=ow0.chg c9 (fun i hi hm=>AP_w0_xx.out i (List.mem_cons_of_mem _ hi) (List.mem_cons_of_mem _ hm))
 replace kxx:=kxx.chg c9 (fun i hi hm=>by simp at hi;subst hi;exact N_xx.out hm)
 replace oxws:=oxws.chg c9 (fun i hi hm=>(apart_symm AP_xx_xws.out) i hi (List.mem_cons_of_mem _ hm))
 replace kg0:=kg0.chg c9 (fun i hi hm=>(apart_symm AP_xx_g0.out) i (by simp at hi;subst hi;exact List.mem_cons_self ..) (List.mem_cons_of_mem _ hm))
 replace og0:=og0.chg c9 (fun i hi hm=>(apart_symm AP_xx_g0.out) i (List.mem_cons_of_mem _ hi) (List.mem_cons_of_mem _ hm))
 have hsiws:szI ws = ws.length:=rfl
 go_wp2_with fail
 refine (markIntS_at _ ws _ (1+szS x) _ (by omega) (by omega) oxws).mono ?_
 rintro e w10 ⟨rfl,mkxws,c10⟩
 clear oxws
 have bb10:=below_chg bb9 c10 bb9.size (fun i hi=>F_xws.out i hi)
 replace kx:=kx.chg c10 (fun i hi hm=>KX_x_xws.out i hi hm)
 replace kw0:=kw0.chg c10 (fun i hi hm=>AP_w0_xws.out i (by simp at hi;subst hi;exact List.mem_cons_self ..) hm)
 replace ow0:=ow0.chg c10 (fun i hi hm=>AP_w0_xws.out i (List.mem_cons_of_mem _ hi) hm)
 replace kxx:=kxx.chg c10 (fun i hi hm=>AP_xx_xws.out i (by simp at hi;subst hi;exact List.mem_cons_self ..) hm)
 replace kg0:=kg0.chg c10 (fun i hi hm=>(apart_symm AP_xws_g0.out) i (by simp at hi;subst hi;exact List.mem_cons_self ..) hm)
 replace og0:=og0.chg c10 (fun i hi hm=>(apart_symm AP_xws_g0.out) i (List.mem_cons_of_mem _ hi) hm)
 replace mkxx:=mkxx.chg c10 (fun i hi hm=>AP_xx_xws.out i (List.mem_cons_of_mem _ hi) hm)
 have hk:decide (((1+szS x+szI ws):Int) < 0) = false:=decide_eq_false (by omega)
 have kg0_c0:=kg0.here.cell 0 _ rfl
 have kg0_c1:=kg0.here.cell 1 _ rfl
 have kg0_c2:=kg0.here.cell 2 _ rfl
 have kw0_c0:=kw0.here.cell 0 _ rfl
 have kw0_c1:=kw0.here.cell 1 _ rfl
 have kw0_c2:=kw0.here.cell 2 _ rfl
 go_wp2_with fail
 clear kg0_c0 kg0_c1 kg0_c2 kw0_c0 kw0_c1 kw0_c2
 refine (eqQ_cal _ _ R0 R0 _ (capQ_of (by omega)) (OwnQ.rd og0.here) (OwnQ.rd ow0.here)).mono ?_
 rintro e w11 ⟨rfl,b11⟩
 rw [decide_refl]
 have bb11:=Below.next bb10 b11
 replace kx:=kx.below b11
 replace kw0:=kw0.below b11
 replace ow0:=ow0.below b11
 replace kxx:=kxx.below b11
 replace kg0:=kg0.below b11
 replace og0:=og0.below b11
 replace mkxx:=mkxx.below b11
 replace mkxws:=mkxws.below b11
 clear hk
 have kg0_c0:=kg0.here.cell 0 _ rfl
 have kg0_c1:=kg0.here.cell 1 _ rfl
 have kg0_c2:=kg0.here.cell 2 _ rfl
 go_wp2_with fail
 clear kg0_c0 kg0_c1 kg0_c2
 refine (markQ_cal _ R0 _ (1) _ (by omega) (by omega) og0).mono ?_
 rintro e w12 ⟨rfl,mkg0,c12⟩
 clear og0
 have bb12:=below_chg bb11 c12 bb11.size (fun i hi=>F_g0.out i (List.mem_cons_of_mem _ hi))
 replace kx:=kx.chg c12 (fun i hi hm=>KX_x_g0.out i hi (List.mem_cons_of_mem _ hm))
 replace kw0:=kw0.chg c12 (fun i hi hm=>AP_w0_g0.out i (by simp at hi;subst hi;exact List.mem_cons_self ..) (List.mem_cons_of_mem _ hm))
 replace ow0:=ow0.chg c12 (fun i hi hm=>AP_w0_g0.out i (List.mem_cons_of_mem _ hi) (List.mem_cons_of_mem _ hm))
 replace kxx:=kxx.chg c12 (fun i hi hm=>AP_xx_g0.out i (by simp at hi;subst hi;exact List.mem_cons_self ..) (List.mem_cons_of_mem _ hm))
 replace kg0:=kg0.chg c12 (fun i hi hm=>by simp at hi;subst hi;exact N_g0.out hm)
 replace mkxx:=mkxx.chg c12 (fun i hi hm=>AP_xx_g0.out i (List.mem_cons_of_mem _ hi) (List.mem_cons_of_mem _ hm))
 replace mkxws:=mkxws.chg c12 (fun i hi hm=>AP_xws_g0.out i hi (List.mem_cons_of_mem _ hm))
 have kg0_c0:=kg0.here.cell 0 _ rfl
 have kg0_c1:=kg0.here.cell 1 _ rfl
 have kg0_c2:=kg0.here.cell 2 _ rfl
 go_wp2_with fail
 clear kg0_c0 kg0_c1 kg0_c2
 refine (heldQ_cal _ R0 (1) _ (by omega) (by omega) mkg0.here).mono ?_
 rintro e w13 ⟨rfl,b13⟩
 have bb13:=Below.next bb12 b13
 replace kx:=kx.below b13
 replace kw0:=kw0.below b13
 replace ow0:=ow0.below b13
 replace kxx:=kxx.below b13
 replace kg0:=kg0.below b13
 replace mkxx:=mkxx.below b13
 replace mkxws:=mkxws.below b13
 replace mkg0:=mkg0.below b13
 have hq13:decide ((1:Int)+szQ R0 < 0) = false:=decide_eq_false (by omega)
 have kx_c0:=kx.here.cell 0 _ rfl
 have kx_c1:=kx.here.cell 1 _ rfl
 go_upto_region 30 with fail
 go_cut [17,18] (fun s t1 wx=>NewLocV 28 (fun v=>OwnQ v R0) w13 s wx∧t1 = .bool R1)
 case first =>
  go_wp2_with fail
  refine (toS_new _ x _ hzx (RFx.out _ bb13)).mono ?_
  rintro e wt0 ⟨ut0,St0,rfl,ot0,lt0,bt0⟩
  obtain ⟨At0,ct0,rfl⟩:=ownS_form ot0.here
  have bbt0:=Below.next bb13 bt0
  go_wp2_with fail
  refine (toIntS_at _ ws 0 w.heap.size _ (by have:=(bbt0).size;omega) (by omega) (RFws.out _ bbt0)).mono ?_
  rintro e wt1 ⟨ut1,St1,rfl,ot1,lt1,bt1⟩
  obtain ⟨At1,ct1,rfl⟩:=own_len ot1.here
  replace ot0:=ot0.below bt1
  have bbt1:=Below.next bbt0 bt1
  have bct1:=Below.next bt0 bt1
  go_wp2_with fail
  refine (HI.out _ _ _ ot0.here ot1.here (HT0.out.below bbt1)).mono ?_
  rintro e wf ⟨uf,Sf,rfl,of,lf,bf⟩
  obtain ⟨Af,cf,Bf,df,rfl⟩:=ownQ_form of.here
  have bwf:=Below.next bct1 bf
  go_wp2_with fail
  go_meet
  exact ⟨newLocV_last of lf bct1.size bwf,rfl⟩
 rename World=>w14
 clear kx_c0 kx_c1
 obtain ⟨⟨gh0,csh0,Sh0,rfl,kh0,oh0,nh0,lh0,b14⟩,rfl⟩:=hcut
 obtain ⟨Ah0,ch0,Bh0,dh0,eh0⟩:=ownQ_form oh0.here
 injection eh0 with eh0
 subst eh0
 have bb14:=Below.next bb13 b14
 replace kx:=kx.below b14
 replace kw0:=kw0.below b14
 replace ow0:=ow0.below b14
 replace kxx:=kxx.below b14
 replace kg0:=kg0.below b14
 replace mkxx:=mkxx.below b14
 replace mkxws:=mkxws.below b14
 replace mkg0:=mkg0.below b14
 have kh0_c0:=kh0.here.cell 0 _ rfl
 have kh0_c1:=kh0.here.cell 1 _ rfl
 have kh0_c2:=kh0.here.cell 2 _ rfl
 have kw0_c0:=kw0.here.cell 0 _ rfl
 have kw0_c1:=kw0.here.cell 1 _ rfl
 have kw0_c2:=kw0.here.cell 2 _ rfl
 go_wp2_with fail
 clear kh0_c0 kh0_c1 kh0_c2 kw0_c0 kw0_c1 kw0_c2
 refine (eqQ_cal _ _ R0 R0 _ (capQ_of (by omega)) (OwnQ.rd oh0.here) (OwnQ.rd ow0.here)).mono ?_
 rintro e w15 ⟨rfl,b15⟩
 rw [decide_refl]
 have bb15:=Below.next bb14 b15
 replace kx:=kx.below b15
 replace kw0:=kw0.below b15
 replace ow0:=ow0.below b15
 replace kxx:=kxx.below b15
 replace kg0:=kg0.below b15
 replace mkxx:=mkxx.below b15
 replace mkxws:=mkxws.below b15
 replace mkg0:=mkg0.below b15
 replace kh0:=kh0.below b15
 replace oh0:=oh0.below b15
 have kg0_c0:=kg0.here.cell 0 _ rfl
 have kg0_c1:=kg0.here.cell 1 _ rfl
 have kg0_c2:=kg0.here.cell 2 _ rfl
 go_wp2_with fail
 clear kg0_c0 kg0_c1 kg0_c2
 refine (heldQ_cal _ R0 (1) _ (by omega) (by omega) mkg0.here).mono ?_
 rintro e w16 ⟨rfl,b16⟩
 have bb16:=Below.next bb15 b16
 replace kx:=kx.below b16
 replace kw0:=kw0.below b16
 replace ow0:=ow0.below b16
 replace kxx:=kxx.below b16
 replace kg0:=kg0.below b16
 replace mkxx:=mkxx.below b16
 replace mkxws:=mkxws.below b16
 replace mkg0:=mkg0.below b16
 replace kh0:=kh0.below b16
 replace oh0:=oh0.below b16
 have hq16:decide ((1:Int)+szQ R0 < 0) = false:=decide_eq_false (by omega)
 go_wp2
 go_ret
 exact ⟨rfl,bb16⟩
set_option maxHeartbeats 1000000 in
theorem lawFairShare (vx vws:Value) (x:SI) (ws:List Int) (i:Int) (w:World)
 (hI:szS x ≤ 1048576→ws.length ≤ 1048576→∀ (ux uws:Value) (W:World),OwnS ux x W→OwnI uws ws W→Sen W→Calls Tryd.prog 8 #[ux,uws,.int .i64 i] W (PostQb ((fairR x ws i).1) ((fairR x ws i).2) W))
 (_h0i:-9223372036854775808 ≤ i) (_h1i:i ≤ 9223372036854775807) (hcx:capS x) (hcl:(ws.length:Int) ≤ 9223372036854775807) (ht0:Sen w) (rx:RdS w vx x) (rws:Row w 0 w.heap.size vws (intsV ws)) :
 Calls Tryd.prog 3 #[vx,vws,.int .i64 i] w fun e w'=>e = .returned (.bool true)∧Below w.heap.size w w':=by
 have hsx:=szS_nonneg x
 by_cases hlws:ws.length ≤ 1048576
 case neg =>
  have hwl:¬ (ws.length:Int) ≤ 1048576:=by omega
  have hwl2:(1048576:Int) < ws.length:=by omega
  obtain ⟨Ax,cx,rfl⟩:=rdS_form rx
  obtain ⟨Aws,cws,rfl⟩:=row_form rws
  rw [intsV_length] at rws ⊢
  have bb0:Below w.heap.size w (w.alloc (.cells #[.bool x.1,.slice Ax x.2.length cx] 24)):=below_al (Below.refl _ _) _
  have kx:=box_new w #[.bool x.1,.slice Ax x.2.length cx] 24
  go_enter Tryd.func3,Tryd.ntmps3
  go_wp2
  go_ret
  exact ⟨rfl,bb0⟩
 case pos =>
  have hwlws:¬ (1048576:Int) < (ws.length:Int):=by omega
  by_cases hl:szS x ≤ 1048576
  case neg =>
   have RF:=rx
   obtain ⟨Ax,cx,rfl⟩:=rdS_form rx
   obtain ⟨Aws,cws,rfl⟩:=row_form rws
   rw [intsV_length] at rws ⊢
   have bb0:Below w.heap.size w (w.alloc (.cells #[.bool x.1,.slice Ax x.2.length cx] 24)):=below_al (Below.refl _ _) _
   have kx:=box_new w #[.bool x.1,.slice Ax x.2.length cx] 24
   go_enter Tryd.func3,Tryd.ntmps3
   have kx_c0:=kx.here.cell 0 _ rfl
   have kx_c1:=kx.here.cell 1 _ rfl
   go_wp2_with fail
   clear kx_c0 kx_c1
   refine (szS_cal _ x (1048576) _ hcx (by omega) (by omega) (rx.below bb0)).mono ?_
   rintro e w1 ⟨rfl,b1⟩
   have bb1:=Below.next bb0 b1
   rw [show leftI (1048576) (szS x) = -1 by unfold leftI;rw [if_pos (by omega)]]
   go_wp2
   go_ret
   exact ⟨rfl,bb1⟩
  case pos =>
   exact lawFairShare_walk vx vws x ws i ((fairR x ws i).1) ((fairR x ws i).2) w (fun ux uws W hx hws=>specFairShare_any ux uws x ws i 0 W.heap.size W (by unfold szS szI at hl;omega) hlws (Nat.le_refl _) hx (OwnI.row hws)) (hI hl hlws) ht0 hl hlws (fairR_sz x ws i) rx rws
theorem digB_true {d:Int} (h:digB d = true):0 ≤ d∧d ≤ 999999999:=of_decide_eq_true h
theorem digB_false {d:Int} (h:digB d = false):¬ (0 ≤ d∧d ≤ 999999999):=of_decide_eq_false h
set_option maxHeartbeats 400000 in
theorem implNatOk_same (v:Value) (xs:List Int) (lo hi:Nat) (w:World) (hl:xs.length ≤ 9223372036854775807) (hr:Row w lo hi v (intsV xs)) :
 Calls Tryd.prog 39 #[v] w fun e w'=>e = .returned (.bool (natOkB xs))∧w = w':=by
 obtain ⟨A,c,rfl,hA⟩:=hr
 have HA:=Lib.hid hA
 rw [intsV_length]
 clear hA
 by_cases h50:xs.length ≤ 50
 ·go_enter Tryd.func39,Tryd.ntmps39
  go_wp2
  go_loop [10] (fun i=>∃ k:Nat,k ≤ xs.length∧i = .int .i64 k∧Hid ((xs.take k).all digB = true)) (fun i=>xs.length - (intOf i).toNat)
  case atStart=>exact ⟨0,Nat.zero_le _,rfl,Lib.hid rfl⟩
  case round =>
   obtain ⟨k,hk,rfl,HD⟩:=hrel
   by_cases hlt:k < xs.length
   ·obtain ⟨a,rfl,_,_,hca⟩:=HA.out k _ (intsV_at xs k hlt)
    by_cases hd:digB xs[k] = true
    ·have HS:=Lib.hid (all_succ xs k hlt HD.out hd)
     have hd2:=digB_true hd
     have hd3:=hd2.1
     have hd4:=hd2.2
     clear hd2 hd
     go_wp2
     go_round
     case rel=>exact ⟨k+1,by omega,by go_num,HS⟩
     case measure=>simp [intOf];omega
    ·have hd':digB xs[k] = false:=by simpa using hd
     have HN:=Lib.hid (not_all xs k hlt hd')
     have hd2:=digB_false hd'
     by_cases hneg:xs[k] < 0
     ·go_wp2
      go_ret
      exact ⟨ret_bool HN.out.symm,rfl⟩
     ·have hbig:1000000000 ≤ xs[k]:=by omega
      go_wp2
      go_ret
      exact ⟨ret_bool HN.out.symm,rfl⟩
   ·have HF:=Lib.hid (all_upto xs k HD.out hlt)
    by_cases h0:xs.length = 0
    ·have hz:((xs.length:Int) == 0) = true:=by simp [h0]
     obtain rfl:xs = []:=List.eq_nil_of_length_eq_zero h0
     clear h0
     go_wp2
     go_ret
     exact ⟨rfl,rfl⟩
    ·have hz:((xs.length:Int) == 0) = false:=by rw [beq_eq_false_iff_ne];omega
     have hlt2:xs.length - 1 < xs.length:=by omega
     obtain ⟨a,rfl,_,_,hca⟩:=HA.out (xs.length - 1) _ (intsV_at xs (xs.length - 1) hlt2)
     have HL:=Lib.hid (ok_last xs HF.out h50 hlt2)
     clear h0
     go_wp2
     go_ret
     exact ⟨ret_bool HL.out,rfl⟩
 ·have HN:=Lib.hid (ok_long xs h50)
  go_enter Tryd.func39,Tryd.ntmps39
  go_wp2
  go_ret
  exact ⟨ret_bool HN.out.symm,rfl⟩
theorem implNatOk_any (v:Value) (xs:List Int) (lo hi:Nat) (w:World) (hl:xs.length ≤ 1048576) (_:hi ≤ w.heap.size) (hr:Row w lo hi v (intsV xs)) :
 Calls Tryd.prog 39 #[v] w fun e w'=>e = .returned (.bool (natOkB xs))∧Below w.heap.size w w':=by
 refine (implNatOk_same v xs lo hi w (by omega) hr).mono ?_
 rintro e w' ⟨rfl,rfl⟩
 exact ⟨rfl,Below.refl _ _⟩
set_option maxHeartbeats 400000 in
theorem implNatOf_any (n:Int) (w:World) (h1:n ≤ 9223372036854775807) :
 Calls Tryd.prog 40 #[.int .i64 n] w (NewInts (limbs n.toNat) w):=by
 obtain ⟨i0,hi,hz0,hz1,hz2⟩:=info_parts intInfo
 go_enter Tryd.func40,Tryd.ntmps40
 go_wp2
 go_loopw [0,3] (fun a v wr=>∃ (m:Int) (out:List Int) (f:Nat),m ≤ 9223372036854775807∧out.length+f ≤ 3∧m < 1000000000 ^ f∧a = .int .i64 m∧Hid (out ++ limbs m.toNat = limbs n.toNat)∧wr.ownsRow w.heap.size 3 1 v out.length (intsV out)∧Below w.heap.size w wr) (fun a _ _=>(intOf a).toNat)
 case atStart=>exact ⟨n,[],3,h1,by simp,by omega,rfl,Lib.hid rfl,World.ownsRow_nil _ _ _ _,Below.refl _ _⟩
 case round =>
  obtain ⟨m,out,f,hm,hol,hmf,rfl,HE,hown,hb1⟩:=hrel
  by_cases h0:0 < m
  ·obtain ⟨g,rfl⟩:∃ g,f = g+1:=by
    cases f with
    | zero=>simp at hmf;omega
    | succ g=>exact ⟨g,rfl⟩
   have hmg:m / 1000000000 < 1000000000 ^ g:=by
    rw [Int.pow_succ] at hmf
    exact Int.ediv_lt_of_lt_mul (by omega) hmf
   have HS:Hid (out ++ [m % 1000000000] ++ limbs (m / 1000000000).toNat = limbs n.toNat):=Lib.hid (by
    have e:=HE.out
    rw [limbs_pos m.toNat (by omega)] at e
    rw [List.append_assoc,← e,show ((m.toNat % 1000000000:Nat):Int) = m % 1000000000 from by omega,show m.toNat / 1000000000 = (m / 1000000000).toNat from by omega]
    rfl)
   clear hmf
   go_wp2_with (at_builtin;refine wpList_append_own _ rfl (.tmp 8) (.tmp 11) 22 rfl w.heap.size 3 i0 (.int .i64 0) 1 8 Tryd.underlying22 hi hz0 hz1 hz2 rfl (by decide) _ _ _ rfl (own_alloc hown _) ⟨wr.heap.size,0,none⟩ 1 1 [.int .i64 (m % 1000000000)] rfl rfl (one_new _ _ _) ?c2 ?c3 ?c4 ?c5 ?_)
   case c2=>first | (intro u hu;simp at hu;subst hu;rfl) | rfl
   case c3=>unfold maxLen;omega
   case c4=>omega
   case c5=>have:=hb1.size;simp;omega
   intro v1 w1 hown1 hg1 _
   have hb2:=below_push hb1 (Nat.le_refl _) hown hg1
   go_wp2
   exact ⟨⟨m / 1000000000,out ++ [m % 1000000000],g,by omega,by simp;omega,hmg,rfl,HS,by simpa [intsV] using hown1,hb2⟩,by simp [intOf];omega⟩
  ·have HF:Hid (out = limbs n.toNat):=Lib.hid (by have e:=HE.out;rwa [show m.toNat = 0 from by omega,limbs_none,List.append_nil] at e)
   go_wp2
   go_ret
   exact ⟨_,rfl,by rw [← HF.out];exact hown,hb1⟩
theorem quiet_at {P:Program} {f:FuncId} {args:Array Value} {W:World} {X:Nat→World} {n:Nat} {v:Value} (hX:X n = W)
 (h:Calls P f args W fun e w'=>e = .returned v∧W = w'):Calls P f args W fun e w''=>e = .returned v∧∃ m,w'' = X m :=
 h.mono fun _ _ ⟨he,hm⟩=>⟨he,n,hm.symm.trans hX.symm⟩
set_option maxHeartbeats 400000 in
theorem isNaN_any (x:Int) (w:World):Calls Tryd.prog 76 #[.int .i64 x] w fun e w'=>e = .returned (.bool false)∧w = w':=by
 go_enter Tryd.func76,Tryd.ntmps76
 go_wp2
 go_ret
 exact ⟨by simp,rfl⟩
set_option maxHeartbeats 400000 in
theorem compare_any (x y:Int) (w:World):Calls Tryd.prog 71 #[.int .i64 x,.int .i64 y] w fun e w'=>e = .returned (.int .i64 (cmpI x y))∧w = w':=by
 go_enter Tryd.func71,Tryd.ntmps71
 go_wp2_with (go_at_call 76;refine (isNaN_any _ _).mono ?_;rintro e w' ⟨rfl,rfl⟩)
 all_goals (go_ret;refine ⟨?_,rfl⟩;unfold cmpI;(repeat' split) <;> first | rfl | (exfalso;omega))
set_option maxHeartbeats 1000000 in
theorem compareLimbs_any (va vb:Value) (a b:List Int) (la ha lb hb:Nat) (w:World) (hal:a.length ≤ 9223372036854775807) (_hbl:b.length ≤ 9223372036854775807) (oa:DigN a∧a.getLastD 1 ≠ 0) (ob:DigN b∧b.getLastD 1 ≠ 0)
 (hra:Row w la ha va (intsV a)) (hrb:Row w lb hb vb (intsV b)) :
 Calls Tryd.prog 62 #[va,vb] w fun e w'=>e = .returned (.int .i64 (cmpI (nval a) (nval b)))∧∃ q,w.drewN q = w':=by
 have OA:=Lib.hid oa
 have OB:=Lib.hid ob
 obtain ⟨A,c,rfl,hA⟩:=hra
 obtain ⟨B,d,rfl,hB⟩:=hrb
 rw [intsV_length]
 rw [intsV_length]
 have HA:=Lib.hid hA
 have HB:=Lib.hid hB
 clear hA hB oa ob
 by_cases hlen:a.length = b.length
 ·have HL:=Lib.hid hlen
  have hbe:((a.length:Int) != (b.length:Int)) = false:=by simp [hlen]
  clear hlen
  go_enter Tryd.func62,Tryd.ntmps62
  go_wp2
  go_loopw [5] (fun i wr=>∃ k q:Nat,k ≤ a.length∧i = .int .i64 ((k:Int) - 1)∧wr = w.drewN q∧Hid (a.drop k = b.drop k)) (fun i _=>(intOf i+1).toNat)
  case atStart=>exact ⟨a.length,0,Nat.le_refl _,rfl,rfl,Lib.hid (by rw [List.drop_of_length_le (Nat.le_refl _),List.drop_of_length_le (by have:=HL.out;omega)])⟩
  case round =>
   obtain ⟨k,q,hk,rfl,rfl,HT⟩:=hrel
   by_cases hz:0 < k
   ·obtain ⟨m,rfl⟩:∃ m,k = m+1:=⟨k - 1,by omega⟩
    have hlt:m < a.length:=by omega
    have hlt2:m < b.length:=by have:=HL.out;omega
    obtain ⟨p,rfl,_,_,hca⟩:=HA.out m _ (intsV_at a m hlt)
    obtain ⟨r,rfl,_,_,hcb⟩:=HB.out m _ (intsV_at b m hlt2)
    have hm1:((m+1:Nat):Int) - 1 = (m:Int):=by omega
    rw [hm1]
    clear hm1 hz
    by_cases he:a[m] = b[m]
    ·have hne:(a[m] != b[m]) = false:=by simp [he]
     have HS:=Lib.hid (drop_same a b m hlt hlt2 HT.out he)
     clear he
     go_wp2
     go_quiet (fail)
     go_wp2
     go_roundw
     case rel=>exact ⟨m,_,by omega,rfl,rfl,HS⟩
     case measure=>simp [intOf]
    ·have hne:(a[m] != b[m]) = true:=by rw [bne_iff_ne];exact he
     have HV:Hid (cmpI a[m] b[m] = cmpI (nval a) (nval b)):=Lib.hid (by
      by_cases h1:a[m] < b[m]
      ·rw [cmp_lt h1,cmp_lt (nval_lt_down a b OA.out.1 OB.out.1 HL.out m (by rw [nval_drop a m hlt,nval_drop b m hlt2,HT.out];omega))]
      ·rw [cmp_gt (show b[m] < a[m] by omega),cmp_gt (nval_lt_down b a OB.out.1 OA.out.1 HL.out.symm m (by rw [nval_drop a m hlt,nval_drop b m hlt2,HT.out];omega))])
     clear he
     go_wp2
     go_quiet (fail)
     go_wp2
     go_quiet ((go_at_call 71;exact quiet_at rfl (compare_any _ _ _)))
     go_wp2
     go_ret
     exact ⟨ret_int HV.out,drew_three _ _ _ _⟩
   ·obtain rfl:k = 0:=by omega
    go_wp2
    go_ret
    exact ⟨ret_int (cmp_eq (by have:=HT.out;rw [List.drop_zero,List.drop_zero] at this;rw [this])).symm,q,rfl⟩
 ·have hbe:((a.length:Int) != (b.length:Int)) = true:=by simp;omega
  have HV:Hid (cmpI (a.length:Int) (b.length:Int) = cmpI (nval a) (nval b)):=Lib.hid (by
   by_cases hs:a.length < b.length
   ·rw [cmp_lt (by omega),cmp_lt (nval_short a b OA.out.1 OB.out.1 hs OB.out.2)]
   ·rw [cmp_gt (by omega),cmp_gt (nval_short b a OB.out.1 OA.out.1 (by omega) OA.out.2)])
  clear hlen
  go_enter Tryd.func62,Tryd.ntmps62
  go_wp2_with (go_at_call 71;refine (compare_any _ _ _).mono ?_;rintro e w' ⟨rfl,rfl⟩)
  go_ret
  exact ⟨ret_int HV.out,0,rfl⟩
set_option maxHeartbeats 1000000 in
theorem implNatCmp_drew (va vb:Value) (a b:List Int) (la ha lb hb:Nat) (w:World) (hal:a.length ≤ 9223372036854775807) (hbl:b.length ≤ 9223372036854775807)
 (hra:Row w la ha va (intsV a)) (hrb:Row w lb hb vb (intsV b)) :
 Calls Tryd.prog 75 #[va,vb] w fun e w'=>e = .returned (.int .i64 (cmpN a b))∧∃ q,w.drewN q = w':=by
 by_cases oa:natOkB a = true
 ·by_cases ob:natOkB b = true
  ·have HC:=Lib.hid (show cmpN a b = cmpI (nval a) (nval b) by unfold cmpN;rw [if_pos ⟨oa,ob⟩])
   have OA:=Lib.hid (ok_dig oa)
   have OB:=Lib.hid (ok_dig ob)
   go_enter Tryd.func75,Tryd.ntmps75
   go_wp2_with fail
   refine (implNatOk_same va a la ha _ hal hra).mono ?_
   rintro e w' ⟨rfl,rfl⟩
   rw [oa]
   go_wp2_with fail
   refine (implNatOk_same vb b lb hb _ hbl hrb).mono ?_
   rintro e w' ⟨rfl,rfl⟩
   rw [ob]
   clear oa ob
   go_wp2_with fail
   refine (compareLimbs_any va vb a b la ha lb hb _ hal hbl OA.out OB.out hra hrb).mono ?_
   rintro e w' ⟨rfl,q,rfl⟩
   go_wp2
   go_ret
   exact ⟨ret_int HC.out.symm,q,rfl⟩
  ·have ob':natOkB b = false:=by simpa using ob
   have HC:=Lib.hid (show cmpN a b = 0 by unfold cmpN;rw [if_neg (fun h=>ob h.2)])
   clear ob
   go_enter Tryd.func75,Tryd.ntmps75
   go_wp2_with fail
   refine (implNatOk_same va a la ha _ hal hra).mono ?_
   rintro e w' ⟨rfl,rfl⟩
   rw [oa]
   go_wp2_with fail
   refine (implNatOk_same vb b lb hb _ hbl hrb).mono ?_
   rintro e w' ⟨rfl,rfl⟩
   rw [ob']
   go_wp2
   go_ret
   exact ⟨ret_int HC.out.symm,0,rfl⟩
 ·have oa':natOkB a = false:=by simpa using oa
  have HC:=Lib.hid (show cmpN a b = 0 by unfold cmpN;rw [if_neg (fun h=>oa h.1)])
  clear oa
  go_enter Tryd.func75,Tryd.ntmps75
  go_wp2_with fail
  refine (implNatOk_same va a la ha _ hal hra).mono ?_
  rintro e w' ⟨rfl,rfl⟩
  rw [oa']
  go_wp2
  go_ret
  exact ⟨ret_int HC.out.symm,0,rfl⟩
theorem implNatCmp_any (va vb:Value) (a b:List Int) (la ha lb hb:Nat) (w:World) (hal:a.length ≤ 1048576) (hbl:b.length ≤ 1048576) (_:ha ≤ w.heap.size) (_:hb ≤ w.heap.size)
 (hra:Row w la ha va (intsV a)) (hrb:Row w lb hb vb (intsV b)) :
 Calls Tryd.prog 75 #[va,vb] w fun e w'=>e = .returned (.int .i64 (cmpN a b))∧Below w.heap.size w w':=by
 refine (implNatCmp_drew va vb a b la ha lb hb w (by omega) (by omega) hra hrb).mono ?_
 rintro e w' ⟨rfl,q,rfl⟩
 exact ⟨rfl,below_drewN (Below.refl _ _) q⟩
theorem max_limbs:limbs (9223372036854775807:Int).toNat = [854775807,223372036,9]:=by
 rw [show (9223372036854775807:Int).toNat = 9223372036854775807 from rfl,limbs_pos _ (by decide),limbs_pos _ (by decide),limbs_pos _ (by decide),limbs,dif_pos (by decide)]
 rfl
set_option maxHeartbeats 400000 in
theorem implIntOk_any (v:Value) (x:SI) (w:World) (hl:x.2.length ≤ 1048576) (h:RdS w v x) :
 Calls Tryd.prog 24 #[v] w fun e w'=>e = .returned (.bool (okS x))∧Below w.heap.size w w':=by
 obtain ⟨n,xs⟩:=x
 obtain ⟨u,rfl,hp⟩:=h
 obtain ⟨A,c,rfl⟩:=row_form hp
 rw [intsV_length] at hp ⊢
 simp only at hl hp ⊢
 have hbx:Below w.heap.size w (w.alloc (.cells #[.bool n,.slice A xs.length c] 26)):=below_al (Below.refl _ _) _
 have HV:=Lib.hid (show okS (n,xs) = (natOkB xs && (!n || decide (0 < xs.length))) from rfl)
 by_cases ok:natOkB xs = true
 ·rw [ok] at HV
  go_enter Tryd.func24,Tryd.ntmps24
  go_wp2_with fail
  refine (implNatOk_same _ xs 0 w.heap.size _ (by omega) (hp.below hbx (Nat.le_refl _))).mono ?_
  rintro e w1 ⟨rfl,rfl⟩
  rw [ok]
  by_cases hz:xs.length = 0
  ·have hb:((xs.length:Int) == 0) = true:=by rw [hz];rfl
   have hd:decide (0 < xs.length) = false:=decide_eq_false (by omega)
   rw [hd] at HV
   clear hz hd
   cases n <;>
   ·go_wp2
    go_ret
    exact ⟨ret_bool (by rw [HV.out];rfl),hbx⟩
  ·have hb:((xs.length:Int) == 0) = false:=by rw [beq_eq_false_iff_ne];omega
   have hd:decide (0 < xs.length) = true:=decide_eq_true (by omega)
   rw [hd] at HV
   clear hz hd
   cases n <;>
   ·go_wp2
    go_ret
    exact ⟨ret_bool (by rw [HV.out];rfl),hbx⟩
 ·have ok':natOkB xs = false:=by simpa using ok
  rw [ok'] at HV
  clear ok
  go_enter Tryd.func24,Tryd.ntmps24
  go_wp2_with fail
  refine (implNatOk_same _ xs 0 w.heap.size _ (by omega) (hp.below hbx (Nat.le_refl _))).mono ?_
  rintro e w1 ⟨rfl,rfl⟩
  rw [ok']
  go_wp2
  go_ret
  exact ⟨ret_bool (by rw [HV.out];rfl),hbx⟩
theorem Below.drew1 {B:Nat} {w w1:World} (h:Below B w w1):Below B w w1.drew:=⟨h.os,h.tape,h.output,h.size,h.block⟩
structure NatK where
 rest:List Value
 ty:TypeId
 ne:ty ≠ 3
@[reducible] def natK:NatK:=⟨[],57,by decide⟩
def NatX (K:NatK) (B b:Nat) (xs:List Int) (w:World):Prop :=
 B ≤ b∧∃ v,w.heap[b]? = some (.cells (v :: K.rest).toArray K.ty (0,0))∧w.ownsRow B 3 1 v xs.length (intsV xs)∧v.ownBlock ≠ some b
abbrev NatAt (B b:Nat) (xs:List Int) (w:World):Prop:=NatX natK B b xs w
theorem NatX.lt {K:NatK} {B b:Nat} {xs:List Int} {w:World} (h:NatX K B b xs w):b < w.heap.size:=by
 obtain ⟨_,v,hb,_⟩:=h
 exact (Array.getElem?_eq_some_iff.1 hb).1
theorem NatX.cell {K:NatK} {v:Value} {b:Nat} {w:World} (hb:w.heap[b]? = some (.cells (v :: K.rest).toArray K.ty (0,0))):w.cell? ⟨b,0,none⟩ = some v:=by
 rw [Lib.cell_of_heap hb];simp
theorem NatX.cell1 {K:NatK} {v u:Value} {b:Nat} {w:World} (hb:w.heap[b]? = some (.cells (v :: K.rest).toArray K.ty (0,0))) (j:Nat) (hj:K.rest[j]? = some u):w.cell? ⟨b,j+1,none⟩ = some u:=by
 rw [Lib.cell_of_heap hb];simpa using hj
theorem NatX.put {K:NatK} {B b:Nat} {v v':Value} {ys:List Int} {w:World} (hB:B ≤ b) (hb:w.heap[b]? = some (.cells (v :: K.rest).toArray K.ty (0,0))) (hown:w.ownsRow B 3 1 v' ys.length (intsV ys)) :
 NatX K B b ys (w.setCell ⟨b,0,none⟩ v'):=by
 have hne:=Lib.ownBlock_ne hown hb K.ne
 refine ⟨hB,v',?_,?_,hne⟩
 ·simp [World.setCell,Array.getElem?_modify,hb]
 ·exact hown.kept (row:=some b) ⟨rfl,rfl,rfl,by simp [World.setCell],fun k _ hk=>Below.heap_setCell _ _ _ _ (fun e=>hk (by simp [e]))⟩ (Or.inr hne)
theorem NatAt.put {B b:Nat} {v v':Value} {ys:List Int} {w:World} (hB:B ≤ b) (hb:w.heap[b]? = some (.cells #[v] 57 (0,0))) (hown:w.ownsRow B 3 1 v' ys.length (intsV ys)) :
 NatAt B b ys (w.setCell ⟨b,0,none⟩ v'):=NatX.put (K:=natK) hB hb hown
theorem NatX.new {K:NatK} {B:Nat} {v:Value} {xs:List Int} {w:World} (hB:B ≤ w.heap.size) (hown:w.ownsRow B 3 1 v xs.length (intsV xs)):NatX K B w.heap.size xs (w.alloc (.cells (v :: K.rest).toArray K.ty)):=by
 refine ⟨hB,v,heap_alloc_new w _,own_alloc hown _,fun h=>?_⟩
 have:=(own_lt hown h).2
 omega
theorem NatAt.new {B:Nat} {v:Value} {xs:List Int} {w:World} (hB:B ≤ w.heap.size) (hown:w.ownsRow B 3 1 v xs.length (intsV xs)):NatAt B w.heap.size xs (w.alloc (.cells #[v] 57)) :=
 NatX.new (K:=natK) hB hown
set_option maxHeartbeats 1000000 in
theorem cloneI_any (v:Value) (xs:List Int) (lo hi:Nat) (w:World) (hl:xs.length ≤ 1048576) (hr:Row w lo hi v (intsV xs)) :
 Calls Tryd.prog 63 #[v] w (NewInts xs w):=by
 obtain ⟨i0,hi0,hz0,hz1,hz2⟩:=info_parts intInfo
 obtain ⟨A,c,rfl,hA⟩:=hr
 have q22:∀ (w:World) (a:Option Addr) (n c n' c':Nat),(binOp .eql 22 (.slice a n c) (.slice none n' c')).run Tryd.prog w = .ok (.bool a.isNone) w:=fun w a n c n' c'=>Lib.run_eql_slice_nil w _ _ a n c n' c' Tryd.underlying22
 cases A with
 | none =>
   obtain rfl:xs = []:=by
    cases xs with
    | nil=>rfl
    | cons x r =>
      obtain ⟨a,e,_⟩:=hA 0 _ rfl
      cases e
   clear hA
   go_enter Tryd.func63,Tryd.ntmps63
   go_wp2
   go_ret
   exact ⟨_,rfl,World.ownsRow_nil _ _ _ _,Below.refl _ _⟩
 | some a =>
   have HA:=Lib.hid hA
   clear hA
   rw [intsV_length]
   go_enter Tryd.func63,Tryd.ntmps63
   go_wp2_with (at_builtin;refine wpList_append_own _ rfl _ _ 22 rfl w.heap.size 3 i0 (.int .i64 0) 1 8 Tryd.underlying22 hi0 hz0 hz1 hz2 rfl (by decide) _ _ _ rfl (World.ownsRow_made w #[] 0 (Nat.le_refl _) (Nat.zero_le _) rfl) a xs.length c (intsV xs) rfl ?qc1 ?qc2 ?qc3 ?qc4 ?qc5 ?qc6 ?_)
   case qc1=>simp [intsV_length]
   case qc2 =>
    intro j u hj
    obtain ⟨p,e,h1,h2,h3⟩:=HA.out j u hj
    cases e
    exact Lib.cell?_alloc_some _ h3
   case qc3=>intro u hu;obtain ⟨x,_,rfl⟩:=List.mem_map.1 hu;rfl
   case qc4=>unfold maxLen;omega
   case qc5=>omega
   case qc6=>simp
   intro v' w1 hown hgrow hnil
   go_wp2
   go_ret
   exact ⟨v',rfl,by simpa using hown,((Below.refl _ w).alloc (Nat.le_refl _) _).grown hgrow (by simp) (by intro k hk;simp [Value.ownBlock] at hk;omega)⟩
def NewNat (xs:List Int) (w:World) (e:Ending) (w':World):Prop :=
 ∃ b,e = .returned (.pointer (some ⟨b,0,none⟩))∧NatAt w.heap.size b xs w'∧Below w.heap.size w w'
set_option maxHeartbeats 400000 in
theorem copyNat_any (v:Value) (xs:List Int) (lo hi:Nat) (w:World) (hl:xs.length ≤ 1048576) (hr:Row w lo hi v (intsV xs)) :
 Calls Tryd.prog 55 #[v] w (NewNat xs w):=by
 go_enter Tryd.func55,Tryd.ntmps55
 go_wp2_with fail
 refine (cloneI_any v xs lo hi _ hl hr).mono ?_
 rintro e w1 ⟨v1,rfl,o1,b1⟩
 obtain ⟨A1,c1,rfl⟩:=own_len o1
 go_wp2
 go_ret
 exact ⟨_,rfl,NatAt.new b1.size o1,b1.alloc b1.size _⟩
set_option maxHeartbeats 400000 in
theorem natResult_any {K:NatK} (B b:Nat) (xs:List Int) (w:World) (hl:xs.length ≤ 1048576) (h:NatX K B b xs w) :
 Calls Tryd.prog 58 #[.pointer (some ⟨b,0,none⟩)] w (OwnPost B (capL xs) w):=by
 obtain ⟨hB,v,hb,hown,hne⟩:=h
 have hc:w.cell? ⟨b,0,none⟩ = some v:=NatX.cell hb
 obtain ⟨A,c,rfl⟩:=own_len hown
 have HB:=Lib.hid hb
 have HO:=Lib.hid hown
 clear hb hown hne
 by_cases h50:50 < xs.length
 ·have HR:=Lib.hid (show capL xs = [] by unfold capL;rw [if_pos h50])
  go_enter Tryd.func58,Tryd.ntmps58
  go_wp2
  go_ret
  exact ⟨rfl,_,rfl,by rw [HR.out];exact World.ownsRow_nil _ _ _ _⟩
 ·have HR:=Lib.hid (show capL xs = xs by unfold capL;rw [if_neg h50])
  go_enter Tryd.func58,Tryd.ntmps58
  go_wp2
  go_ret
  exact ⟨rfl,_,rfl,by rw [HR.out];exact HO.out⟩
def LeftX (K:NatK) (B b:Nat) (xs:List Int) (w w':World):Prop:=NatX K B b xs w'∧Below B w w'
abbrev Left (B b:Nat) (xs:List Int) (w w':World):Prop:=LeftX natK B b xs w w'
theorem zeros_step (xs:List Int) (k:Nat):xs ++ List.replicate k 0 ++ [(0:Int)] = xs ++ List.replicate (k+1) 0:=by
 rw [List.append_assoc,List.replicate_succ']
theorem zeros_pad (xs:List Int) (k p:Nat) (h:xs.length+k ≤ p+1 ∨ k = 0) (h2:p < xs.length+k):xs ++ List.replicate k 0 = padL xs (p+1):=by
 unfold padL
 rw [show p+1 - xs.length = k by omega]
theorem intsV_append (xs ys:List Int):intsV (xs ++ ys) = intsV xs ++ intsV ys:=by simp [intsV]
theorem NatX.stored {K:NatK} {B b g cap:Nat} {xs:List Int} {w:World} (hB:B ≤ b) (hb:w.heap[b]? = some (.cells (.slice (some ⟨g,0,none⟩) xs.length cap :: K.rest).toArray K.ty (0,0)))
 (hown:w.ownsRow B 3 1 (.slice (some ⟨g,0,none⟩) xs.length cap) xs.length (intsV xs)) (p:Nat) (d:Int) :
 LeftX K B b (xs.set p d) w (w.setCell ⟨g,p,none⟩ (.int .i64 d))∧(w.setCell ⟨g,p,none⟩ (.int .i64 d)).heap[b]? = some (.cells (.slice (some ⟨g,0,none⟩) xs.length cap :: K.rest).toArray K.ty (0,0)) ∧
  (w.setCell ⟨g,p,none⟩ (.int .i64 d)).ownsRow B 3 1 (.slice (some ⟨g,0,none⟩) (xs.set p d).length cap) (xs.set p d).length (intsV (xs.set p d)):=by
 have hne:=Lib.ownBlock_ne hown hb K.ne
 have hgb:b ≠ g:=fun e=>hne (by simp [Value.ownBlock,e])
 obtain ⟨ho,hg⟩:=hown.stored p (.int .i64 d)
 have hlt:=own_lt hown (g:=g) rfl
 have hbs:B ≤ w.heap.size:=by omega
 have hb2:(w.setCell ⟨g,p,none⟩ (.int .i64 d)).heap[b]? = some (.cells (.slice (some ⟨g,0,none⟩) xs.length cap :: K.rest).toArray K.ty (0,0)):=(Below.heap_setCell _ _ _ _ hgb).trans hb
 have hl:(xs.set p d).length = xs.length:=List.length_set
 rw [intsV_set] at ho
 refine ⟨⟨⟨hB,_,hb2,by rw [hl];exact ho,hne⟩,(Below.refl _ _).setCell (p:=⟨g,p,none⟩) hlt.1 _⟩,hb2,by rw [hl];exact ho⟩
set_option maxHeartbeats 1000000 in
theorem addAt_any {K:NatK} (B b:Nat) (xs:List Int) (p:Nat) (v:Int) (w:World) (hl:xs.length ≤ 1048576) (hp:p ≤ 1048576) (hv0:0 ≤ v) (hv1:v ≤ 1000000000000000000) (hd:DigN xs) (h:NatX K B b xs w) :
 Calls Tryd.prog 64 #[.pointer (some ⟨b,0,none⟩),.int .i64 p,.int .i64 v] w fun e w'=>e = .returned (.int .i64 (addAtC xs p v))∧LeftX K B b (addAtL xs p v) w w':=by
 obtain ⟨i0,hi0,hz0,hz1,hz2⟩:=info_parts intInfo
 have HD:=Lib.hid hd
 clear hd
 go_enter Tryd.func64,Tryd.ntmps64
 go_wp2
 go_loopg [] (p+1 - xs.length) (fun n wr=>∃ k:Nat,Hid (xs.length+k ≤ p+1 ∨ k = 0)∧Hid (n = p+1 - (xs.length+k))∧NatX K B b (xs ++ List.replicate k 0) wr∧Below B w wr)
 case atStart=>exact ⟨0,Lib.hid (Or.inr rfl),Lib.hid (by omega),by simpa using h,Below.refl _ _⟩
 case round =>
  obtain ⟨k,HK,HN,hat,hb1⟩:=hrel
  have hlt:=hat.lt
  obtain ⟨hB,u,hbk,hown,hne⟩:=hat
  have hlen:(xs ++ List.replicate k (0:Int)).length = xs.length+k:=by simp
  have hxk:xs.length+k ≤ 1048577:=by rcases HK.out with h | h <;> omega
  rw [hlen] at hown
  by_cases hc:xs.length+k ≤ p
  ·obtain ⟨A,c,rfl⟩:=own_len hown
   have c1:wr.cell? ⟨b,0,none⟩ = some (.slice A (xs.length+k) c):=NatX.cell hbk
   have HB:=Lib.hid hbk
   have HE:=Lib.hid hne
   clear hbk hne hlen
   go_wp2_with (at_builtin;refine wpList_append_own _ rfl _ _ 22 rfl B 3 i0 (.int .i64 0) 1 8 Tryd.underlying22 hi0 hz0 hz1 hz2 rfl (by decide) _ _ _ rfl (own_alloc hown _) ⟨wr.heap.size,0,none⟩ 1 1 [.int .i64 0] rfl rfl (one_new _ _ _) ?c2 ?c3 ?c4 ?c5 ?_)
   case c2=>first | (intro u hu;simp at hu;subst hu;rfl) | rfl
   case c3=>unfold maxLen;omega
   case c4=>omega
   case c5=>simp;omega
   intro v1 w1 hown1 hg1 _
   have hb2:w1.heap[b]? = some (.cells (.slice A (xs.length+k) c :: K.rest).toArray K.ty (0,0)):=by
    rw [hg1.block b (by simp;omega) (fun e=>HE.out e.symm),Below.heap_alloc _ _ _ hlt]
    exact HB.out
   have d1:w1.cell? ⟨b,0,none⟩ = some (.slice A (xs.length+k) c):=NatX.cell hb2
   have f1:w1.frozen? ⟨b,0,none⟩ = false:=Lib.frozen_of_heap hb2 0
   have hb3:Below B w w1:=(hb1.alloc (by omega) _).grown hg1 (by simp;omega) (fun k hk=>(own_lt hown hk).1)
   obtain ⟨A1,cc1,rfl⟩:=own_len hown1
   have hput:=NatX.put (ys:=xs ++ List.replicate (k+1) 0) hB hb2 (by rw [← zeros_step,intsV_append];simpa [intsV,Nat.add_assoc] using hown1)
   have HB2:=Lib.hid hb2
   clear hb2 c1
   go_wp2
   go_roundg (p+1 - (xs.length+(k+1)))
   case measure=>have:=HN.out;omega
   case rel=>exact ⟨k+1,Lib.hid (by omega),Lib.hid rfl,hput,hb3.setCell (p:=⟨b,0,none⟩) hB _⟩
  ·have HP:=Lib.hid (zeros_pad xs k p HK.out (by omega))
   obtain ⟨g,cap,rfl,hg1,hg2,hg3⟩:=own_form hown (by omega)
   have c1:wr.cell? ⟨b,0,none⟩ = some (.slice (some ⟨g,0,none⟩) (xs.length+k) cap):=NatX.cell hbk
   have hpl:p < (padL xs (p+1)).length:=by rw [padL_length];omega
   have hcell:=hown.cellAt p (by omega)
   rw [HP.out,intsV_at _ p hpl,padL_at] at hcell
   have hfr:=hown.frozenAt p
   have hdg:=getD_dig HD.out p
   have hs:xs.length+k = (padL xs (p+1)).length:=by rw [← HP.out,hlen]
   have HST:=Lib.hid (NatX.stored (xs:=padL xs (p+1)) hB (by rw [← hs];exact hbk) (by rw [← hs,← HP.out];exact hown) p ((v+xs.getD p 0) % 1000000000))
   have HC:=Lib.hid (show addAtC xs p v = (v+xs.getD p 0) / 1000000000 from rfl)
   have HL:=Lib.hid (show addAtL xs p v = (padL xs (p+1)).set p ((v+xs.getD p 0) % 1000000000) from rfl)
   clear hown hbk hs hlen hne
   generalize xs.getD p 0 = dg at hcell hdg HST HC HL
   have hdg0:=hdg.1
   have hdg1:=hdg.2
   clear hdg
   go_wp2
   go_ret
   exact ⟨ret_int HC.out.symm,by rw [HL.out];exact ⟨HST.out.1.1,hb1.trans HST.out.1.2⟩⟩
def NatOnX (K:NatK) (T:List Nat) (b:Nat) (xs:List Int) (w:World):Prop :=
 ∃ v,w.heap[b]? = some (.cells (v :: K.rest).toArray K.ty (0,0))∧w.ownsRow 0 3 1 v xs.length (intsV xs)∧v.ownBlock ≠ some b∧T = b :: v.ownBlock.toList
def KeptX (K:NatK) (T:List Nat) (b:Nat) (xs:List Int) (w w':World):Prop:=NatOnX K T b xs w'∧Chg T w w'
abbrev NatOn (T:List Nat) (b:Nat) (xs:List Int) (w:World):Prop:=NatOnX natK T b xs w
abbrev Kept (T:List Nat) (b:Nat) (xs:List Int) (w w':World):Prop:=KeptX natK T b xs w w'
theorem NatOnX.lt {K:NatK} {T:List Nat} {b:Nat} {xs:List Int} {w:World} (h:NatOnX K T b xs w):b < w.heap.size:=by
 obtain ⟨v,hb,_⟩:=h
 exact (Array.getElem?_eq_some_iff.1 hb).1
theorem NatOnX.mem {K:NatK} {T:List Nat} {b:Nat} {xs:List Int} {w:World} (h:NatOnX K T b xs w):b ∈ T:=by
 obtain ⟨v,_,_,_,rfl⟩:=h
 simp
theorem NatOnX.at_ {K:NatK} {T:List Nat} {b:Nat} {xs:List Int} {w:World} (h:NatOnX K T b xs w):At T (NatOnX K T b xs) w:=by
 have hh:=h
 obtain ⟨v,hb,ho,hne,rfl⟩:=h
 refine ⟨hh,fun g hg=>?_,fun w' hk=>⟨v,(hk b (by simp)).trans hb,own_stays ho fun g hg=>hk g (by simp [hg]),hne,rfl⟩⟩
 rcases List.mem_cons.1 hg with rfl | hg
 ·exact (Array.getElem?_eq_some_iff.1 hb).1
 ·exact (own_lt ho (by simpa using hg)).2
theorem NatX.on {K:NatK} {B b:Nat} {xs:List Int} {w:World} (h:NatX K B b xs w):∃ T,NatOnX K T b xs w∧∀ g ∈ T,B ≤ g:=by
 obtain ⟨hB,v,hb,ho,hne⟩:=h
 refine ⟨_,⟨v,hb,own_zero ho,hne,rfl⟩,fun g hg=>?_⟩
 rcases List.mem_cons.1 hg with rfl | hg
 ·exact hB
 ·exact (own_lt ho (by simpa using hg)).1
theorem own_raise {w:World} {base n:Nat} {e:TypeId} {v:Value} {xs:List Value} (h:w.ownsRow 0 e 1 v n xs) (hb:∀ g,v.ownBlock = some g→base ≤ g):w.ownsRow base e 1 v n xs:=by
 obtain ⟨hl,h | ⟨g,cap,cur,rfl,_,r⟩⟩:=h
 ·exact ⟨hl,.inl h⟩
 ·exact ⟨hl,.inr ⟨g,cap,cur,rfl,hb g rfl,r⟩⟩
theorem NatOnX.natAt {K:NatK} {T:List Nat} {B b:Nat} {xs:List Int} {w:World} (h:NatOnX K T b xs w) (hT:∀ g ∈ T,B ≤ g):NatX K B b xs w:=by
 obtain ⟨v,hb,ho,hne,rfl⟩:=h
 exact ⟨hT b (by simp),v,hb,own_raise ho fun g hg=>hT g (by simp [hg]),hne⟩
theorem KeptX.left {K:NatK} {T:List Nat} {B b:Nat} {xs:List Int} {w w':World} (h:KeptX K T b xs w w') (hB:B ≤ w.heap.size) (hT:∀ g ∈ T,B ≤ g):LeftX K B b xs w w' :=
 ⟨h.1.natAt hT,below_chg (Below.refl _ _) h.2 hB hT⟩
theorem KeptX.trans {K:NatK} {T:List Nat} {b:Nat} {xs ys:List Int} {w w1 w2:World} (h:KeptX K T b xs w w1) (k:KeptX K T b ys w1 w2):KeptX K T b ys w w2:=⟨k.1,h.2.trans k.2⟩
theorem NatX.size {K:NatK} {B b:Nat} {xs:List Int} {w:World} (h:NatX K B b xs w):B ≤ w.heap.size:=by
 have:=h.lt
 have:=h.1
 omega
theorem NatOnX.put {K:NatK} {T:List Nat} {b:Nat} {v v':Value} {ys:List Int} {w:World} (hb:w.heap[b]? = some (.cells (v :: K.rest).toArray K.ty (0,0))) (hown:w.ownsRow 0 3 1 v' ys.length (intsV ys)) (hT:T = b :: v'.ownBlock.toList) :
 NatOnX K T b ys (w.setCell ⟨b,0,none⟩ v'):=by
 obtain ⟨_,u,h1,h2,h3⟩:=NatX.put (Nat.zero_le b) hb hown
 have e:u = v':=by
  have:(w.setCell ⟨b,0,none⟩ v').heap[b]? = some (.cells (v' :: K.rest).toArray K.ty (0,0)):=by simp [World.setCell,Array.getElem?_modify,hb]
  rw [this] at h1
  simpa using h1.symm
 subst e
 exact ⟨_,h1,h2,h3,hT⟩
theorem NatOnX.stored {K:NatK} {b g cap:Nat} {xs:List Int} {w:World} (hb:w.heap[b]? = some (.cells (.slice (some ⟨g,0,none⟩) xs.length cap :: K.rest).toArray K.ty (0,0)))
 (hown:w.ownsRow 0 3 1 (.slice (some ⟨g,0,none⟩) xs.length cap) xs.length (intsV xs)) (hne:(Value.slice (some ⟨g,0,none⟩) xs.length cap).ownBlock ≠ some b) (p:Nat) (d:Int) :
 KeptX K [b,g] b (xs.set p d) w (w.setCell ⟨g,p,none⟩ (.int .i64 d))∧(w.setCell ⟨g,p,none⟩ (.int .i64 d)).heap[b]? = some (.cells (.slice (some ⟨g,0,none⟩) xs.length cap :: K.rest).toArray K.ty (0,0)) ∧
  (w.setCell ⟨g,p,none⟩ (.int .i64 d)).ownsRow 0 3 1 (.slice (some ⟨g,0,none⟩) (xs.set p d).length cap) (xs.set p d).length (intsV (xs.set p d)):=by
 have hgb:b ≠ g:=fun e=>hne (by simp [Value.ownBlock,e])
 obtain ⟨ho,hg⟩:=hown.stored p (.int .i64 d)
 have hb2:(w.setCell ⟨g,p,none⟩ (.int .i64 d)).heap[b]? = some (.cells (.slice (some ⟨g,0,none⟩) xs.length cap :: K.rest).toArray K.ty (0,0)):=(Below.heap_setCell _ _ _ _ hgb).trans hb
 have hl:(xs.set p d).length = xs.length:=List.length_set
 rw [intsV_set] at ho
 exact ⟨⟨⟨_,hb2,by rw [hl];exact ho,hne,rfl⟩,(Chg.refl _ _).setCell (p:=⟨g,p,none⟩) (by simp) _⟩,hb2,by rw [hl];exact ho⟩
set_option maxHeartbeats 1000000 in
theorem takeAt_on {K:NatK} (T:List Nat) (b:Nat) (xs:List Int) (p:Nat) (v:Int) (w:World) (hl:xs.length ≤ 1048576) (hp:p < xs.length) (hv0:0 ≤ v) (hv1:v ≤ 1000000000000000000) (hd:DigN xs) (h:NatOnX K T b xs w) :
 Calls Tryd.prog 81 #[.pointer (some ⟨b,0,none⟩),.int .i64 p,.int .i64 v] w fun e w'=>e = .returned (.int .i64 (takeAtC xs p v))∧KeptX K T b (takeAtL xs p v) w w':=by
 have hdg:=hd.at_ p hp
 have hg:xs.getD p 0 = xs[p]:=by rw [List.getD_eq_getElem?_getD,List.getElem?_eq_getElem hp];rfl
 have HL:=Lib.hid (show takeAtL xs p v = xs.set p ((xs[p] - v) % 1000000000) by rw [← hg];rfl)
 have HC:=Lib.hid (show takeAtC xs p v = -((xs[p] - v) / 1000000000) by rw [← hg];rfl)
 clear hg hd
 obtain ⟨u,hbk,hown,hne,hT⟩:=h
 obtain ⟨g,cap,rfl,hg1,hg2,hg3⟩:=own_form hown (by omega)
 have hT2:T = [b,g]:=hT
 subst hT2
 have c1:w.cell? ⟨b,0,none⟩ = some (.slice (some ⟨g,0,none⟩) xs.length cap):=NatX.cell hbk
 have hcell:=hown.cellAt p (by omega)
 rw [intsV_at _ p hp] at hcell
 have hfr:=hown.frozenAt p
 have hgb:¬ b = g:=fun e=>hne (by simp [Value.ownBlock,e])
 obtain ⟨hs1,hk1,ho1⟩:=NatOnX.stored hbk hown hne p (xs[p] - v % 1000000000)
 have HS1:=Lib.hid hs1
 have hl1:(xs.set p (xs[p] - v % 1000000000)).length = xs.length:=List.length_set
 have HS2:=Lib.hid (NatOnX.stored (xs:=xs.set p (xs[p] - v % 1000000000)) (by rw [hl1];exact hk1) ho1 (by rw [hl1];exact hne) p (xs[p] - v % 1000000000+1000000000))
 rw [List.set_set] at HS2
 clear hown hbk hne hs1 hk1 ho1 hl1 hT
 generalize xs[p] = dg at hcell hdg HS1 HS2 HC HL
 have hdg0:=hdg.1
 have hdg1:=hdg.2
 clear hdg
 by_cases hc:v % 1000000000 ≤ dg
 ·have HC2:=Lib.hid (show takeAtC xs p v = v / 1000000000 by rw [HC.out];omega)
  have HL2:=Lib.hid (show takeAtL xs p v = xs.set p (dg - v % 1000000000) by rw [HL.out];congr 1;omega)
  clear HC HL
  go_enter Tryd.func81,Tryd.ntmps81
  go_wp2
  go_ret
  exact ⟨ret_int HC2.out.symm,by rw [HL2.out];exact HS1.out⟩
 ·have HC2:=Lib.hid (show takeAtC xs p v = v / 1000000000+1 by rw [HC.out];omega)
  have HL2:=Lib.hid (show takeAtL xs p v = xs.set p (dg - v % 1000000000+1000000000) by rw [HL.out];congr 1;omega)
  clear HC HL
  go_enter Tryd.func81,Tryd.ntmps81
  go_wp2
  go_ret
  exact ⟨ret_int HC2.out.symm,by rw [HL2.out];exact HS1.out.trans HS2.out.1⟩
set_option maxHeartbeats 1000000 in
theorem natTrim_on {K:NatK} (T:List Nat) (b:Nat) (xs:List Int) (w:World) (hl:xs.length ≤ 1048576) (h:NatOnX K T b xs w) :
 Calls Tryd.prog 66 #[.pointer (some ⟨b,0,none⟩)] w fun e w'=>e = .returned (.tuple #[])∧KeptX K T b (trimL xs) w w':=by
 have hTm:=h.mem
 have HT0:=Lib.hid hTm
 clear hTm
 obtain ⟨v,hbk,hown,hne,hT⟩:=h
 obtain ⟨A,c,e1,hA⟩:=Row.of_own hown
 rw [intsV_length] at e1
 subst e1
 have c1:w.cell? ⟨b,0,none⟩ = some (.slice A xs.length c):=NatX.cell hbk
 have f1:w.frozen? ⟨b,0,none⟩ = false:=Lib.frozen_of_heap hbk 0
 have hcap:xs.length ≤ c:=by
  rcases hown.2 with ⟨h1,h2⟩ | ⟨g,cap,cur,e1,_,_,hn,_⟩
  ·omega
  ·injection e1 with _ _ e3;omega
 have HA:=Lib.hid hA
 have HB:=Lib.hid hbk
 have HO:=Lib.hid hown
 have HTT:Hid (∀ k,T = b :: (Value.slice A k c).ownBlock.toList):=Lib.hid (by intro k;rw [hT];cases A <;> rfl)
 clear hA hbk hown hne hT
 go_enter Tryd.func66,Tryd.ntmps66
 go_wp2
 go_loop [2] (fun n=>∃ k:Nat,k ≤ xs.length∧n = .int .i64 ((k:Int) - 1)∧Hid (∀ j (h:j < xs.length),k ≤ j→xs[j] = 0)) (fun n=>(intOf n+1).toNat)
 case atStart=>exact ⟨xs.length,Nat.le_refl _,rfl,Lib.hid (fun j h hj=>absurd h (by omega))⟩
 case round =>
  obtain ⟨k,hk,rfl,HZ⟩:=hrel
  by_cases h0:0 < k
  ·obtain ⟨m,rfl⟩:∃ m,k = m+1:=⟨k - 1,by omega⟩
   have hlt:m < xs.length:=by omega
   obtain ⟨a,rfl,_,_,hca⟩:=HA.out m _ (intsV_at xs m hlt)
   have hm1:((m+1:Nat):Int) - 1 = (m:Int):=by omega
   rw [hm1]
   clear hm1 h0
   by_cases hz:xs[m] = 0
   ·have hzb:(xs[m] == 0) = true:=by rw [beq_iff_eq];exact hz
    have HN:Hid (∀ j (h:j < xs.length),m ≤ j→xs[j] = 0):=Lib.hid (fun j h hj=>by
     by_cases e:j = m
     ·subst e;exact hz
     ·exact HZ.out j h (by omega))
    clear hz
    go_wp2
    go_round
    case rel=>exact ⟨m,by omega,rfl,HN⟩
    case measure=>simp [intOf]
   ·have hzb:(xs[m] == 0) = false:=by rw [beq_eq_false_iff_ne];exact hz
    have HT:=Lib.hid (trim_prefix xs (m+1) hk HZ.out (fun _ _=>hz))
    have HP:=Lib.hid (NatOnX.put (ys:=xs.take (m+1)) (v':=.slice (some a) (m+1) c) HB.out (by
     rw [← intsV_take,List.length_take,show min (m+1) xs.length = m+1 from by omega]
     exact own_take (m+1) hk HO.out) (HTT.out _))
    clear hz
    go_wp2
    go_end0
    exact ⟨rfl,by rw [HT.out];exact ⟨HP.out,(Chg.refl _ _).setCell (p:=⟨b,0,none⟩) HT0.out _⟩⟩
  ·obtain rfl:k = 0:=by omega
   have HT:=Lib.hid (trim_prefix xs 0 hk HZ.out (fun _ h=>absurd h (by omega)))
   have HP:=Lib.hid (NatOnX.put (ys:=xs.take 0) (v':=.slice A 0 c) HB.out (by
    rw [← intsV_take,List.length_take,Nat.zero_min]
    exact own_take 0 hk HO.out) (HTT.out _))
   go_wp2
   go_end0
   exact ⟨rfl,by rw [HT.out];exact ⟨HP.out,(Chg.refl _ _).setCell (p:=⟨b,0,none⟩) HT0.out _⟩⟩
theorem natTrim_any {K:NatK} (B b:Nat) (xs:List Int) (w:World) (hl:xs.length ≤ 1048576) (h:NatX K B b xs w) :
 Calls Tryd.prog 66 #[.pointer (some ⟨b,0,none⟩)] w fun e w'=>e = .returned (.tuple #[])∧LeftX K B b (trimL xs) w w':=by
 obtain ⟨T,hT,hB⟩:=h.on
 refine (natTrim_on T b xs w hl hT).mono ?_
 rintro e w' ⟨rfl,hk⟩
 exact ⟨rfl,hk.left h.size hB⟩
def lenM (x y sh:Nat):Nat:=if y = 0 then x else max x (sh+y)
theorem lenM_succ (x k sh:Nat):max (lenM x k sh) (sh+k+1) = lenM x (k+1) sh:=by
 unfold lenM
 rw [if_neg (show ¬ k+1 = 0 by omega)]
 by_cases h:k = 0
 ·rw [if_pos h];omega
 ·rw [if_neg h];omega
theorem lenM_le (x y sh:Nat) (hx:x ≤ 300000) (hy:y ≤ 300000) (hs:sh ≤ 300000):lenM x y sh ≤ 600000:=by unfold lenM;split <;> omega
theorem take_val_succ (ys:List Int) (k:Nat) (h:k < ys.length):nval (ys.take (k+1)) = nval (ys.take k)+bp k * ys[k]:=by
 rw [List.take_succ_eq_append_getElem h,nval_append,List.length_take,show min k ys.length = k by omega]
 show _+bp k * (ys[k]+1000000000 * 0) = _
 rw [Int.mul_zero,Int.add_zero]
def TimesR (xs ys:List Int) (f:Int) (sh k:Nat) (cur:List Int) (cr:Int):Prop :=
 DigN cur∧cur.length = lenM xs.length k sh∧nval cur+cr * bp (sh+k) = nval xs+f * bp sh * nval (ys.take k)∧(k = 0→cr = 0)
theorem TimesR.start (xs ys:List Int) (f:Int) (sh:Nat) (hd:DigN xs):TimesR xs ys f sh 0 xs 0:=by
 refine ⟨hd,rfl,?_,fun _=>rfl⟩
 rw [List.take_zero]
 show nval xs+0 * _ = nval xs+f * bp sh * 0
 rw [Int.zero_mul,Int.mul_zero]
theorem TimesR.next {xs ys:List Int} {f:Int} {sh k:Nat} {cur:List Int} {cr:Int} (h:TimesR xs ys f sh k cur cr) (hk:k < ys.length) :
 TimesR xs ys f sh (k+1) (addAtL cur (sh+k) (ys[k] * f+cr)) (addAtC cur (sh+k) (ys[k] * f+cr)):=by
 obtain ⟨h1,h2,h3,_⟩:=h
 refine ⟨addAt_dig h1 _ _,?_,?_,fun h=>absurd h (by omega)⟩
 ·rw [addAt_length,h2,lenM_succ]
 ·have e:=addAt_val cur (sh+k) (ys[k] * f+cr)
  have e2:ys[k] * f * bp (sh+k) = f * bp sh * (bp k * ys[k]):=by
   rw [bp_add]
   simp only [Int.mul_assoc,Int.mul_comm,Int.mul_left_comm]
  rw [show sh+(k+1) = sh+k+1 by omega,e,take_val_succ ys k hk,Int.add_mul,Int.mul_add,e2]
  omega
theorem carry_bound {cur:List Int} {p:Nat} {v:Int} (h:DigN cur) (h0:0 ≤ v) (h1:v ≤ 999999999000000000):0 ≤ addAtC cur p v∧addAtC cur p v ≤ 999999999:=by
 have hd:=getD_dig h p
 unfold addAtC
 omega
def CarryR (M:Nat) (N:Int) (pl:Nat) (cur:List Int) (cr:Int):Prop :=
 DigN cur∧nval cur+cr * bp pl = N∧((cur.length = M∧(cr = 0 ∨ pl ≤ M)) ∨ (cr = 0∧cur.length = M+1∧bp M ≤ N))
theorem CarryR.len {M pl:Nat} {N cr:Int} {cur:List Int} (h:CarryR M N pl cur cr):cur.length ≤ M+1:=by
 obtain ⟨_,_,⟨h,_⟩ | ⟨_,h,_⟩⟩:=h <;> omega
theorem CarryR.place {M pl:Nat} {N cr:Int} {cur:List Int} (h:CarryR M N pl cur cr) (hc:0 < cr):pl ≤ M∧cur.length = M:=by
 obtain ⟨_,_,⟨h,h2 | h2⟩ | ⟨h,_⟩⟩:=h
 ·omega
 ·exact ⟨h2,h⟩
 ·omega
theorem CarryR.next {M pl:Nat} {N cr:Int} {cur:List Int} (h:CarryR M N pl cur cr) (hc:0 < cr) (h1:cr ≤ 999999999):CarryR M N (pl+1) (addAtL cur pl cr) (addAtC cur pl cr):=by
 obtain ⟨hp,hl⟩:=h.place hc
 obtain ⟨hd,hv,_⟩:=h
 have e:=addAt_val cur pl cr
 refine ⟨addAt_dig hd _ _,by rw [e];exact hv,?_⟩
 by_cases he:pl = M
 ·subst he
  obtain ⟨e1,e2⟩:=addAt_new cur pl cr hl.symm hc h1
  rw [e1]
  refine .inr ⟨rfl,by rw [addAt_length];omega,?_⟩
  rw [e1,e2,Int.zero_mul,Int.add_zero] at e
  rw [← hv,← e,nval_append,hl]
  have h2:=nval_nonneg cur hd
  have h3:=bp_pos pl
  have h4:nval [cr] = cr:=by show cr+1000000000 * 0 = cr;omega
  rw [h4]
  have h5:=Int.mul_le_mul_of_nonneg_left (show 1 ≤ cr by omega) (show 0 ≤ bp pl by omega)
  omega
 ·exact .inl ⟨by rw [addAt_length];omega,.inr (by omega)⟩
def TimesPost (K:NatK) (B b:Nat) (xs ys:List Int) (f:Int) (sh:Nat) (w w':World):Prop :=
 ∃ zs,LeftX K B b zs w w'∧DigN zs∧nval zs = nval xs+f * bp sh * nval ys∧(zs.length = lenM xs.length ys.length sh ∨ (zs.length = lenM xs.length ys.length sh+1∧bp (lenM xs.length ys.length sh) ≤ nval zs))
theorem addAt_at {K:NatK} (B b:Nat) (xs:List Int) (p:Nat) (pz v:Int) (w:World) (hl:xs.length ≤ 1048576) (hp:p ≤ 1048576) (hv0:0 ≤ v) (hv1:v ≤ 1000000000000000000) (hd:DigN xs) (h:NatX K B b xs w) (hz:pz = p) :
 Calls Tryd.prog 64 #[.pointer (some ⟨b,0,none⟩),.int .i64 pz,.int .i64 v] w fun e w'=>e = .returned (.int .i64 (addAtC xs p v))∧LeftX K B b (addAtL xs p v) w w':=by
 subst hz
 exact addAt_any B b xs p v w hl hp hv0 hv1 hd h
set_option maxHeartbeats 1000000 in
theorem addTimes_any {K:NatK} (B b:Nat) (xs:List Int) (vy:Value) (ys:List Int) (lo hi:Nat) (f:Int) (sh:Nat) (w:World) (hxl:xs.length ≤ 300000) (hyl:ys.length ≤ 300000) (hsh:sh ≤ 300000) (hf0:0 ≤ f) (hf1:f ≤ 999999999)
 (hdx:DigN xs) (hdy:DigN ys) (hhi:hi ≤ B) (hr:Row w lo hi vy (intsV ys)) (h:NatX K B b xs w) :
 Calls Tryd.prog 70 #[.pointer (some ⟨b,0,none⟩),vy,.int .i64 f,.int .i64 sh] w fun e w'=>e = .returned (.tuple #[])∧TimesPost K B b xs ys f sh w w':=by
 obtain ⟨A,c,rfl,hA⟩:=hr
 rw [intsV_length]
 have HA:=Lib.hid hA
 have HDX:=Lib.hid hdx
 have HDY:=Lib.hid hdy
 clear hA hdx hdy
 go_enter Tryd.func70,Tryd.ntmps70
 go_wp2
 go_loopw [8,14] (fun a i wr=>∃ (k:Nat) (cur:List Int) (cr:Int),k ≤ ys.length∧i = .int .i64 k∧a = .int .i64 cr∧0 ≤ cr∧cr ≤ 999999999∧Hid (TimesR xs ys f sh k cur cr)∧NatX K B b cur wr∧Below B w wr) (fun _ i _=>ys.length - (intOf i).toNat)
 case atStart=>exact ⟨0,xs,0,Nat.zero_le _,rfl,rfl,by omega,by omega,Lib.hid (TimesR.start xs ys f sh HDX.out),h,Below.refl _ _⟩
 case round =>
  obtain ⟨k,cur,cr,hk,rfl,rfl,hc0,hc1,HR,hat,hb1⟩:=hrel
  have hcl:cur.length ≤ 600000:=by rw [HR.out.2.1];exact lenM_le _ _ _ hxl (by omega) hsh
  by_cases hlt:k < ys.length
  ·obtain ⟨p,rfl,_,hpb,hca⟩:=HA.out k _ (intsV_at ys k hlt)
   have hca':wr.cell? (p.add k) = some (.int .i64 ys[k]):=(hb1.cell (by rw [block_add];omega)).trans hca
   have hdy:=HDY.out.at_ k hlt
   have hd0:=hdy.1
   have hd1:=hdy.2
   have hm0:0 ≤ ys[k] * f:=Int.mul_nonneg hd0 hf0
   have hm1:ys[k] * f ≤ 999999998000000001:=by
    have:=Int.mul_le_mul hd1 hf1 hf0 (by omega)
    omega
   have HN:=Lib.hid (HR.out.next hlt)
   have HCB:=Lib.hid (carry_bound (p:=sh+k) (v:=ys[k] * f+cr) HR.out.1 (by omega) (by omega))
   clear hca hdy
   go_wp2_with fail
   refine (addAt_at B b cur (sh+k) _ _ _ (by omega) (by omega) (by omega) (by omega) HR.out.1 hat (by omega)).mono ?_
   rintro e w1 ⟨rfl,hat1,hb2⟩
   clear hm0 hm1 hd0 hd1
   go_wp2
   go_roundw
   case rel=>exact ⟨k+1,_,_,by omega,by go_num,rfl,HCB.out.1,HCB.out.2,HN,hat1,hb1.trans hb2⟩
   case measure=>simp [intOf];omega
  ·obtain rfl:k = ys.length:=by omega
   have HC:Hid (CarryR (lenM xs.length ys.length sh) (nval xs+f * bp sh * nval ys) (sh+ys.length) cur cr):=Lib.hid (by
    obtain ⟨h1,h2,h3,h4⟩:=HR.out
    rw [List.take_of_length_le (Nat.le_refl _)] at h3
    refine ⟨h1,h3,.inl ⟨h2,?_⟩⟩
    by_cases hy:ys.length = 0
    ·exact .inl (h4 hy)
    ·right
     unfold lenM
     rw [if_neg hy]
     omega)
   have hM:=lenM_le xs.length ys.length sh hxl hyl hsh
   clear HR
   go_wp2
   go_loopw [8,11] (fun a i wr=>∃ (pl:Nat) (cur:List Int) (cr:Int),pl ≤ 600001∧i = .int .i64 pl∧a = .int .i64 cr∧0 ≤ cr∧cr ≤ 999999999∧Hid (CarryR (lenM xs.length ys.length sh) (nval xs+f * bp sh * nval ys) pl cur cr)∧NatX K B b cur wr∧Below B w wr) (fun _ i _=>lenM xs.length ys.length sh+1 - (intOf i).toNat)
   case atStart=>exact ⟨sh+ys.length,cur,cr,by omega,by go_num,rfl,hc0,hc1,HC,hat,hb1⟩
   case round =>
    clear hat hb1 HC hc0 hc1 hcl
    obtain ⟨pl,cur,cr,hpl,rfl,rfl,hc0,hc1,HC,hat,hb1⟩:=hrel
    have hcl:=HC.out.len
    by_cases hpos:0 < cr
    ·have hplm:=(HC.out.place hpos).1
     have HN:=Lib.hid (HC.out.next hpos hc1)
     have HCB:=Lib.hid (carry_bound (p:=pl) (v:=cr) HC.out.1 hc0 (by omega))
     go_wp2_with fail
     refine (addAt_any B b cur pl cr _ (by omega) (by omega) (by omega) (by omega) HC.out.1 hat).mono ?_
     rintro e w1 ⟨rfl,hat1,hb2⟩
     go_wp2
     go_roundw
     case rel=>exact ⟨pl+1,_,_,by omega,by go_num,rfl,HCB.out.1,HCB.out.2,HN,hat1,hb1.trans hb2⟩
     case measure=>simp [intOf];omega
    ·obtain rfl:cr = 0:=by omega
     go_wp2
     go_end0
     refine ⟨rfl,cur,⟨hat,hb1⟩,HC.out.1,?_,?_⟩
     ·have:=HC.out.2.1
      rw [Int.zero_mul,Int.add_zero] at this
      exact this
     ·obtain ⟨_,h2,h3⟩:=HC.out
      rw [Int.zero_mul,Int.add_zero] at h2
      rcases h3 with h3 | h3
      ·exact .inl h3.1
      ·exact .inr ⟨h3.2.1,by rw [h2];exact h3.2.2⟩
theorem Row.on {w:World} {lo hi:Nat} {v:Value} {xs:List Value} (h:Row w lo hi v xs):∃ S,At S (fun w=>Row w lo hi v xs) w∧Within S lo hi:=by
 have hh:=h
 obtain ⟨A,c,rfl,h⟩:=h
 cases xs with
 | nil=>exact ⟨[],⟨hh,fun g hg=>absurd hg (by simp),fun w' _=>Row.nil_ A c⟩,fun g hg=>absurd hg (by simp)⟩
 | cons x r =>
   obtain ⟨a,rfl,h1,h2,h3⟩:=h 0 x rfl
   have hlt:=cell_lt h3
   rw [block_add] at hlt
   refine ⟨[a.block],⟨hh,fun g hg=>by simp at hg;omega,fun w' hk=>⟨_,c,rfl,fun j u hj=>?_⟩⟩,fun g hg=>by simp at hg;omega⟩
   obtain ⟨a',e,k1,k2,k3⟩:=h j u hj
   cases e
   refine ⟨a,rfl,k1,k2,?_⟩
   rw [← k3]
   have hb:=hk a.block (by simp)
   unfold World.cell?
   rw [block_add,hb]
def TakeR (xs ys:List Int) (f:Int) (sh k pl:Nat) (cur:List Int) (br:Int):Prop :=
 DigN cur∧cur.length = xs.length∧nval cur - br * bp pl = nval xs - f * bp sh * nval (ys.take k)
theorem TakeR.start (xs ys:List Int) (f:Int) (sh:Nat) (hd:DigN xs):TakeR xs ys f sh 0 (sh+0) xs 0:=by
 refine ⟨hd,rfl,?_⟩
 rw [List.take_zero,Int.zero_mul]
 show _ = nval xs - f * bp sh * 0
 rw [Int.mul_zero]
theorem TakeR.next {xs ys:List Int} {f:Int} {sh k:Nat} {cur:List Int} {br:Int} (h:TakeR xs ys f sh k (sh+k) cur br) (hk:k < ys.length) (hl:sh+ys.length ≤ xs.length) :
 TakeR xs ys f sh (k+1) (sh+(k+1)) (takeAtL cur (sh+k) (ys[k] * f+br)) (takeAtC cur (sh+k) (ys[k] * f+br)):=by
 obtain ⟨a1,a2,a3⟩:=h
 refine ⟨takeAt_dig a1 _ _,by rw [takeAt_length,a2],?_⟩
 have e2:ys[k] * f * bp (sh+k) = f * bp sh * (bp k * ys[k]):=by
  rw [bp_add]
  simp only [Int.mul_assoc,Int.mul_comm,Int.mul_left_comm]
 rw [show sh+(k+1) = sh+k+1 by omega,takeAt_val cur (sh+k) _ (by omega),take_val_succ ys k hk,Int.add_mul,Int.mul_add,e2]
 omega
theorem TakeR.next2 {xs ys:List Int} {f:Int} {sh k pl:Nat} {cur:List Int} {br:Int} (h:TakeR xs ys f sh k pl cur br) (hl:pl < xs.length) :
 TakeR xs ys f sh k (pl+1) (takeAtL cur pl br) (takeAtC cur pl br):=by
 obtain ⟨a1,a2,a3⟩:=h
 refine ⟨takeAt_dig a1 _ _,by rw [takeAt_length,a2],?_⟩
 rw [takeAt_val cur pl _ (by omega)]
 exact a3
theorem TakeR.room {xs ys:List Int} {f:Int} {sh pl:Nat} {cur:List Int} {br:Int} (h:TakeR xs ys f sh ys.length pl cur br) (hle:f * bp sh * nval ys ≤ nval xs) (hb:0 < br):pl < xs.length:=by
 obtain ⟨a1,a2,a3⟩:=h
 rw [List.take_of_length_le (Nat.le_refl _)] at a3
 rcases Nat.lt_or_ge pl xs.length with h | h
 ·exact h
 ·have h1:=nval_lt cur a1
  have h2:=bp_mono (show cur.length ≤ pl by omega)
  have h3:=bp_pos pl
  have h4:=Int.mul_le_mul_of_nonneg_right (show 1 ≤ br by omega) (show 0 ≤ bp pl by omega)
  omega
theorem TakeR.done {xs ys:List Int} {f:Int} {sh pl:Nat} {cur:List Int} (h:TakeR xs ys f sh ys.length pl cur 0):trimL cur = limbs (nval xs - f * bp sh * nval ys).toNat:=by
 obtain ⟨a1,a2,a3⟩:=h
 rw [List.take_of_length_le (Nat.le_refl _),Int.zero_mul] at a3
 rw [trim_limbs cur a1]
 congr 2
 omega
theorem takeAt_onz {K:NatK} (T:List Nat) (b:Nat) (xs:List Int) (p:Nat) (pz v:Int) (w:World) (hl:xs.length ≤ 1048576) (hp:p < xs.length) (hv0:0 ≤ v) (hv1:v ≤ 1000000000000000000) (hd:DigN xs) (h:NatOnX K T b xs w) (hz:pz = p) :
 Calls Tryd.prog 81 #[.pointer (some ⟨b,0,none⟩),.int .i64 pz,.int .i64 v] w fun e w'=>e = .returned (.int .i64 (takeAtC xs p v))∧KeptX K T b (takeAtL xs p v) w w':=by
 subst hz
 exact takeAt_on T b xs p v w hl hp hv0 hv1 hd h
set_option maxHeartbeats 1000000 in
theorem takeTimes_on {K:NatK} (T S:List Nat) (b:Nat) (xs:List Int) (vy:Value) (ys:List Int) (lo hi:Nat) (f:Int) (sh:Nat) (w:World) (hxl:xs.length ≤ 1048576) (hyl:sh+ys.length ≤ xs.length) (hf0:0 ≤ f) (hf1:f ≤ 999999999)
 (hdx:DigN xs) (hdy:DigN ys) (hle:f * bp sh * nval ys ≤ nval xs) (hST:∀ g ∈ S,g ∉ T) (hr:At S (fun w=>Row w lo hi vy (intsV ys)) w) (h:NatOnX K T b xs w) :
 Calls Tryd.prog 74 #[.pointer (some ⟨b,0,none⟩),vy,.int .i64 f,.int .i64 sh] w fun e w'=>e = .returned (.tuple #[])∧KeptX K T b (limbs (nval xs - f * bp sh * nval ys).toNat) w w':=by
 have HST:=Lib.hid hST
 have HR0:=Lib.hid hr
 obtain ⟨A,c,rfl,_⟩:=hr.here
 rw [intsV_length]
 rw [intsV_length] at HR0
 have HDX:=Lib.hid hdx
 have HDY:=Lib.hid hdy
 have HLE:=Lib.hid hle
 clear hdx hdy hr hST hle
 go_enter Tryd.func74,Tryd.ntmps74
 go_wp2
 go_loopw [8,14] (fun a i wr=>∃ (k:Nat) (cur:List Int) (br:Int),k ≤ ys.length∧i = .int .i64 k∧a = .int .i64 br∧0 ≤ br∧br ≤ 999999999∧Hid (TakeR xs ys f sh k (sh+k) cur br)∧KeptX K T b cur w wr) (fun _ i _=>ys.length - (intOf i).toNat)
 case atStart=>exact ⟨0,xs,0,Nat.zero_le _,rfl,rfl,by omega,by omega,Lib.hid (TakeR.start xs ys f sh HDX.out),h,Chg.refl _ _⟩
 case round =>
  obtain ⟨k,cur,br,hk,rfl,rfl,hc0,hc1,HR,hat⟩:=hrel
  have hcl:cur.length ≤ 1048576:=by rw [HR.out.2.1];exact hxl
  by_cases hlt:k < ys.length
  ·obtain ⟨A',c',e,hA⟩:=(HR0.out.chg hat.2 HST.out).here
   injection e with e1 e2 e3
   subst e1 e3
   clear e2
   obtain ⟨p,rfl,_,hpb,hca⟩:=hA k _ (intsV_at ys k hlt)
   clear hA
   have hdy:=HDY.out.at_ k hlt
   have hd0:=hdy.1
   have hd1:=hdy.2
   have hm0:0 ≤ ys[k] * f:=Int.mul_nonneg hd0 hf0
   have hm1:ys[k] * f ≤ 999999998000000001:=by
    have:=Int.mul_le_mul hd1 hf1 hf0 (by omega)
    omega
   have HN:=Lib.hid (HR.out.next hlt hyl)
   have HCB:=Lib.hid (takeAt_bound HR.out.1 (sh+k) (ys[k] * f+br) (by omega) (by omega))
   clear hdy
   go_wp2_with fail
   refine (takeAt_onz T b cur (sh+k) _ _ _ hcl (by rw [HR.out.2.1];omega) (by omega) (by omega) HR.out.1 hat.1 (by omega)).mono ?_
   rintro e w1 ⟨rfl,hat1⟩
   clear hm0 hm1 hd0 hd1
   go_wp2
   go_roundw
   case rel=>exact ⟨k+1,_,_,by omega,by go_num,rfl,HCB.out.1,HCB.out.2,HN,hat.trans hat1⟩
   case measure=>simp [intOf];omega
  ·obtain rfl:k = ys.length:=by omega
   go_wp2
   go_loopw [8,11] (fun a i wr=>∃ (pl:Nat) (cur:List Int) (br:Int),pl ≤ xs.length∧i = .int .i64 pl∧a = .int .i64 br∧0 ≤ br∧br ≤ 999999999∧Hid (TakeR xs ys f sh ys.length pl cur br)∧KeptX K T b cur w wr) (fun _ i _=>xs.length - (intOf i).toNat)
   case atStart=>exact ⟨sh+ys.length,cur,br,hyl,by go_num,rfl,hc0,hc1,HR,hat⟩
   case round =>
    clear hat HR hc0 hc1 hcl
    obtain ⟨pl,cur,br,hpl,rfl,rfl,hc0,hc1,HR,hat⟩:=hrel
    have hcl:cur.length ≤ 1048576:=by rw [HR.out.2.1];exact hxl
    by_cases hpos:0 < br
    ·have hplm:=HR.out.room HLE.out hpos
     have HN:=Lib.hid (HR.out.next2 hplm)
     have HCB:=Lib.hid (takeAt_bound HR.out.1 pl br (by omega) (by omega))
     go_wp2_with fail
     refine (takeAt_on T b cur pl br _ hcl (by rw [HR.out.2.1];omega) (by omega) (by omega) HR.out.1 hat.1).mono ?_
     rintro e w1 ⟨rfl,hat1⟩
     go_wp2
     go_roundw
     case rel=>exact ⟨pl+1,_,_,by omega,by go_num,rfl,HCB.out.1,HCB.out.2,HN,hat.trans hat1⟩
     case measure=>simp [intOf];omega
    ·obtain rfl:br = 0:=by omega
     have HF:=Lib.hid HR.out.done
     go_wp2_with fail
     refine (natTrim_on T b cur _ hcl hat.1).mono ?_
     rintro e w1 ⟨rfl,hat1⟩
     go_wp2
     go_end0
     exact ⟨rfl,by rw [← HF.out];exact hat.trans hat1⟩
theorem natTake_any {K:NatK} (B b:Nat) (xs:List Int) (vy:Value) (ys:List Int) (lo hi:Nat) (w:World) (hxl:xs.length ≤ 1048576) (hyl:ys.length ≤ xs.length)
 (hdx:DigN xs) (hdy:DigN ys) (hle:nval ys ≤ nval xs) (hhi:hi ≤ B) (hr:Row w lo hi vy (intsV ys)) (h:NatX K B b xs w) :
 Calls Tryd.prog 74 #[.pointer (some ⟨b,0,none⟩),vy,.int .i64 1,.int .i64 0] w fun e w'=>e = .returned (.tuple #[])∧LeftX K B b (limbs (nval xs - nval ys).toNat) w w':=by
 obtain ⟨T,hT,hB⟩:=h.on
 obtain ⟨S,hS,hW⟩:=hr.on
 have e1:1 * bp 0 * nval ys = nval ys:=by show 1 * 1 * nval ys = nval ys;omega
 refine (takeTimes_on T S b xs vy ys lo hi 1 0 w hxl (by omega) (by omega) (by omega) hdx hdy (by omega) (fun g hg hm=>by have:=hB g hm;have:=(hW g hg).2;omega) hS hT).mono ?_
 rintro e w' ⟨rfl,hk⟩
 rw [e1] at hk
 exact ⟨rfl,hk.left h.size hB⟩
theorem add_limbs {a b zs:List Int} (oa:natOkB a = true) (ob:natOkB b = true) (hd:DigN zs) (hv:nval zs = nval a+1 * bp 0 * nval b)
 (hl:zs.length = lenM a.length b.length 0 ∨ (zs.length = lenM a.length b.length 0+1∧bp (lenM a.length b.length 0) ≤ nval zs)):zs = limbs (nval a+nval b).toNat:=by
 have hv2:nval zs = nval a+nval b:=by
  have:bp 0 = 1:=rfl
  rw [this,Int.one_mul,Int.one_mul] at hv
  exact hv
 have na:=nval_nonneg a (natOk_parts oa).1
 have nb:=nval_nonneg b (natOk_parts ob).1
 rw [← hv2]
 apply limbs_of_ge zs hd
 intro h0
 rcases hl with hl | ⟨hl,hg⟩
 ·unfold lenM at hl
  by_cases hb:b.length = 0
  ·rw [if_pos hb] at hl
   have:=ok_ge oa (by omega)
   rw [hl]
   omega
  ·rw [if_neg hb] at hl
   have h2:=ok_ge ob (by omega)
   by_cases hab:b.length ≤ a.length
   ·have h1:=ok_ge oa (by omega)
    rw [hl,show max a.length (0+b.length) = a.length by omega]
    omega
   ·rw [hl,show max a.length (0+b.length) = b.length by omega]
    omega
 ·rw [hl,show lenM a.length b.length 0+1 - 1 = lenM a.length b.length 0 by omega]
  exact hg
theorem new_own {w w1 w2:World} {xs ys:List Int} {v:Value} (h:OwnPost w.heap.size ys w1 (.returned v) w2) (hb:Below w.heap.size w w1) (e:xs = ys):NewInts xs w (.returned v) w2:=by
 subst e
 obtain ⟨rfl,v',e1,ho⟩:=h
 cases e1
 exact ⟨_,rfl,ho,hb⟩
theorem addN_ok {a b:List Int} (oa:natOkB a = true) (ob:natOkB b = true):addN a b = natRes (nval a+nval b):=by unfold addN;rw [if_pos ⟨oa,ob⟩]
theorem subN_ok {a b:List Int} (oa:natOkB a = true) (ob:natOkB b = true):subN a b = natRes (nval a - nval b):=by unfold subN;rw [if_pos ⟨oa,ob⟩]
theorem mulN_ok {a b:List Int} (oa:natOkB a = true) (ob:natOkB b = true):mulN a b = natRes (nval a * nval b):=by unfold mulN;rw [if_pos ⟨oa,ob⟩]
theorem cmpN_neg {a b:List Int} (oa:natOkB a = true) (ob:natOkB b = true) (h:nval a < nval b):cmpN a b = -1:=by unfold cmpN;rw [if_pos ⟨oa,ob⟩];exact cmp_lt h
theorem cmpN_nn {a b:List Int} (oa:natOkB a = true) (ob:natOkB b = true) (h:nval b ≤ nval a):¬ cmpN a b < 0:=by
 unfold cmpN
 rw [if_pos ⟨oa,ob⟩]
 unfold cmpI
 rw [if_neg (by omega)]
 split <;> omega
theorem lens_of_le {a b:List Int} (oa:natOkB a = true) (ob:natOkB b = true) (h:nval b ≤ nval a):b.length ≤ a.length:=by
 rcases Nat.lt_or_ge a.length b.length with hl | hl
 ·have:=nval_short a b (natOk_parts oa).1 (natOk_parts ob).1 hl (natOk_parts ob).2.2
  omega
 ·exact hl
theorem limbs_sub_len {a b:List Int} (oa:natOkB a = true) (ob:natOkB b = true) (h:nval b ≤ nval a):(limbs (nval a - nval b).toNat).length ≤ 50:=by
 have h1:=subL_val a b 0 (natOk_parts oa).1 (natOk_parts ob).1 (lens_of_le oa ob h) (by omega) (by omega) (by omega)
 have h2:=trim_limbs _ h1.2.1
 have h3:=trimL_length (subL a b 0)
 have h4:=(natOk_parts oa).2.1
 rw [h2,h1.1,Int.sub_zero] at h3
 omega
def MulR (a b:List Int) (i:Nat) (cur:List Int):Prop :=
 DigN cur∧nval cur = nval (a.take i) * nval b∧cur.length ≤ i+b.length∧(cur.length ≤ i+b.length - 1 ∨ bp (cur.length - 1) ≤ nval cur)∧(i = 0→cur = [])∧(b.length = 0→cur = [])
theorem MulR.start (a b:List Int):MulR a b 0 []:=by
 refine ⟨(fun d hd=>by cases hd),?_,by simp,.inl (by simp),fun _=>rfl,fun _=>rfl⟩
 rw [List.take_zero]
 show (0:Int) = 0 * nval b
 rw [Int.zero_mul]
theorem MulR.next {a b cur zs:List Int} {i:Nat} (h:MulR a b i cur) (hi:i < a.length) (hd:DigN zs) (hv:nval zs = nval cur+a[i] * bp i * nval b)
 (hl:zs.length = lenM cur.length b.length i ∨ (zs.length = lenM cur.length b.length i+1∧bp (lenM cur.length b.length i) ≤ nval zs)):MulR a b (i+1) zs:=by
 obtain ⟨h1,h2,h3,h4,h5,h6⟩:=h
 have hval:nval zs = nval (a.take (i+1)) * nval b:=by
  rw [hv,h2,take_val_succ a i hi,Int.add_mul,Int.mul_comm a[i]]
 unfold lenM at hl
 by_cases hb:b.length = 0
 ·have hb0:b = []:=List.eq_nil_of_length_eq_zero hb
  have hc0:=h6 hb
  subst hb0
  subst hc0
  rw [if_pos hb] at hl
  have hz:nval zs = 0:=by rw [hval];exact Int.mul_zero _
  have hzs:zs = []:=by
   rcases hl with hl | ⟨_,hg⟩
   ·exact List.eq_nil_of_length_eq_zero hl
   ·have:=bp_pos (([]:List Int).length)
    omega
  subst hzs
  exact ⟨hd,hval,by simp,.inl (by simp),fun _=>rfl,fun _=>rfl⟩
 ·rw [if_neg hb,show max cur.length (i+b.length) = i+b.length by omega] at hl
  refine ⟨hd,hval,by omega,?_,fun h=>absurd h (by omega),fun h=>absurd h hb⟩
  rcases hl with hl | ⟨hl,hg⟩
  ·exact .inl (by omega)
  ·right
   rw [hl,show i+b.length+1 - 1 = i+b.length by omega]
   exact hg
theorem MulR.done {a b cur:List Int} (h:MulR a b a.length cur) (oa:natOkB a = true) (ob:natOkB b = true):cur = limbs (nval a * nval b).toNat:=by
 obtain ⟨h1,h2,h3,h4,h5,h6⟩:=h
 rw [List.take_of_length_le (Nat.le_refl _)] at h2
 rw [← h2]
 apply limbs_of_ge cur h1
 intro h0
 rcases h4 with h4 | h4
 ·have ha:0 < a.length:=by
   rcases Nat.eq_zero_or_pos a.length with e | e
   ·rw [h5 e] at h0;simp at h0
   ·exact e
  have hb:0 < b.length:=by
   rcases Nat.eq_zero_or_pos b.length with e | e
   ·rw [h6 e] at h0;simp at h0
   ·exact e
  have ga:=ok_ge oa ha
  have gb:=ok_ge ob hb
  have pa:=bp_pos (a.length - 1)
  have pb:=bp_pos (b.length - 1)
  have hm:=Int.mul_le_mul ga gb (by omega) (by omega)
  rw [← bp_add,← h2] at hm
  have:=bp_mono (show cur.length - 1 ≤ a.length - 1+(b.length - 1) by omega)
  omega
 ·exact h4
set_option maxHeartbeats 1000000 in
theorem implNatMul_any (va vb:Value) (a b:List Int) (la ha lb hb:Nat) (w:World) (hal:a.length ≤ 1048576) (hbl:b.length ≤ 1048576) (hha:ha ≤ w.heap.size) (hhb:hb ≤ w.heap.size)
 (hra:Row w la ha va (intsV a)) (hrb:Row w lb hb vb (intsV b)) :
 Calls Tryd.prog 61 #[va,vb] w (NewInts (mulN a b) w):=by
 by_cases oa:natOkB a = true
 ·by_cases ob:natOkB b = true
  ·have HN:=Lib.hid (mulN_ok oa ob)
   have OA:=Lib.hid oa
   have OB:=Lib.hid ob
   have pa:=(natOk_parts oa).2.1
   have pb:=(natOk_parts ob).2.1
   have ra:=hra
   obtain ⟨A,ca,rfl,hA⟩:=hra
   rw [intsV_length] at ra ⊢
   have HA:=Lib.hid hA
   clear hA
   go_enter Tryd.func61,Tryd.ntmps61
   go_wp2_with fail
   refine (implNatOk_same _ a la ha _ (by omega) ra).mono ?_
   rintro e w' ⟨rfl,rfl⟩
   rw [oa]
   go_wp2_with fail
   refine (implNatOk_same vb b lb hb _ (by omega) hrb).mono ?_
   rintro e w' ⟨rfl,rfl⟩
   rw [ob]
   clear oa ob
   go_wp2
   go_loopw [18] (fun i wr=>∃ (k:Nat) (cur:List Int),k ≤ a.length∧i = .int .i64 k∧Hid (MulR a b k cur)∧NatAt w.heap.size w.heap.size cur wr∧Below w.heap.size w wr) (fun i _=>a.length - (intOf i).toNat)
   case atStart=>exact ⟨0,[],Nat.zero_le _,rfl,Lib.hid (MulR.start a b),NatAt.new (Nat.le_refl _) (World.ownsRow_nil _ _ _ _),(Below.refl _ _).alloc (Nat.le_refl _) _⟩
   case round =>
    obtain ⟨k,cur,hk,rfl,HM,hat,hb1⟩:=hrel
    have hcl:cur.length ≤ 100:=by have:=HM.out.2.2.1;omega
    by_cases hlt:k < a.length
    ·obtain ⟨p,rfl,_,hpb,hca⟩:=HA.out k _ (intsV_at a k hlt)
     have hca':wr.cell? (p.add k) = some (.int .i64 a[k]):=(hb1.cell (by rw [block_add];omega)).trans hca
     have hda:=(natOk_parts OA.out).1.at_ k hlt
     have hd0:=hda.1
     have hd1:=hda.2
     clear hca hda
     go_wp2_with fail
     refine (addTimes_any w.heap.size w.heap.size cur vb b lb hb a[k] k _ (by omega) (by omega) (by omega) hd0 hd1 HM.out.1 (natOk_parts OB.out).1 hhb (hrb.below hb1 hhb) hat).mono ?_
     rintro e w2 ⟨rfl,zs,⟨hat2,hb2⟩,hd,hv,hl⟩
     have HM2:=Lib.hid (HM.out.next hlt hd hv hl)
     clear hd hv hl hd0 hd1
     go_wp2
     go_roundw
     case rel=>exact ⟨k+1,zs,by omega,by go_num,HM2,hat2,hb1.trans hb2⟩
     case measure=>simp [intOf];omega
    ·obtain rfl:k = a.length:=by omega
     have HZ:=Lib.hid (HM.out.done OA.out OB.out)
     go_wp2_with fail
     refine (natResult_any w.heap.size w.heap.size cur _ (by omega) hat).mono ?_
     rintro e w3 hpost
     obtain ⟨rfl,v3,rfl,ho⟩:=hpost
     go_wp2
     go_ret
     exact ⟨_,rfl,by rw [HN.out];unfold natRes;rw [← HZ.out];exact ho,hb1⟩
  ·have ob':natOkB b = false:=by simpa using ob
   have HN:=Lib.hid (show mulN a b = [] by unfold mulN;rw [if_neg (fun h=>ob h.2)])
   clear ob
   go_enter Tryd.func61,Tryd.ntmps61
   go_wp2_with fail
   refine (implNatOk_same va a la ha _ (by omega) hra).mono ?_
   rintro e w' ⟨rfl,rfl⟩
   rw [oa]
   go_wp2_with fail
   refine (implNatOk_same vb b lb hb _ (by omega) hrb).mono ?_
   rintro e w' ⟨rfl,rfl⟩
   rw [ob']
   go_wp2
   go_ret
   rw [HN.out]
   exact new_nil (Below.refl _ _)
 ·have oa':natOkB a = false:=by simpa using oa
  have HN:=Lib.hid (show mulN a b = [] by unfold mulN;rw [if_neg (fun h=>oa h.1)])
  clear oa
  go_enter Tryd.func61,Tryd.ntmps61
  go_wp2_with fail
  refine (implNatOk_same va a la ha _ (by omega) hra).mono ?_
  rintro e w' ⟨rfl,rfl⟩
  rw [oa']
  go_wp2
  go_ret
  rw [HN.out]
  exact new_nil (Below.refl _ _)
@[reducible] def intK (n:Bool):NatK:=⟨[.bool n],59,by decide⟩
theorem NatX.below {K:NatK} {B b:Nat} {xs:List Int} {w w':World} (h:NatX K B b xs w) (hb:Below w.heap.size w w'):NatX K B b xs w':=by
 have hlt:=h.lt
 obtain ⟨hB,v,hk,ho,hne⟩:=h
 exact ⟨hB,v,(hb.block b hlt).trans hk,own_below ho hb,hne⟩
def NewInteger (x:SI) (w:World) (e:Ending) (w':World):Prop :=
 ∃ b,e = .returned (.pointer (some ⟨b,0,none⟩))∧NatX (intK x.1) w.heap.size b x.2 w'∧Below w.heap.size w w'
theorem NatX.sign {m:Bool} {B b:Nat} {xs:List Int} {w:World} (h:NatX (intK m) B b xs w) (n:Bool):NatX (intK n) B b xs (w.setCell ⟨b,1,none⟩ (.bool n)):=by
 obtain ⟨hB,v,hk,ho,hne⟩:=h
 refine ⟨hB,v,?_,own_stays ho fun i hi=>Below.heap_setCell _ _ _ _ (fun e=>hne (by rw [hi,e])),hne⟩
 simp [World.setCell,Array.getElem?_modify,hk]
def NewSB (B:Nat) (x:SI) (w:World) (e:Ending) (w':World):Prop:=∃ u,e = .returned (.agg #[.bool x.1,u])∧w'.ownsRow B 3 1 u x.2.length (intsV x.2)∧Below w.heap.size w w'
set_option maxHeartbeats 1000000 in
theorem signed_any (n:Bool) (B b:Nat) (xs:List Int) (w:World) (hl:xs.length ≤ 1048576) (h:NatX (intK n) B b xs w) :
 Calls Tryd.prog 44 #[.pointer (some ⟨b,0,none⟩)] w (NewSB B (mkS n xs) w):=by
 have hcl:(capL xs).length ≤ 50:=by
  unfold capL
  split
  ·simp
  ·omega
 have HR:=Lib.hid (show mkS n xs = (n && decide (0 < (capL xs).length),capL xs) from rfl)
 have hbb:=below_al (Below.refl w.heap.size w) (.cells #[.bool false,.slice none 0 0] 26)
 have kr:=box_new w #[.bool false,.slice none 0 0] 26
 have hx:NatX (intK n) B b xs (w.alloc (.cells #[.bool false,.slice none 0 0] 26)):=h.below hbb
 obtain ⟨W0,hW0⟩:∃ W0,W0 = w.alloc (.cells #[.bool false,.slice none 0 0] 26):=⟨_,rfl⟩
 rw [← hW0] at hx hbb kr
 have HW:=Lib.hid hW0
 clear hW0
 have cn:W0.cell? ⟨b,1,none⟩ = some (.bool n):=by
  obtain ⟨_,v,hb,_⟩:=hx
  exact NatX.cell1 hb 0 rfl
 have cz0:=kr.here.cell 0 _ rfl
 have cz1:=kr.here.cell 1 _ rfl
 have fz0:=Lib.frozen_of_heap kr.here 0
 have fz1:=Lib.frozen_of_heap kr.here 1
 have HK:=Lib.hid kr
 clear kr h
 cases n
 all_goals
  go_enter Tryd.func44,Tryd.ntmps44
  go_wp2_with fail
  rw [← HW.out]
  refine (natResult_any B b xs _ hl hx).mono ?_
  rintro e w1 ⟨rfl,v1,rfl,o1⟩
  obtain ⟨A1,c1,rfl⟩:=own_len o1
  have HR2:=HR.out
  generalize capL xs = ys at *
  have HO:=Lib.hid o1
  have HRR:=Lib.hid HR2
  clear o1 hx HR2 HR
  go_wp2
  refine bodyPost_ret (v:=.agg #[.bool _,.slice A1 ys.length c1]) (by simp [results,Tryd.results44,go_sem,cz0,cz1];rfl) rfl ?_
  rw [HRR.out]
  have hne:=Lib.ownBlock_ne HO.out HK.out.here (by decide)
  refine ⟨.slice A1 ys.length c1,?_,own_stays HO.out fun i hi=>?_,below_set2 hbb (Nat.le_refl _)⟩
  ·first | rfl | simp
  ·have:i ≠ w.heap.size:=fun e=>hne (by rw [hi,e])
   exact (Below.heap_setCell _ _ _ _ this).trans (Below.heap_setCell _ _ _ _ this)
theorem natOk_trim {xs:List Int} (h:natOkB xs = true):trimL xs = xs:=by
 rw [ok_trimL h,← natOk_limbs h]
theorem capL_short {xs:List Int} (h:xs.length ≤ 50):capL xs = xs:=by unfold capL;rw [if_neg (by omega)]
theorem capL_res (b:Bool) (n:Int):mkS b (natRes n) = mkS b (limbs n.toNat):=by
 have e:capL (natRes n) = capL (limbs n.toNat):=by
  unfold natRes
  by_cases h:(limbs n.toNat).length ≤ 50
  ·rw [capL_short h,capL_short h]
  ·rw [show capL (limbs n.toNat) = [] by unfold capL;rw [if_pos (by omega)]];rfl
 unfold mkS
 rw [e]
theorem natRes_short (n:Int):(natRes n).length ≤ 50:=by
 unfold natRes capL
 split
 ·simp
 ·omega
theorem mulN_short (a b:List Int):(mulN a b).length ≤ 50:=by unfold mulN;split;exact natRes_short _;simp
theorem mulS_mk {x y:SI} (okx:okS x = true) (oky:okS y = true):mkS (x.1 != y.1) (mulN x.2 y.2) = mulS x y:=by
 have px:=okS_parts okx
 have py:=okS_parts oky
 have h0x:=nval_ok px.1
 have h0y:=nval_ok py.1
 have h0:=Int.mul_nonneg h0x h0y
 unfold mulS
 rw [if_pos ⟨okx,oky⟩,mulN_ok px.1 py.1,capL_res,mkS_limbs]
 congr 1
 unfold valS
 rw [Int.toNat_of_nonneg h0]
 cases x.1 <;> cases y.1 <;> simp [Int.neg_mul,Int.mul_neg]
theorem NatX.early {n:Bool} {g:Nat} {u c0 c1:Value} {xs:List Int} {W:World} {B0 B:Nat} (hb:BoxAt g #[c0,c1] 59 W) (o:W.ownsRow B 3 1 u xs.length (intsV xs)) (hB:B0 ≤ B) (hg:B0 ≤ g) :
 NatX (intK n) B0 g xs ((W.setCell ⟨g,0,none⟩ u).setCell ⟨g,1,none⟩ (.bool n)):=by
 have hne:=Lib.ownBlock_ne o hb (by decide)
 have hb':W.heap[g]? = some (.cells #[c0,c1] 59 (0,0)):=hb
 refine ⟨hg,u,by simp [World.setCell,Array.getElem?_modify,hb'],own_low (own_stays o fun i hi=>?_) hB,hne⟩
 have:i ≠ g:=fun e=>hne (by rw [hi,e])
 exact (Below.heap_setCell _ _ _ _ this).trans (Below.heap_setCell _ _ _ _ this)
theorem NatX.late {n:Bool} {u:Value} {xs:List Int} {W:World} {B0 B:Nat} (o:W.ownsRow B 3 1 u xs.length (intsV xs)) (hB:B0 ≤ B) (hW:B0 ≤ W.heap.size):NatX (intK n) B0 W.heap.size xs (W.alloc (.cells #[u,.bool n] 59)) :=
 NatX.new (K:=intK n) hW (own_low o hB)
set_option maxHeartbeats 4000000 in
theorem implIntMul_any (vx vy:Value) (x y:SI) (w:World) (hlx:x.2.length ≤ 1048576) (hly:y.2.length ≤ 1048576) (hx:OwnS vx x w) (hy:OwnS vy y w) :
 Calls Tryd.prog 60 #[vx,vy] w (NewS (mulS x y) w):=by
 obtain ⟨ux,rfl,hox⟩:=hx
 obtain ⟨uy,rfl,hoy⟩:=hy
 obtain ⟨Ax,cx,rfl⟩:=own_len hox
 obtain ⟨Ay,cy,rfl⟩:=own_len hoy
 obtain ⟨W0,hW0⟩:∃ W0,W0 = ((w.alloc (.cells #[.bool x.1,.slice Ax x.2.length cx] 26)).alloc (.cells #[.bool y.1,.slice Ay y.2.length cy] 26)).alloc (.cells #[.bool false,.slice none 0 0] 26):=⟨_,rfl⟩
 have hbb:Below w.heap.size w W0:=by rw [hW0];exact below_al (below_al (below_al (Below.refl _ _) _) _) _
 have h3:=alloc3 w (.cells #[.bool x.1,.slice Ax x.2.length cx] 26) (.cells #[.bool y.1,.slice Ay y.2.length cy] 26) (.cells #[.bool false,.slice none 0 0] 26)
 rw [← hW0] at h3
 have kx:At [w.heap.size] (BoxAt w.heap.size #[.bool x.1,.slice Ax x.2.length cx] 26) W0:=box_at h3.1
 have ky:At [w.heap.size+1] (BoxAt (w.heap.size+1) #[.bool y.1,.slice Ay y.2.length cy] 26) W0:=box_at h3.2.1
 have kr:At [w.heap.size+1+1] (BoxAt (w.heap.size+1+1) #[.bool false,.slice none 0 0] 26) W0:=box_at h3.2.2.1
 have ox:=own_below hox hbb
 have oy:=own_below hoy hbb
 have rdx:=(OwnS.mk (x:=x) (ownI_of ox)).rd
 have HW:=Lib.hid hW0
 have cx0:=kx.here.cell 0 _ rfl
 have cx1:=kx.here.cell 1 _ rfl
 clear h3 hox hoy hW0
 by_cases okx:okS x = true
 ·go_enter Tryd.func60,Tryd.ntmps60
  go_wp2_with fail
  rw [← HW.out]
  refine (implIntOk_any _ x _ hlx rdx).mono ?_
  rintro e w1 ⟨rfl,b1⟩
  rw [okx]
  have bb1:=Below.next hbb b1
  replace kx:=kx.below b1
  replace ky:=ky.below b1
  replace kr:=kr.below b1
  replace ox:=own_below ox b1
  replace oy:=own_below oy b1
  have cy0:=ky.here.cell 0 _ rfl
  have cy1:=ky.here.cell 1 _ rfl
  clear rdx cx0 cx1
  go_wp2_with fail
  refine (implIntOk_any _ y w1 hly (OwnS.mk (x:=y) (ownI_of oy)).rd).mono ?_
  rintro e w2 ⟨rfl,b2⟩
  have bb2:=Below.next bb1 b2
  replace kx:=kx.below b2
  replace ky:=ky.below b2
  replace kr:=kr.below b2
  replace ox:=own_below ox b2
  replace oy:=own_below oy b2
  clear cy0 cy1
  by_cases oky:okS y = true
  ·rw [oky]
   have HV:=Lib.hid (mulS_mk okx oky)
   have cx0:=kx.here.cell 0 _ rfl
   have cx1:=kx.here.cell 1 _ rfl
   have cy0:=ky.here.cell 0 _ rfl
   have cy1:=ky.here.cell 1 _ rfl
   have HOX:=Lib.hid (show ∀ W,Below w2.heap.size w2 W→Row W 0 W.heap.size (.slice Ax x.2.length cx) (intsV x.2) from fun W hb=>(ownI_of (own_below ox hb)).row)
   have HOY:=Lib.hid (show ∀ W,Below w2.heap.size w2 W→Row W 0 W.heap.size (.slice Ay y.2.length cy) (intsV y.2) from fun W hb=>(ownI_of (own_below oy hb)).row)
   have HKR:=Lib.hid kr
   have hlt2:w.heap.size+1+1 < w2.heap.size:=kr.lt _ (by simp)
   clear okx oky ox oy kr
   have HKX:=Lib.hid kx
   have HKY:=Lib.hid ky
   have HMB:=Lib.hid (Lib.hid (show mkS (x.1 != y.1) (mulN x.2 y.2) = mulS x y from HV.out))
   have hml:(mulN x.2 y.2).length ≤ 50:=mulN_short x.2 y.2
   clear kx ky b1 b2 HV
   obtain ⟨n,hn,hm⟩:∃ n,(x.1 != y.1) = n∧(x.1 == y.1) = !n:=⟨_,rfl,by cases x.1 <;> cases y.1 <;> rfl⟩
   have HN:=Lib.hid hn
   cases n
   all_goals
    first | rw [Bool.not_false] at hm | rw [Bool.not_true] at hm
    go_upto_region 3 with fail
    go_cut [5] (fun s wx=>∃ b,s = .pointer (some ⟨b,0,none⟩)∧Hid (NatX (intK (x.1 != y.1)) w2.heap.size b (mulN x.2 y.2) wx)∧Below w2.heap.size w2 wx)
    case first =>
     have HB0:=Lib.hid (show Below w2.heap.size w2 w2.drew from (Below.refl _ _).drew)
     have KL:=Lib.hid (show ∀ W,Below w2.heap.size w2 W→W.cell? ⟨w.heap.size,0,none⟩ = some (.bool x.1)∧W.cell? ⟨w.heap.size,1,none⟩ = some (.slice Ax x.2.length cx)∧W.cell? ⟨w.heap.size+1,0,none⟩ = some (.bool y.1)∧W.cell? ⟨w.heap.size+1,1,none⟩ = some (.slice Ay y.2.length cy)∧Hid (Below w2.heap.size w2 W) from
      fun W hb=>⟨(HKX.out.below hb).here.cell 0 _ rfl,(HKX.out.below hb).here.cell 1 _ rfl,(HKY.out.below hb).here.cell 0 _ rfl,(HKY.out.below hb).here.cell 1 _ rfl,Lib.hid hb⟩)
     clear cx0 cx1 cy0 cy1
     go_region_held3 (fun W=>W.cell? ⟨w.heap.size,0,none⟩ = some (.bool x.1)∧W.cell? ⟨w.heap.size,1,none⟩ = some (.slice Ax x.2.length cx)∧W.cell? ⟨w.heap.size+1,0,none⟩ = some (.bool y.1)∧W.cell? ⟨w.heap.size+1,1,none⟩ = some (.slice Ay y.2.length cy)∧Hid (Below w2.heap.size w2 W))
      ((refine KL.out _ ?_;(first | exact HBf.out | exact HB0.out | exact below_al HBf.out _ | exact below_al HB0.out _ | exact below_set2 HBf.out HB0.out.size | fail)))
      (first
        | (go_at_call 61;(have hBB:=(‹_∧_∧_∧_∧Hid (Below w2.heap.size w2 _)›).2.2.2.2);(with_reducible refine (implNatMul_any _ _ x.2 y.2 0 _ 0 _ _ hlx hly (Nat.le_refl _) (Nat.le_refl _) (HOX.out _ hBB.out) (HOY.out _ hBB.out)).mono ?_);rintro e wf ⟨uf,rfl,of,bf⟩;have HBf:=Lib.hid (Below.next hBB.out bf);have HBS:=Lib.hid hBB.out.size;(try have hbxf:At [w2.heap.size] (BoxAt w2.heap.size #[.slice none 0 0,.bool false] 59) wf:=At.below (box_new w2.drew _ _) bf);obtain ⟨Af,cf,rfl⟩:=own_len of;(try (have cz0:=hbxf.here.cell 0 _ rfl;have cz1:=hbxf.here.cell 1 _ rfl;have fz0:=Lib.frozen_of_heap hbxf.here 0;have fz1:=Lib.frozen_of_heap hbxf.here 1));clear hBB))
     all_goals (go_wp2_with fail;go_meet;first | exact ⟨_,rfl,Lib.hid (by rw [HN.out];exact NatX.late of HBS.out HBf.out.size),below_al HBf.out _⟩ | exact ⟨_,rfl,Lib.hid (by rw [HN.out];exact NatX.early hbxf.here of HBS.out (Nat.le_refl _)),below_set2 HBf.out (Nat.le_refl _)⟩)
    rename World=>w3
    obtain ⟨b,rfl,HX,b3⟩:=hcut
    have bb3:=Below.next bb2 b3
    have kr3:=HKR.out.below b3
    clear cx0 cx1 cy0 cy1
    go_wp2_with fail
    refine (signed_any _ _ b _ _ (by omega) HX.out).mono ?_
    rw [HMB.out.out]
    rintro e w4 ⟨u4,rfl,o4,b4⟩
    generalize mulS x y = z at *
    obtain ⟨A4,c4,rfl⟩:=own_len o4
    have bb4:=Below.next bb3 b4
    have kr4:=kr3.below b4
    have cz0:=kr4.here.cell 0 _ rfl
    have cz1:=kr4.here.cell 1 _ rfl
    have fz0:=Lib.frozen_of_heap kr4.here 0
    have fz1:=Lib.frozen_of_heap kr4.here 1
    have HO:=Lib.hid o4
    have HK:=Lib.hid kr4
    clear o4 kr3 kr4 HX HMB
    go_wp2
    refine bodyPost_ret (v:=.agg #[.bool _,.slice A4 _ c4]) (by simp [results,Tryd.results60,go_sem,cz0,cz1];exact ⟨rfl,rfl⟩) rfl ?_
    exact newS_ret HK.out.here HO.out bb2.size (by omega) bb4
  ·have oky':okS y = false:=by simpa using oky
   have HV:=Lib.hid (show mulS x y = zeroS by unfold mulS;rw [if_neg (fun h=>oky h.2)])
   rw [oky']
   have cz0:=kr.here.cell 0 _ rfl
   have cz1:=kr.here.cell 1 _ rfl
   have fz0:=Lib.frozen_of_heap kr.here 0
   have fz1:=Lib.frozen_of_heap kr.here 1
   clear oky kx ky kr ox oy
   go_wp2
   refine bodyPost_ret (v:=.agg #[.bool false,.slice none 0 0]) (by simp [results,Tryd.results60,go_sem,cz0,cz1]) rfl ?_
   rw [HV.out]
   exact newS_zero (below_set2 bb2 (by omega))
 ·have okx':okS x = false:=by simpa using okx
  have HV:=Lib.hid (show mulS x y = zeroS by unfold mulS;rw [if_neg (fun h=>okx h.1)])
  clear okx
  go_enter Tryd.func60,Tryd.ntmps60
  go_wp2_with fail
  rw [← HW.out]
  refine (implIntOk_any _ x _ hlx rdx).mono ?_
  rintro e w1 ⟨rfl,b1⟩
  rw [okx']
  have bb1:=Below.next hbb b1
  replace kr:=kr.below b1
  have cz0:=kr.here.cell 0 _ rfl
  have cz1:=kr.here.cell 1 _ rfl
  have fz0:=Lib.frozen_of_heap kr.here 0
  have fz1:=Lib.frozen_of_heap kr.here 1
  clear kx ky kr rdx ox oy cx0 cx1
  go_wp2
  refine bodyPost_ret (v:=.agg #[.bool false,.slice none 0 0]) (by simp [results,Tryd.results60,go_sem,cz0,cz1]) rfl ?_
  rw [HV.out]
  exact newS_zero (below_set2 bb1 (by omega))
theorem At.belowB {S:List Nat} {φ:World→Prop} {w w':World} {B:Nat} (h:At S φ w) (hb:Below B w w') (hS:∀ g ∈ S,g < B):At S φ w':=h.move (fun g hg=>hb.block g (hS g hg)) hb.size
theorem add_mk {P Q:SI} (okp:okS P = true) (okq:okS Q = true) (hs:P.1 = Q.1):mkS P.1 (limbs (nval P.2+nval Q.2).toNat) = ofZ (valS P+valS Q):=by
 have h0p:=nval_ok (okS_parts okp).1
 have h0q:=nval_ok (okS_parts okq).1
 rw [mkS_limbs]
 congr 1
 unfold valS
 rw [← hs]
 split <;> omega
theorem sub_mk {P Q:SI} (okp:okS P = true) (okq:okS Q = true) (hs:¬ P.1 = Q.1) (hle:nval Q.2 ≤ nval P.2):mkS P.1 (limbs (nval P.2 - nval Q.2).toNat) = ofZ (valS P+valS Q):=by
 have h0p:=nval_ok (okS_parts okp).1
 have h0q:=nval_ok (okS_parts okq).1
 rw [mkS_limbs]
 congr 1
 unfold valS
 cases hp:P.1 <;> cases hq:Q.1 <;> simp_all <;> omega
theorem addS_ok {x y:SI} (okx:okS x = true) (oky:okS y = true):addS x y = ofZ (valS x+valS y):=by unfold addS;rw [if_pos ⟨okx,oky⟩]
theorem swap_box {g:Nat} {a b:Value} {c0 c1:Value} {W:World} (h:BoxAt g #[c0,c1] 26 W):BoxAt g #[a,b] 26 ((W.setCell ⟨g,0,none⟩ a).setCell ⟨g,1,none⟩ b):=by
 have h':W.heap[g]? = some (.cells #[c0,c1] 26 (0,0)):=h
 simp [BoxAt,World.setCell,Array.getElem?_modify,h']
theorem NatX.drew1 {K:NatK} {B b:Nat} {xs:List Int} {w:World} (h:NatX K B b xs w):NatX K B b xs w.drew:=h
theorem Row.drew1 {w:World} {lo hi:Nat} {v:Value} {xs:List Value} (h:Row w lo hi v xs):Row w.drew lo hi v xs:=h
theorem natAdd_any {K:NatK} (B b:Nat) (xs:List Int) (vy:Value) (ys:List Int) (lo hi:Nat) (w:World) (oa:natOkB xs = true) (ob:natOkB ys = true) (hhi:hi ≤ B) (hr:Row w lo hi vy (intsV ys)) (h:NatX K B b xs w) :
 Calls Tryd.prog 70 #[.pointer (some ⟨b,0,none⟩),vy,.int .i64 1,.int .i64 0] w fun e w'=>e = .returned (.tuple #[])∧LeftX K B b (limbs (nval xs+nval ys).toNat) w w':=by
 have pa:=natOk_parts oa
 have pb:=natOk_parts ob
 refine (addTimes_any B b xs vy ys lo hi 1 0 w (by omega) (by omega) (by omega) (by omega) (by omega) pa.1 pb.1 hhi hr h).mono ?_
 rintro e w' ⟨rfl,zs,hl,hd,hv,hlen⟩
 rw [← add_limbs oa ob hd hv hlen]
 exact ⟨rfl,hl⟩
theorem nval_b50 {xs:List Int} (h:natOkB xs = true):nval xs < bp 50:=by
 have p:=natOk_parts h
 have h1:=nval_lt xs p.1
 have h2:=bp_mono p.2.1
 omega
theorem sum_short {xs ys:List Int} (oa:natOkB xs = true) (ob:natOkB ys = true):(limbs (nval xs+nval ys).toNat).length ≤ 1048576:=by
 have h1:=nval_b50 oa
 have h2:=nval_b50 ob
 have h3:=nval_ok oa
 have h4:=nval_ok ob
 have e:bp 51 = 1000000000 * bp 50:=rfl
 have h5:=bp_pos 50
 have h6:=limbs_length_le (nval xs+nval ys).toNat 51 (by rw [Int.toNat_of_nonneg (by omega)];omega)
 omega
theorem dif_short {xs ys:List Int} (oa:natOkB xs = true) (ob:natOkB ys = true) (hle:nval ys ≤ nval xs):(limbs (nval xs - nval ys).toNat).length ≤ 1048576:=by
 have h1:=nval_b50 oa
 have h4:=nval_ok ob
 have h6:=limbs_length_le (nval xs - nval ys).toNat 50 (by rw [Int.toNat_of_nonneg (by omega)];omega)
 omega
theorem below_low {B C:Nat} {w w1 w2:World} (h:Below B w w1) (k:Below C w1 w2) (hB:B ≤ C):Below B w w2 :=
 ⟨k.os.trans h.os,k.tape.trans h.tape,k.output.trans h.output,Nat.le_trans h.size k.size,fun i hi=>(k.block i (by omega)).trans (h.block i hi)⟩
theorem negS_len (x:SI):(negS x).2.length ≤ 1048576:=by
 have:=(natOk_parts (okS_parts (negS_ok x)).1).2.1
 omega
theorem sub_add (x:SI) {y:SI} (oky:okS y = true):subS x y = addS x (negS y):=by
 unfold subS addS
 by_cases okx:okS x = true
 ·rw [if_pos ⟨okx,oky⟩,if_pos ⟨okx,negS_ok y⟩,negS_val oky];rfl
 ·rw [if_neg (fun h=>okx h.1),if_neg (fun h=>okx h.1)]
theorem int_step {m n:Int} {out:List Int} {f:Nat} (hz:¬ m = 0) (hol:out.length+f ≤ 3) (hmf:m.natAbs < 1000000000 ^ f) (he:out ++ limbs m.natAbs = limbs n.natAbs) (hq:(m.tdiv 1000000000).natAbs = m.natAbs / 1000000000) :
 ∃ g:Nat,(out ++ [((m.natAbs % 1000000000:Nat):Int)]).length+g ≤ 3∧(m.tdiv 1000000000).natAbs < 1000000000 ^ g∧out ++ [((m.natAbs % 1000000000:Nat):Int)] ++ limbs (m.tdiv 1000000000).natAbs = limbs n.natAbs:=by
 cases f with
 | zero=>simp at hmf;omega
 | succ g =>
   refine ⟨g,by simp;omega,?_,?_⟩
   ·rw [hq]
    rw [Nat.pow_succ,Nat.mul_comm] at hmf
    exact Nat.div_lt_of_lt_mul hmf
   ·rw [hq,← he,limbs_pos m.natAbs (by omega),List.append_assoc]
    rfl
theorem intOf_mk (n:Int) {s:Bool} (h:decide (n < 0) = s):mkS s (limbs n.natAbs) = ofZ n:=by
 rw [mkS_limbs]
 congr 1
 subst h
 by_cases hn:n < 0
 ·rw [if_pos (by simpa using hn)];omega
 ·rw [if_neg (by simpa using hn)];omega
set_option maxHeartbeats 1000000 in
theorem implIntOf_any (n:Int) (w:World) (h0:-9223372036854775808 ≤ n) (h1:n ≤ 9223372036854775807) :
 Calls Tryd.prog 28 #[.int .i64 n] w (NewS (ofZ n) w):=by
 obtain ⟨i0,hi,hz0,hz1,hz2⟩:=info_parts intInfo
 have hbb:Below w.heap.size w (w.alloc (.cells #[.bool false,.slice none 0 0] 26)):=below_al (Below.refl _ _) _
 have kr:=box_new w #[.bool false,.slice none 0 0] 26
 obtain ⟨W0,hW0⟩:∃ W0,W0 = w.alloc (.cells #[.bool false,.slice none 0 0] 26):=⟨_,rfl⟩
 rw [← hW0] at hbb kr
 have hW0s:W0.heap.size = w.heap.size+1:=by rw [hW0];simp
 have HW:=Lib.hid hW0
 clear hW0
 obtain ⟨s,hs,hs2⟩:∃ s,decide (n < 0) = s∧Hid (decide (n < 0) = s):=⟨_,rfl,Lib.hid rfl⟩
 go_enter Tryd.func28,Tryd.ntmps28
 go_wp2_with fail
 obtain ⟨W1,hW1⟩:∃ W1,W1 = W0.alloc (.cells #[.slice none 0 0,.bool s] 59):=⟨_,rfl⟩
 have hx0:NatX (intK s) (w.heap.size+1) W0.heap.size [] W1:=by rw [hW1];exact NatX.late (n:=s) (W:=W0) (B0:=w.heap.size+1) (xs:=[]) (World.ownsRow_nil W0 (w.heap.size+1) 3 1) (Nat.le_refl _) (by omega)
 have hb0:Below W0.heap.size W0 W1:=by rw [hW1];exact below_al (Below.refl _ _) _
 rw [hW0s] at hx0
 go_loopw [0] (fun a wr=>∃ (m:Int) (out:List Int) (f:Nat),-9223372036854775808 ≤ m∧m ≤ 9223372036854775807∧out.length+f ≤ 3∧m.natAbs < 1000000000 ^ f∧a = .int .i64 m∧Hid (out ++ limbs m.natAbs = limbs n.natAbs)∧Hid (NatX (intK s) (w.heap.size+1) (w.heap.size+1) out wr)∧Hid (Below (w.heap.size+1) W0 wr)) (fun a _=>(intOf a).natAbs)
 case atStart =>
  rw [← HW.out,← hW1]
  exact ⟨n,[],3,h0,h1,by simp,by omega,rfl,Lib.hid rfl,Lib.hid hx0,Lib.hid (by rw [hW0s] at hb0;exact hb0)⟩
 case round =>
  obtain ⟨m,out,f,hm0,hm1,hol,hmf,rfl,HE,HX,HB⟩:=hrel
  by_cases hz:m = 0
  ·subst hz
   have hout:out = limbs n.natAbs:=by
    have e:=HE.out
    rwa [show (0:Int).natAbs = 0 from rfl,limbs_none,List.append_nil] at e
   subst hout
   have bb1:Below w.heap.size w wr:=below_low hbb HB.out (by omega)
   have kr1:=kr.belowB HB.out (fun g hg=>by simp at hg;omega)
   go_wp2_with fail
   refine (signed_any _ _ _ _ _ (by omega) HX.out).mono ?_
   rw [intOf_mk n hs2.out]
   rintro e w4 ⟨u4',rfl,o4,b4⟩
   generalize ofZ n = z at *
   obtain ⟨A4,c4,rfl⟩:=own_len o4
   have bb4:=Below.next bb1 b4
   have kr4:=kr1.below b4
   have cz0:=kr4.here.cell 0 _ rfl
   have cz1:=kr4.here.cell 1 _ rfl
   have fz0:=Lib.frozen_of_heap kr4.here 0
   have fz1:=Lib.frozen_of_heap kr4.here 1
   have HO:=Lib.hid o4
   have HK:=Lib.hid kr4
   clear o4 kr1 kr4 kr HX HB HE
   go_wp2
   refine bodyPost_ret (v:=.agg #[.bool _,.slice A4 _ c4]) (by simp [results,Tryd.results28,go_sem,cz0,cz1];exact ⟨rfl,rfl⟩) rfl ?_
   exact newS_ret HK.out.here HO.out (by omega) (Nat.le_refl _) bb4
  ·have hzb:(m == 0) = false:=by rw [beq_eq_false_iff_ne];exact hz
   have hzb2:(m != 0) = true:=by rw [bne_iff_ne];exact hz
   obtain ⟨hB,u,hbk,hown,hne⟩:=HX.out
   have hlt:=HX.out.lt
   obtain ⟨A,c,rfl⟩:=own_len hown
   have c1:wr.cell? ⟨w.heap.size+1,0,none⟩ = some (.slice A out.length c):=NatX.cell hbk
   have hra:(m.tmod 1000000000).natAbs = m.natAbs % 1000000000:=Int.natAbs_tmod m 1000000000
   have hqa:(m.tdiv 1000000000).natAbs = m.natAbs / 1000000000:=Int.natAbs_tdiv m 1000000000
   have hr0:-999999999 ≤ m.tmod 1000000000:=by omega
   have hr1:m.tmod 1000000000 ≤ 999999999:=by omega
   have HR:=Lib.hid hra
   have HQ:=Lib.hid hqa
   have HBK:=Lib.hid hbk
   have HNE:=Lib.hid hne
   clear hra hqa hbk hne
   go_wp2_with (at_builtin;refine wpList_append_own _ rfl (.tmp 16) (.tmp 21) 22 rfl (w.heap.size+1) 3 i0 (.int .i64 0) 1 8 Tryd.underlying22 hi hz0 hz1 hz2 rfl (by decide) _ _ _ rfl (own_alloc hown _) ⟨wr.heap.size,0,none⟩ 1 1 [.int .i64 _] rfl rfl (one_new _ _ _) ?c2 ?c3 ?c4 ?c5 ?_)
   any_goals (first | rfl | (unfold maxLen;omega) | omega)
   all_goals
    intro v1 w1 hown1 hg1 _
    have hdig:Hid (w1.ownsRow (w.heap.size+1) 3 1 v1 (out ++ [((m.natAbs % 1000000000:Nat):Int)]).length (intsV (out ++ [((m.natAbs % 1000000000:Nat):Int)]))):=Lib.hid (by
     have hra:=HR.out
     first
      | (have e:max (m.tmod 1000000000) (-m.tmod 1000000000) = ((m.natAbs % 1000000000:Nat):Int):=by omega
         rw [e] at hown1
         simpa [intsV] using hown1)
      | (have e:-m.tmod 1000000000 = ((m.natAbs % 1000000000:Nat):Int):=by omega
         rw [e] at hown1
         simpa [intsV] using hown1)
      | (have e:m.tmod 1000000000 = ((m.natAbs % 1000000000:Nat):Int):=by omega
         rw [e] at hown1
         simpa [intsV] using hown1))
    have hb2:w1.heap[w.heap.size+1]? = some (.cells (.slice A out.length c :: (intK s).rest).toArray (intK s).ty (0,0)):=by
     rw [hg1.block _ (by simp;omega) (fun e=>HNE.out e.symm),Below.heap_alloc _ _ _ hlt]
     exact HBK.out
    have d1:w1.cell? ⟨w.heap.size+1,0,none⟩ = some (.slice A out.length c):=NatX.cell hb2
    have f1:w1.frozen? ⟨w.heap.size+1,0,none⟩ = false:=Lib.frozen_of_heap hb2 0
    have hb3:Below (w.heap.size+1) W0 w1:=(HB.out.alloc (by omega) _).grown hg1 (by simp;omega) (fun k hk=>(own_lt hown hk).1)
    obtain ⟨A1,cc1,rfl⟩:=own_len hdig.out
    have HP:=Lib.hid (NatX.put (K:=intK s) hB hb2 hdig.out)
    have HB3:=Lib.hid (hb3.setCell (p:=⟨w.heap.size+1,0,none⟩) (Nat.le_refl _) (.slice A1 (out ++ [((m.natAbs % 1000000000:Nat):Int)]).length cc1))
    have hlen:(out ++ [((m.natAbs % 1000000000:Nat):Int)]).length = out.length+1:=by simp
    rw [hlen] at HP HB3
    have hqb:-9223372036854775808 ≤ m.tdiv 1000000000∧m.tdiv 1000000000 ≤ 9223372036854775807∧(m.tdiv 1000000000).natAbs < m.natAbs:=by have:=HQ.out;omega
    have HQB:=Lib.hid hqb
    have HN:=Lib.hid (int_step hz hol hmf HE.out HQ.out)
    clear hb2 hb3 hown hown1 hg1 hdig c1
    clear hr0 hr1 HR hmf hqb hlen
    go_wp2_with fail
    obtain ⟨g,h1,h2,h3⟩:=HN.out
    exact ⟨⟨_,_,g,HQB.out.1,HQB.out.2.1,h1,h2,rfl,Lib.hid h3,Lib.hid HP.out,HB3⟩,by simpa [intOf] using HQB.out.2.2⟩
end Go.Proofs.YtipbdpdmefcofaaDoor
namespace Go.Proofs
open Go.Shelf
def Tryd.lays134_ren:Go.Shelf.Ren:=⟨fun | 134=>82 | 129=>83 | n=>n,fun | 53=>99 | 3=>3 | 4=>4 | 46=>103 | 5=>5 | 9=>9 | n=>n,fun | n=>n⟩
theorem Tryd.lays134:Go.Proofs.Lays.n134 Tryd.prog Tryd.lays134_ren:={
 mixed:=by kernel_rfl
 f129:=Tryd.func83.trans (congrArg some (by kernel_rfl))
 f134:=Tryd.func82.trans (congrArg some (by kernel_rfl))
 t3:=Tryd.underlying3
 a3:=Tryd.isAgg3
 z3:=Tryd.sizeOf3
 v3:=Tryd.zeroValue3
 t4:=Tryd.underlying4
 a4:=Tryd.isAgg4
 z4:=Tryd.sizeOf4
 v4:=Tryd.zeroValue4
 t5:=Tryd.underlying5
 a5:=Tryd.isAgg5
 z5:=Tryd.sizeOf5
 v5:=Tryd.zeroValue5
 t9:=Tryd.underlying9
 a9:=Tryd.isAgg9
 z9:=Tryd.sizeOf9
 v9:=Tryd.zeroValue9
 t46:=Tryd.underlying103
 a46:=Tryd.isAgg103
 z46:=Tryd.sizeOf103
 v46:=Tryd.zeroValue103
 t53:=Tryd.underlying99
 a53:=Tryd.isAgg99
 z53:=Tryd.sizeOf99
 v53:=Tryd.zeroValue99 }
theorem Tryd.bits_LeadingZeros64 (x:Int) (w:World) (h0:0 ≤ x) (h1:x ≤ 18446744073709551615) :
 Calls Tryd.prog 82 #[.int .u64 x] w fun e w'=>e = .returned (.int .i64 (64 - (Lib.bitLen x.toNat:Int)))∧w' = w:=Any.bits_LeadingZeros64 Tryd.lays134 x w h0 h1
def Tryd.lays264_ren:Go.Shelf.Ren:=⟨fun | 264=>78 | n=>n,fun | 53=>99 | 46=>103 | n=>n,fun | n=>n⟩
theorem Tryd.lays264:Go.Proofs.Lays.n264 Tryd.prog Tryd.lays264_ren:={
 mixed:=by kernel_rfl
 f264:=Tryd.func78.trans (congrArg some (by kernel_rfl))
 t46:=Tryd.underlying103
 a46:=Tryd.isAgg103
 z46:=Tryd.sizeOf103
 v46:=Tryd.zeroValue103
 t53:=Tryd.underlying99
 a53:=Tryd.isAgg99
 z53:=Tryd.sizeOf99
 v53:=Tryd.zeroValue99 }
open Go.RowKit Go.Lib in
theorem Tryd.bits_Mul64 (x y:Nat) (hx:x < 18446744073709551616) (hy:y < 18446744073709551616) (w:World) :
 Calls Tryd.prog 78 #[.int .u64 x,.int .u64 y] w fun e w'=>e = .returned (.tuple #[.int .u64 ((x * y / 18446744073709551616:Nat):Int),.int .u64 ((x * y % 18446744073709551616:Nat):Int)])∧w' = w:=Any.bits_Mul64 Tryd.lays264 x y hx hy w
end Go.Proofs
namespace Go.Proofs.YtipbdpdmefcofaaDoor
open Go.RowKit
theorem lenAux_lt:∀ (f x:Nat),x < 2 ^ f→x < 2 ^ Lib.bitLenAux f x
 | 0,x,h=>h
 | f+1,x,h=>by
   unfold Lib.bitLenAux
   by_cases h0:x = 0
   ·rw [if_pos h0,h0];decide
   ·rw [if_neg h0,Nat.add_comm,Nat.pow_succ]
    have:=lenAux_lt f (x / 2) (by rw [Nat.pow_succ] at h;omega)
    omega
theorem lenAux_ge:∀ (f x:Nat),0 < x→2 ^ Lib.bitLenAux f x ≤ 2 * x
 | 0,x,h=>by show 1 ≤ _;omega
 | f+1,x,h=>by
   unfold Lib.bitLenAux
   rw [if_neg (by omega),Nat.add_comm,Nat.pow_succ]
   by_cases h1:x / 2 = 0
   ·have e:Lib.bitLenAux f (x / 2) = 0:=by
     cases f with
     | zero=>rfl
     | succ f=>unfold Lib.bitLenAux;rw [if_pos h1]
    rw [e]
    omega
   ·have:=lenAux_ge f (x / 2) (by omega)
    omega
theorem lenAux_le:∀ (f x:Nat),Lib.bitLenAux f x ≤ f
 | 0,_=>Nat.le_refl _
 | f+1,x=>by
   unfold Lib.bitLenAux
   split
   ·omega
   ·have:=lenAux_le f (x / 2)
    omega
theorem shifted {y:Nat} (h0:0 < y) (h:y < 18446744073709551616):Lib.bitLen y ≤ 64∧64 - Lib.bitLen y < 64∧9223372036854775808 ≤ y * 2 ^ (64 - Lib.bitLen y)∧y * 2 ^ (64 - Lib.bitLen y) < 18446744073709551616:=by
 have h1:=lenAux_lt 64 y h
 have h2:=lenAux_ge 64 y h0
 have h3:=lenAux_le 64 y
 change y < 2 ^ Lib.bitLen y at h1
 change 2 ^ Lib.bitLen y ≤ 2 * y at h2
 change Lib.bitLen y ≤ 64 at h3
 have h4:Lib.bitLen y ≠ 0:=by
  intro e
  rw [e] at h1
  omega
 have e:2 ^ Lib.bitLen y * 2 ^ (64 - Lib.bitLen y) = 18446744073709551616:=by
  rw [← Nat.pow_add,show Lib.bitLen y+(64 - Lib.bitLen y) = 64 by omega]
 have hp:0 < 2 ^ (64 - Lib.bitLen y):=Nat.pow_pos (by omega)
 refine ⟨h3,by omega,?_,?_⟩
 ·have:=Nat.mul_le_mul_right (2 ^ (64 - Lib.bitLen y)) h2
  rw [e,Nat.mul_assoc] at this
  omega
 ·have:=(Nat.mul_lt_mul_right hp).2 h1
  rw [e] at this
  exact this
def DigQ (A B u n q r:Nat):Prop:=q * A+r = u∧(u * 4294967296+n) / (A * 4294967296+B) ≤ q∧q ≤ 4294967297
theorem digQ_mul (A B u q r:Nat) (h:q * A+r = u):q * (A * 4294967296+B)+r * 4294967296 = u * 4294967296+q * B:=by
 rw [← h,Nat.mul_add,Nat.add_mul,← Nat.mul_assoc]
 omega
theorem DigQ.start {A B u n:Nat} (hA:2147483648 ≤ A) (hB:B < 4294967296) (hn:n < 4294967296) (hu:u < A * 4294967296+B):DigQ A B u n (u / A) (u % A):=by
 refine ⟨by rw [Nat.mul_comm];exact Nat.div_add_mod u A,?_,?_⟩
 ·apply Nat.le_of_lt_succ
  rw [Nat.div_lt_iff_lt_mul (by omega)]
  have h1:=Nat.div_add_mod u A
  have h2:=Nat.mod_lt u (show 0 < A by omega)
  have h3:(u / A).succ * (A * 4294967296+B) = A * (u / A) * 4294967296+A * 4294967296+(u / A).succ * B:=by
   rw [Nat.mul_add,Nat.succ_mul,← Nat.mul_assoc,Nat.mul_comm (u / A) A]
  rw [h3]
  omega
 ·apply Nat.le_of_lt_succ
  rw [Nat.div_lt_iff_lt_mul (by omega)]
  omega
theorem lt_shift {z r u x n:Nat} (e:z+r = u+x) (h:r+n < x):u+n < z:=by omega
theorem DigQ.down {A B u n q r:Nat} (h:DigQ A B u n q r) (hu:u < A * 4294967296+B) (hn:n < 4294967296) (ht:4294967296 ≤ q ∨ r * 4294967296+n < q * B):0 < q∧DigQ A B u n (q - 1) (r+A):=by
 obtain ⟨h1,h2,h3⟩:=h
 have hq:0 < q:=by
  rcases Nat.eq_zero_or_pos q with h0 | h0
  ·subst h0
   rcases ht with ht | ht
   ·omega
   ·rw [Nat.zero_mul] at ht;omega
  ·exact h0
 have e:=digQ_mul A B u q r h1
 have hlt:(u * 4294967296+n) / (A * 4294967296+B) < q:=by
  rw [Nat.div_lt_iff_lt_mul (by omega)]
  rcases ht with ht | ht
  ·have h5:=Nat.mul_le_mul_right (A * 4294967296+B) ht
   generalize q * (A * 4294967296+B) = z at *
   omega
  ·exact lt_shift e ht
 refine ⟨hq,?_,by omega,by omega⟩
 obtain ⟨p,rfl⟩:∃ p,q = p+1:=⟨q - 1,by omega⟩
 rw [Nat.add_sub_cancel]
 rw [Nat.succ_mul] at h1
 omega
theorem DigQ.done {A B u n q r:Nat} (h:DigQ A B u n q r) (hA:2147483648 ≤ A) (ht:q * B ≤ r * 4294967296+n):q = (u * 4294967296+n) / (A * 4294967296+B):=by
 obtain ⟨h1,h2,_⟩:=h
 apply Nat.le_antisymm _ h2
 rw [Nat.le_div_iff_mul_le (by omega)]
 have e:=digQ_mul A B u q r h1
 omega
theorem DigQ.past {B n q r:Nat} (hB:B < 4294967296) (hq:q ≤ 4294967296) (hr:4294967296 ≤ r):q * B ≤ r * 4294967296+n:=by
 have h1:q * B ≤ 4294967296 * 4294967295:=Nat.mul_le_mul hq (by omega)
 omega
theorem DigQ.rest {A B u n q r:Nat} (h:DigQ A B u n q r):r = u - q * A:=by have:=h.1;omega
theorem two_digits (U m1 m0 Y:Nat) (hY:0 < Y) :
 ((U * 4294967296+m1) * 4294967296+m0) / Y = (U * 4294967296+m1) / Y * 4294967296+((U * 4294967296+m1) % Y * 4294967296+m0) / Y:=by
 have e:=Nat.div_add_mod (U * 4294967296+m1) Y
 have e2:(U * 4294967296+m1) * 4294967296+m0 = (U * 4294967296+m1) % Y * 4294967296+m0+Y * ((U * 4294967296+m1) / Y * 4294967296):=by
  have:Y * ((U * 4294967296+m1) / Y * 4294967296) = Y * ((U * 4294967296+m1) / Y) * 4294967296:=(Nat.mul_assoc _ _ _).symm
  rw [this]
  generalize Y * ((U * 4294967296+m1) / Y) = z at *
  omega
 rw [e2,Nat.add_mul_div_left _ _ hY,Nat.add_comm]
theorem digit_lt {U n Y:Nat} (hU:U < Y) (hn:n < 4294967296):(U * 4294967296+n) / Y < 4294967296:=by
 rw [Nat.div_lt_iff_lt_mul (by omega)]
 have:4294967296 * (U+1) ≤ 4294967296 * Y:=Nat.mul_le_mul_left _ hU
 omega
theorem shift_parts {hi lo s Y:Nat} (hs:s < 64) (hl:lo < 18446744073709551616) (y:Nat) (hY:Y = y * 2 ^ s) (hh:hi < y) :
 (hi * 18446744073709551616+lo) / y = ((hi * 2 ^ s+lo / 2 ^ (64 - s)) * 18446744073709551616+lo * 2 ^ s % 18446744073709551616) / Y∧lo / 2 ^ (64 - s) < 2 ^ s∧hi * 2 ^ s+lo / 2 ^ (64 - s) < Y:=by
 have hp:0 < 2 ^ s:=Nat.pow_pos (by omega)
 have hp2:0 < 2 ^ (64 - s):=Nat.pow_pos (by omega)
 have e64:2 ^ s * 2 ^ (64 - s) = 18446744073709551616:=by rw [← Nat.pow_add,show s+(64 - s) = 64 by omega]
 have hlt:lo / 2 ^ (64 - s) < 2 ^ s:=by rw [Nat.div_lt_iff_lt_mul hp2,e64];exact hl
 refine ⟨?_,hlt,?_⟩
 ·have e:(hi * 2 ^ s+lo / 2 ^ (64 - s)) * 18446744073709551616+lo * 2 ^ s % 18446744073709551616 = (hi * 18446744073709551616+lo) * 2 ^ s:=by
   have e1:lo * 2 ^ s / 18446744073709551616 = lo / 2 ^ (64 - s):=by
    rw [← e64,Nat.mul_comm (2 ^ s) (2 ^ (64 - s)),Nat.mul_div_mul_right _ _ hp]
   have e2:=Nat.div_add_mod (lo * 2 ^ s) 18446744073709551616
   rw [e1] at e2
   have e3:(hi * 18446744073709551616+lo) * 2 ^ s = hi * 2 ^ s * 18446744073709551616+lo * 2 ^ s:=by rw [Nat.add_mul,Nat.mul_right_comm]
   rw [e3]
   omega
  rw [e,hY,Nat.mul_div_mul_right _ _ hp]
 ·rw [hY]
  have:(hi+1) * 2 ^ s ≤ y * 2 ^ s:=Nat.mul_le_mul_right _ hh
  rw [Nat.add_mul] at this
  omega
theorem or_add {a b s:Nat} (h:b < 2 ^ s) (ha:a * 2 ^ s < 18446744073709551616) (hb:b < 18446744073709551616):bits .or .u64 ((a * 2 ^ s:Nat):Int) (b:Int) = ((a * 2 ^ s+b:Nat):Int):=by
 rw [bits_or_u64_nat _ _ ha hb]
 congr 1
 rw [Nat.mul_comm,← Nat.two_pow_add_eq_or_of_lt h]
theorem and_low {a:Nat} (h:a < 18446744073709551616):bits .and .u64 (a:Int) 4294967295 = ((a % 4294967296:Nat):Int):=by
 have h1:=bits_and_u64_nat a 4294967295 h (by omega)
 rw [show a &&& 4294967295 = a % 4294967296 from Nat.and_two_pow_sub_one_eq_mod a 32] at h1
 exact h1
theorem wrapU (a:Nat):IntKind.u64.wrap (a:Int) = ((a % 18446744073709551616:Nat):Int):=by rw [IntKind.wrap_u64];omega
theorem wrapL (a:Nat) (h:a < 18446744073709551616):IntKind.u64.wrap (a:Int) = (a:Int):=by rw [IntKind.wrap_u64];omega
theorem wrapD {a b c:Nat} (hc:c ≤ a) (h:a - c < 18446744073709551616) (hb:b = a - c):IntKind.u64.wrap (IntKind.u64.wrap (a:Int) - IntKind.u64.wrap (c:Int)) = (b:Int):=by
 rw [IntKind.wrap_u64,IntKind.wrap_u64,IntKind.wrap_u64]
 omega
theorem wrapT {U m z v:Nat} (h:z+v = U * 4294967296+m) (hv:v < 18446744073709551616) :
 IntKind.u64.wrap (IntKind.u64.wrap (IntKind.u64.wrap ((U:Int) * 4294967296)+(m:Int)) - IntKind.u64.wrap (z:Int)) = (v:Int):=by
 rw [IntKind.wrap_u64,IntKind.wrap_u64,IntKind.wrap_u64,IntKind.wrap_u64]
 omega
def QuoPost (q:Nat) (w:World) (e:Ending) (w':World):Prop:=(∃ r,e = .returned (.tuple #[.int .u64 q,.int .u64 r]))∧∃ n,w.drewN n = w'
set_option maxHeartbeats 400000 in
theorem div64_small (lo y:Nat) (h0:0 < y) (hl:lo < 18446744073709551616) (hy:y < 18446744073709551616) (w:World) :
 Calls Tryd.prog 80 #[.int .u64 0,.int .u64 lo,.int .u64 y] w (QuoPost (lo / y) w):=by
 have hq:=Nat.div_le_self lo y
 have e1:IntKind.u64.wrap ((lo:Int) / (y:Int)) = ((lo / y:Nat):Int):=by
  rw [← Int.natCast_ediv,wrapL _ (by omega)]
 have hy0:¬ ((y:Int) = 0):=by omega
 have hy1:¬ (y = 0):=by omega
 go_enter Tryd.func80,Tryd.ntmps80
 go_wp2
 go_quiet (fail)
 go_wp2
 go_ret2
 exact ⟨⟨_,rfl⟩,_,rfl⟩
def DigS (A B u n:Nat) (q r:Value):Prop:=∃ qn rn:Nat,q = .int .u64 qn∧r = .int .u64 rn∧rn < 4294967296∧Hid (DigQ A B u n qn rn)
set_option maxHeartbeats 2000000 in
theorem div64_big (hi lo y:Nat) (hh:hi < y) (h0:0 < hi) (hl:lo < 18446744073709551616) (hy:y < 18446744073709551616) (w:World) :
 Calls Tryd.prog 80 #[.int .u64 hi,.int .u64 lo,.int .u64 y] w (QuoPost ((hi * 18446744073709551616+lo) / y) w):=by
 obtain ⟨hb1,hs,hY0,hY1⟩:=shifted (y:=y) (by omega) hy
 have hsn:(64:Int) - (Lib.bitLen y:Int) = ((64 - Lib.bitLen y:Nat):Int):=by omega
 have HSN:=Lib.hid hsn
 clear hsn
 generalize 64 - Lib.bitLen y = s at *
 obtain ⟨hp1,hp2,hp3⟩:=shift_parts hs hl y rfl hh
 have hor:bits .or .u64 ((hi * 2 ^ s:Nat):Int) ((lo / 2 ^ (64 - s):Nat):Int) = ((hi * 2 ^ s+lo / 2 ^ (64 - s):Nat):Int):=or_add hp2 (by have:=Nat.zero_le (lo / 2 ^ (64 - s));have:=Nat.le_add_right (hi * 2 ^ s) (lo / 2 ^ (64 - s));exact Nat.lt_of_le_of_lt this (Nat.lt_trans hp3 hY1)) (by have:=Nat.div_le_self lo (2 ^ (64 - s));omega)
 have e1:IntKind.u64.wrap ((y:Int) * 2 ^ s) = ((y * 2 ^ s:Nat):Int):=by
  rw [show (y:Int) * 2 ^ s = ((y * 2 ^ s:Nat):Int) by push_cast;rfl,wrapL _ hY1]
 have e3:IntKind.u64.wrap ((hi:Int) * 2 ^ s) = ((hi * 2 ^ s:Nat):Int):=by
  rw [show (hi:Int) * 2 ^ s = ((hi * 2 ^ s:Nat):Int) by push_cast;rfl,wrapL _ (Nat.lt_of_le_of_lt (Nat.le_add_right (hi * 2 ^ s) (lo / 2 ^ (64 - s))) (Nat.lt_trans hp3 hY1))]
 have e4:(lo:Int) / 2 ^ (64 - s) = ((lo / 2 ^ (64 - s):Nat):Int):=by push_cast;rfl
 have e5:IntKind.u64.wrap ((lo:Int) * 2 ^ s) = ((lo * 2 ^ s % 18446744073709551616:Nat):Int):=by
  rw [show (lo:Int) * 2 ^ s = ((lo * 2 ^ s:Nat):Int) by push_cast;rfl,wrapU]
 have hm:lo * 2 ^ s % 18446744073709551616 < 18446744073709551616:=Nat.mod_lt _ (by omega)
 rw [← e4] at hor
 have HP:=Lib.hid hp1
 clear hp1 hp2 e4
 generalize hi * 2 ^ s+lo / 2 ^ (64 - s) = U at *
 generalize lo * 2 ^ s % 18446744073709551616 = M at *
 generalize y * 2 ^ s = Y at *
 generalize hi * 2 ^ s = H at *
 have a1:=and_low hY1
 have a2:=and_low hm
 obtain ⟨A,hA⟩:∃ A,A = Y / 4294967296:=⟨_,rfl⟩
 obtain ⟨B,hB⟩:∃ B,B = Y % 4294967296:=⟨_,rfl⟩
 obtain ⟨m1,hm1⟩:∃ A,A = M / 4294967296:=⟨_,rfl⟩
 obtain ⟨m0,hm0⟩:∃ A,A = M % 4294967296:=⟨_,rfl⟩
 have hAB:Y = A * 4294967296+B:=by omega
 have hMM:M = m1 * 4294967296+m0:=by omega
 have hA0:2147483648 ≤ A:=by omega
 have hA1:A < 4294967296:=by omega
 have hB1:B < 4294967296:=by omega
 have hm11:m1 < 4294967296:=by omega
 have hm01:m0 < 4294967296:=by omega
 have a3:(Y:Int) / 4294967296 = (A:Int):=by omega
 have a4:(M:Int) / 4294967296 = (m1:Int):=by omega
 rw [← hB] at a1
 rw [← hm0] at a2
 have HY:=Lib.hid hAB
 have HM:=Lib.hid hMM
 clear hA hB hm1 hm0 hAB hMM hY0
 have hU64:U < 18446744073709551616:=by omega
 have hq1:U / A < 18446744073709551616:=Nat.lt_of_le_of_lt (Nat.div_le_self _ _) hU64
 have hq2:U % A < 4294967296:=by have:=Nat.mod_lt U (show 0 < A by omega);omega
 have e6:IntKind.u64.wrap ((U:Int) / (A:Int)) = ((U / A:Nat):Int):=by
  rw [← Int.natCast_ediv,wrapL _ hq1]
 have e7:IntKind.u64.wrap ((U:Int) - IntKind.u64.wrap (((U / A:Nat):Int) * (A:Int))) = ((U % A:Nat):Int):=by
  have h1:=Nat.div_add_mod U A
  rw [show ((U / A:Nat):Int) * (A:Int) = ((A * (U / A):Nat):Int) by push_cast;rw [Int.mul_comm],← wrapL U hU64]
  exact wrapD (by omega) (by omega) (by omega)
 have HD1:Hid (DigQ A B U m1 (U / A) (U % A)):=Lib.hid (DigQ.start hA0 hB1 hm11 (by rw [← HY.out];exact hp3))
 have HUY:=Lib.hid hp3
 clear hp3 hq1
 generalize U / A = q1 at *
 generalize U % A = r1 at *
 have hd1:=digit_lt HUY.out hm11
 have HT:=Lib.hid (show (hi * 18446744073709551616+lo) / y = (U * 4294967296+m1) / Y * 4294967296+((U * 4294967296+m1) % Y * 4294967296+m0) / Y by
  rw [HP.out,HM.out,show U * 18446744073709551616+(m1 * 4294967296+m0) = (U * 4294967296+m1) * 4294967296+m0 by omega]
  exact two_digits U m1 m0 Y (by omega))
 have hvY:=Nat.mod_lt (U * 4294967296+m1) (show 0 < Y by omega)
 have f1:IntKind.u64.wrap (IntKind.u64.wrap (IntKind.u64.wrap ((U:Int) * 4294967296)+(m1:Int)) - IntKind.u64.wrap ((((U * 4294967296+m1) / Y:Nat):Int) * (Y:Int))) = (((U * 4294967296+m1) % Y:Nat):Int):=by
  have h1:=Nat.div_add_mod (U * 4294967296+m1) Y
  rw [show (((U * 4294967296+m1) / Y:Nat):Int) * (Y:Int) = ((Y * ((U * 4294967296+m1) / Y):Nat):Int) by rw [Int.mul_comm,← Int.natCast_mul]]
  exact wrapT h1 (by omega)
 have hvD:(U * 4294967296+m1) / Y = (U * 4294967296+m1) / (A * 4294967296+B):=by rw [← HY.out]
 obtain ⟨D1,hD1⟩:∃ D1,D1 = (U * 4294967296+m1) / Y:=⟨_,rfl⟩
 obtain ⟨V,hV⟩:∃ V,V = (U * 4294967296+m1) % Y:=⟨_,rfl⟩
 rw [← hD1] at hd1 HT f1 hvD
 rw [← hV] at HT hvY f1
 have HV1:=Lib.hid hvD
 clear hvD hD1 hV
 have hA2:¬ ((A:Int) = 0):=by omega
 go_enter Tryd.func80,Tryd.ntmps80
 go_wp2_with fail
 refine (Tryd.bits_LeadingZeros64 (y:Int) _ (by omega) (by omega)).mono ?_
 rintro e w1 ⟨rfl,rfl⟩
 rw [Int.toNat_natCast,HSN.out]
 go_upto_block 0 with fail
 go_cut [15] from 67 to 85 (fun q wx=>q = .int .u64 (D1:Int)∧wx = w1)
 case first =>
  go_wp2_with fail
  go_loop [15,16] (DigS A B U m1) (fun q _=>(intOf q).toNat)
  case atStart=>exact ⟨q1,r1,rfl,rfl,hq2,HD1⟩
  case round =>
   clear e1 e3 hor a1 a2 a3 a4 e5 e6 e7 hY1 hh h0 hl hs hb1 hm hU64 hq2 f1 hvY hd1
   obtain ⟨q,r,rfl,rfl,hr,HD⟩:=hrel
   have hqm:(q:Int) ≤ 4294967297:=by have:=HD.out.2.2;omega
   have hr':(r:Int) < 4294967296:=by omega
   clear hr
   by_cases hbig:4294967296 ≤ q
   ·have HN:=Lib.hid (HD.out.down (by rw [← HY.out];exact HUY.out) hm11 (.inl hbig))
    have hbig':(4294967296:Int) ≤ (q:Int):=by omega
    clear hbig
    have hq0:(1:Int) ≤ (q:Int):=by have:=HN.out.1;omega
    by_cases hr2:4294967296 ≤ r+A
    ·have HF:Hid (Value.int IntKind.u64 ((q:Int) - 1) = Value.int IntKind.u64 (D1:Int)):=Lib.hid (by
      have h1:=HN.out.2.done hA0 (DigQ.past hB1 (by omega) hr2)
      rw [← HV1.out] at h1
      rw [← h1]
      congr 1
      omega)
     obtain ⟨R2,hR2⟩:∃ R2:Nat,(r:Int)+(A:Int) = (R2:Int):=⟨r+A,by omega⟩
     have hr3:(4294967296:Int) ≤ (R2:Int):=by omega
     clear hr2
     go_wp2_with fail
     go_meet
     exact ⟨HF.out,rfl⟩
    ·have HM2:Hid (DigS A B U m1 (.int .u64 ((q:Int) - 1)) (.int .u64 ((r+A:Nat):Int))):=Lib.hid ⟨q - 1,r+A,by congr 1;omega,rfl,by omega,Lib.hid HN.out.2⟩
     obtain ⟨R2,hR2⟩:∃ R2:Nat,(r:Int)+(A:Int) = (R2:Int):=⟨r+A,by omega⟩
     have hr3:decide ((4294967296:Int) ≤ (R2:Int)) = false:=decide_eq_false (by omega)
     clear hr2
     go_wp2_with fail
     go_round
     case rel=>rw [show (r+A:Nat) = R2 by omega] at HM2;exact HM2.out
     case measure=>simp [intOf];omega
   ·have hP:q * B ≤ 4294967295 * 4294967295:=Nat.mul_le_mul (by omega) (by omega)
    have e8:IntKind.u64.wrap ((q:Int) * (B:Int)) = ((q * B:Nat):Int):=by rw [← Int.natCast_mul,wrapL _ (by omega)]
    have hbig':(q:Int) < 4294967296:=by omega
    by_cases hgt:r * 4294967296+m1 < q * B
    ·have HN:=Lib.hid (HD.out.down (by rw [← HY.out];exact HUY.out) hm11 (.inr hgt))
     have hgt':4294967296 * (r:Int)+(m1:Int) < ((q * B:Nat):Int):=by omega
     clear hgt hbig hP
     generalize q * B = P at *
     have hq0:(1:Int) ≤ (q:Int):=by have:=HN.out.1;omega
     by_cases hr2:4294967296 ≤ r+A
     ·have HF:Hid (Value.int IntKind.u64 ((q:Int) - 1) = Value.int IntKind.u64 (D1:Int)):=Lib.hid (by
       have h1:=HN.out.2.done hA0 (DigQ.past hB1 (by omega) hr2)
       rw [← HV1.out] at h1
       rw [← h1]
       congr 1
       omega)
      obtain ⟨R2,hR2⟩:∃ R2:Nat,(r:Int)+(A:Int) = (R2:Int):=⟨r+A,by omega⟩
      have hr3:(4294967296:Int) ≤ (R2:Int):=by omega
      clear hr2
      go_wp2_with fail
      go_meet
      exact ⟨HF.out,rfl⟩
     ·have HM2:Hid (DigS A B U m1 (.int .u64 ((q:Int) - 1)) (.int .u64 ((r+A:Nat):Int))):=Lib.hid ⟨q - 1,r+A,by congr 1;omega,rfl,by omega,Lib.hid HN.out.2⟩
      obtain ⟨R2,hR2⟩:∃ R2:Nat,(r:Int)+(A:Int) = (R2:Int):=⟨r+A,by omega⟩
      have hr3:decide ((4294967296:Int) ≤ (R2:Int)) = false:=decide_eq_false (by omega)
      clear hr2
      go_wp2_with fail
      go_round
      case rel=>rw [show (r+A:Nat) = R2 by omega] at HM2;exact HM2.out
      case measure=>simp [intOf];omega
    ·have HF:Hid (q = D1):=Lib.hid (by rw [HV1.out];exact HD.out.done hA0 (by omega))
     obtain ⟨T,hT⟩:∃ T:Nat,4294967296 * (r:Int)+(m1:Int) = (T:Int):=⟨r * 4294967296+m1,by omega⟩
     have hgt':decide (T < q * B) = false:=decide_eq_false (by omega)
     have hbig2:decide ((4294967296:Int) ≤ (q:Int)) = false:=decide_eq_false (by omega)
     clear hgt hbig hP hbig'
     generalize q * B = P at *
     go_wp2_with fail
     go_meet
     exact ⟨by rw [← HF.out],rfl⟩
 case rest =>
  obtain ⟨hq,hw⟩:=hcut
  subst hq
  subst hw
  have HVY:=Lib.hid hvY
  obtain ⟨D0,hD0⟩:∃ D0,D0 = (V * 4294967296+m0) / Y:=⟨_,rfl⟩
  have hd0:=digit_lt HVY.out hm01
  have hvE:(V * 4294967296+m0) / Y = (V * 4294967296+m0) / (A * 4294967296+B):=by rw [← HY.out]
  rw [← hD0] at hd0 HT hvE
  have HV0:=Lib.hid hvE
  clear hvE hD0
  have hV64:V < 18446744073709551616:=by omega
  clear e6 e7 hq2 hU64
  have hq1:V / A < 18446744073709551616:=Nat.lt_of_le_of_lt (Nat.div_le_self _ _) hV64
  have hq3:V % A < 4294967296:=by have:=Nat.mod_lt V (show 0 < A by omega);omega
  have e6:IntKind.u64.wrap ((V:Int) / (A:Int)) = ((V / A:Nat):Int):=by
   rw [← Int.natCast_ediv,wrapL _ hq1]
  have e7:IntKind.u64.wrap ((V:Int) - IntKind.u64.wrap (((V / A:Nat):Int) * (A:Int))) = ((V % A:Nat):Int):=by
   have h1:=Nat.div_add_mod V A
   rw [show ((V / A:Nat):Int) * (A:Int) = ((A * (V / A):Nat):Int) by push_cast;rw [Int.mul_comm],← wrapL V hV64]
   exact wrapD (by omega) (by omega) (by omega)
  have HD2:Hid (DigQ A B V m0 (V / A) (V % A)):=Lib.hid (DigQ.start hA0 hB1 hm01 (by rw [← HY.out];exact hvY))
  clear hvY hq1
  generalize V / A = q2 at *
  generalize V % A = r2 at *
  have HTI:=Lib.hid (show (((hi * 18446744073709551616+lo) / y:Nat):Int) = (D1:Int) * 4294967296+(D0:Int) by rw [HT.out,Int.natCast_add,Int.natCast_mul];rfl)
  go_upto_block 2 with fail
  go_cut [18] from 102 to 120 (fun q wx=>q = .int .u64 (D0:Int)∧wx = wc)
  case first =>
   go_wp2_with fail
   go_loop [18,16] (DigS A B V m0) (fun q _=>(intOf q).toNat)
   case atStart=>exact ⟨q2,r2,rfl,rfl,hq3,HD2⟩
   case round =>
    clear e6 e7 hY1 hh h0 hl hm hq3 hd1 hd0
    obtain ⟨q,r,rfl,rfl,hr,HD⟩:=hrel
    have hqm:(q:Int) ≤ 4294967297:=by have:=HD.out.2.2;omega
    have hr':(r:Int) < 4294967296:=by omega
    clear hr
    by_cases hbig:4294967296 ≤ q
    ·have HN:=Lib.hid (HD.out.down (by rw [← HY.out];exact HVY.out) hm01 (.inl hbig))
     have hbig':(4294967296:Int) ≤ (q:Int):=by omega
     clear hbig
     have hq0:(1:Int) ≤ (q:Int):=by have:=HN.out.1;omega
     by_cases hr2:4294967296 ≤ r+A
     ·have HF:Hid (Value.int IntKind.u64 ((q:Int) - 1) = Value.int IntKind.u64 (D0:Int)):=Lib.hid (by
       have h1:=HN.out.2.done hA0 (DigQ.past hB1 (by omega) hr2)
       rw [← HV0.out] at h1
       rw [← h1]
       congr 1
       omega)
      obtain ⟨R2,hR2⟩:∃ R2:Nat,(r:Int)+(A:Int) = (R2:Int):=⟨r+A,by omega⟩
      have hr3:(4294967296:Int) ≤ (R2:Int):=by omega
      clear hr2
      go_wp2_with fail
      go_meet
      exact ⟨HF.out,rfl⟩
     ·have HM2:Hid (DigS A B V m0 (.int .u64 ((q:Int) - 1)) (.int .u64 ((r+A:Nat):Int))):=Lib.hid ⟨q - 1,r+A,by congr 1;omega,rfl,by omega,Lib.hid HN.out.2⟩
      obtain ⟨R2,hR2⟩:∃ R2:Nat,(r:Int)+(A:Int) = (R2:Int):=⟨r+A,by omega⟩
      have hr3:decide ((4294967296:Int) ≤ (R2:Int)) = false:=decide_eq_false (by omega)
      clear hr2
      go_wp2_with fail
      go_round
      case rel=>rw [show (r+A:Nat) = R2 by omega] at HM2;exact HM2.out
      case measure=>simp [intOf];omega
    ·have hP:q * B ≤ 4294967295 * 4294967295:=Nat.mul_le_mul (by omega) (by omega)
     have e8:IntKind.u64.wrap ((q:Int) * (B:Int)) = ((q * B:Nat):Int):=by rw [← Int.natCast_mul,wrapL _ (by omega)]
     have hbig':(q:Int) < 4294967296:=by omega
     by_cases hgt:r * 4294967296+m0 < q * B
     ·have HN:=Lib.hid (HD.out.down (by rw [← HY.out];exact HVY.out) hm01 (.inr hgt))
      have hgt':4294967296 * (r:Int)+(m0:Int) < ((q * B:Nat):Int):=by omega
      clear hgt hbig hP
      generalize q * B = P at *
      have hq0:(1:Int) ≤ (q:Int):=by have:=HN.out.1;omega
      by_cases hr2:4294967296 ≤ r+A
      ·have HF:Hid (Value.int IntKind.u64 ((q:Int) - 1) = Value.int IntKind.u64 (D0:Int)):=Lib.hid (by
        have h1:=HN.out.2.done hA0 (DigQ.past hB1 (by omega) hr2)
        rw [← HV0.out] at h1
        rw [← h1]
        congr 1
        omega)
       obtain ⟨R2,hR2⟩:∃ R2:Nat,(r:Int)+(A:Int) = (R2:Int):=⟨r+A,by omega⟩
       have hr3:(4294967296:Int) ≤ (R2:Int):=by omega
       clear hr2
       go_wp2_with fail
       go_meet
       exact ⟨HF.out,rfl⟩
      ·have HM2:Hid (DigS A B V m0 (.int .u64 ((q:Int) - 1)) (.int .u64 ((r+A:Nat):Int))):=Lib.hid ⟨q - 1,r+A,by congr 1;omega,rfl,by omega,Lib.hid HN.out.2⟩
       obtain ⟨R2,hR2⟩:∃ R2:Nat,(r:Int)+(A:Int) = (R2:Int):=⟨r+A,by omega⟩
       have hr3:decide ((4294967296:Int) ≤ (R2:Int)) = false:=decide_eq_false (by omega)
       clear hr2
       go_wp2_with fail
       go_round
       case rel=>rw [show (r+A:Nat) = R2 by omega] at HM2;exact HM2.out
       case measure=>simp [intOf];omega
     ·have HF:Hid (q = D0):=Lib.hid (by rw [HV0.out];exact HD.out.done hA0 (by omega))
      obtain ⟨T,hT⟩:∃ T:Nat,4294967296 * (r:Int)+(m0:Int) = (T:Int):=⟨r * 4294967296+m0,by omega⟩
      have hgt':decide (T < q * B) = false:=decide_eq_false (by omega)
      have hbig2:decide ((4294967296:Int) ≤ (q:Int)) = false:=decide_eq_false (by omega)
      clear hgt hbig hP hbig'
      generalize q * B = P at *
      go_wp2_with fail
      go_meet
      exact ⟨by rw [← HF.out],rfl⟩
  case rest =>
   obtain ⟨hq,hw⟩:=hcut
   subst hq
   subst hw
   go_wp2_with fail
   go_ret2
   unfold QuoPost
   rw [HTI.out]
   exact ⟨⟨_,rfl⟩,0,rfl⟩
theorem div64_any (hi lo y:Nat) (hh:hi < y) (hl:lo < 18446744073709551616) (hy:y < 18446744073709551616) (w:World) :
 Calls Tryd.prog 80 #[.int .u64 hi,.int .u64 lo,.int .u64 y] w (QuoPost ((hi * 18446744073709551616+lo) / y) w):=by
 rcases Nat.eq_zero_or_pos hi with h0 | h0
 ·subst h0
  rw [Nat.zero_mul,Nat.zero_add]
  exact div64_small lo y hh hl hy w
 ·exact div64_big hi lo y hh h0 hl hy w
set_option maxHeartbeats 400000 in
theorem limbAt_any (v:Value) (xs:List Int) (p:Int) (lo hi:Nat) (w:World) (_hl:xs.length ≤ 1048576) (hr:Row w lo hi v (intsV xs)) :
 Calls Tryd.prog 77 #[v,.int .i64 p] w fun e w'=>e = .returned (.int .i64 (if p < 0 then 0 else xs.getD p.toNat 0))∧w = w':=by
 obtain ⟨A,c,rfl,hA⟩:=hr
 rw [intsV_length]
 by_cases h0:p < 0
 ·rw [if_pos h0]
  go_enter Tryd.func77,Tryd.ntmps77
  go_wp2
  go_ret
  exact ⟨rfl,rfl⟩
 ·rw [if_neg h0]
  obtain ⟨n,rfl⟩:=Int.eq_ofNat_of_zero_le (show 0 ≤ p by omega)
  rw [Int.toNat_natCast]
  by_cases h1:n < xs.length
  ·obtain ⟨a,rfl,_,_,hca⟩:=hA n _ (intsV_at xs n h1)
   rw [List.getD_eq_getElem?_getD,List.getElem?_eq_getElem h1,Option.getD_some]
   clear h0
   generalize xs[n] = x at *
   go_enter Tryd.func77,Tryd.ntmps77
   go_wp2
   go_ret
   exact ⟨rfl,rfl⟩
  ·rw [List.getD_eq_getElem?_getD,List.getElem?_eq_none (by omega)]
   clear h0
   go_enter Tryd.func77,Tryd.ntmps77
   go_wp2
   go_ret
   exact ⟨rfl,rfl⟩
theorem TwoRows.postII {xs ys:List Int} {w w':World} {e:Ending} (h:TwoRows xs ys w e w'):PostII xs ys w e w':=by
 obtain ⟨v1,v2,rfl,o1,o2,ap,b⟩:=h
 exact ⟨v1,_,v2,_,rfl,own_at o1,own_at o2,own_within o1,own_within o2,fun g h1 h2=>ap g g (by simpa using h1) (by simpa using h2) rfl,b⟩
def limbA (xs:List Int) (p:Int):Int:=if p < 0 then 0 else xs.getD p.toNat 0
theorem limbA_dig {xs:List Int} (h:DigN xs) (p:Int):0 ≤ limbA xs p∧limbA xs p ≤ 999999999:=by
 unfold limbA
 split
 ·omega
 ·exact getD_dig h _
theorem limbA_nat (xs:List Int) (p:Nat):limbA xs p = xs.getD p 0:=by unfold limbA;rw [if_neg (by omega),Int.toNat_natCast]
theorem nval_down (xs:List Int) (k:Nat):nval (xs.drop k) = xs.getD k 0+1000000000 * nval (xs.drop (k+1)):=by
 rcases Nat.lt_or_ge k xs.length with h | h
 ·rw [nval_drop xs k h,List.getD_eq_getElem?_getD,List.getElem?_eq_getElem h,Option.getD_some]
 ·rw [List.drop_of_length_le h,List.drop_of_length_le (by omega),List.getD_eq_getElem?_getD,List.getElem?_eq_none h]
  rfl
theorem nval_split (xs:List Int) (k:Nat):nval xs = nval (xs.take k)+bp k * nval (xs.drop k):=by
 rcases Nat.lt_or_ge k xs.length with h | h
 ·conv=>lhs;rw [← List.take_append_drop k xs]
  rw [nval_append,List.length_take,show min k xs.length = k by omega]
 ·rw [List.drop_of_length_le h,List.take_of_length_le h]
  show _ = _+bp k * 0
  rw [Int.mul_zero,Int.add_zero]
theorem nval_low {xs:List Int} (h:DigN xs) (k:Nat):bp k * nval (xs.drop k) ≤ nval xs:=by
 have h1:=nval_split xs k
 have h2:=nval_nonneg _ (h.take k)
 omega
theorem bp_succ (k:Nat):bp (k+1) = 1000000000 * bp k:=rfl
theorem three_le {xs:List Int} (h:DigN xs) (p:Nat):((limbA xs (p+1) * 1000000000+limbA xs p) * 1000000000+limbA xs ((p:Int) - 1)) * bp p ≤ nval xs * 1000000000:=by
 have e1:limbA xs ((p:Int)+1) = xs.getD (p+1) 0:=limbA_nat xs (p+1)
 rw [e1,limbA_nat]
 have n2:=nval_nonneg _ (h.drop (p+1+1))
 have d0:=nval_down xs p
 have d1:=nval_down xs (p+1)
 cases p with
 | zero =>
   have e2:limbA xs ((0:Nat) - 1:Int) = 0:=by unfold limbA;rw [if_pos (by decide)]
   rw [e2]
   rw [List.drop_zero] at d0
   show _ * 1 ≤ _
   omega
 | succ p =>
   have e2:limbA xs (((p+1:Nat):Int) - 1) = xs.getD p 0:=by
    rw [show ((p+1:Nat):Int) - 1 = (p:Int) by omega,limbA_nat]
   rw [e2]
   have dm:=nval_down xs p
   have hlow:=nval_low h p
   have hp:=bp_pos p
   have hmul:bp p * ((xs.getD (p+1+1) 0 * 1000000000+xs.getD (p+1) 0) * 1000000000+xs.getD p 0) ≤ bp p * nval (xs.drop p):=Int.mul_le_mul_of_nonneg_left (by omega) (by omega)
   rw [bp_succ,Int.mul_comm _ (1000000000 * bp p),Int.mul_assoc]
   omega
theorem two_ge {ys:List Int} (h:DigN ys) (h0:0 < ys.length):nval ys * 1000000000 ≤ (limbA ys ((ys.length:Int) - 1) * 1000000000+limbA ys ((ys.length:Int) - 1 - 1)+1) * bp (ys.length - 1):=by
 obtain ⟨n,hn⟩:∃ n,ys.length = n+1:=⟨ys.length - 1,by omega⟩
 have e1:limbA ys ((ys.length:Int) - 1) = ys.getD n 0:=by rw [hn,show ((n+1:Nat):Int) - 1 = (n:Int) by omega,limbA_nat]
 have hz:nval (ys.drop (n+1)) = 0:=by rw [List.drop_of_length_le (by omega)];rfl
 have d0:=nval_down ys n
 rw [hz] at d0
 rw [e1,hn,Nat.add_sub_cancel,show ((n+1:Nat):Int) - 1 - 1 = (n:Int) - 1 by omega]
 cases n with
 | zero =>
   have e2:limbA ys ((0:Nat) - 1:Int) = 0:=by unfold limbA;rw [if_pos (by decide)]
   rw [e2]
   rw [List.drop_zero] at d0
   show _ ≤ _ * 1
   omega
 | succ n =>
   have e2:limbA ys (((n+1:Nat):Int) - 1) = ys.getD n 0:=by
    rw [show ((n+1:Nat):Int) - 1 = (n:Int) by omega,limbA_nat]
   rw [e2]
   have dm:=nval_down ys n
   have hs:=nval_split ys n
   have ht:=nval_lt _ (h.take n)
   have hp:=bp_pos n
   rw [List.length_take,show min n ys.length = n by omega] at ht
   have hmul:bp n * nval (ys.drop n) = bp n * (ys.getD (n+1) 0 * 1000000000+ys.getD n 0):=by congr 1;omega
   rw [bp_succ,Int.mul_comm _ (1000000000 * bp n),Int.mul_assoc,Int.mul_add]
   omega
def guessN (cur ys:List Int) (sh:Nat):Int :=
 ((limbA cur ((sh:Int)+((ys.length:Int) - 1)+1) * 1000000000+limbA cur ((sh:Int)+((ys.length:Int) - 1))) * 1000000000+limbA cur ((sh:Int)+((ys.length:Int) - 1) - 1)) /
   (limbA ys ((ys.length:Int) - 1) * 1000000000+limbA ys ((ys.length:Int) - 1 - 1)+1)
theorem guess_nonneg {cur ys:List Int} (hc:DigN cur) (hy:DigN ys) (sh:Nat):0 ≤ guessN cur ys sh:=by
 have a:=limbA_dig hc ((sh:Int)+((ys.length:Int) - 1)+1)
 have b:=limbA_dig hc ((sh:Int)+((ys.length:Int) - 1))
 have c:=limbA_dig hc ((sh:Int)+((ys.length:Int) - 1) - 1)
 have d:=limbA_dig hy ((ys.length:Int) - 1)
 have e:=limbA_dig hy ((ys.length:Int) - 1 - 1)
 exact Int.ediv_nonneg (by omega) (by omega)
theorem guess_le {cur ys:List Int} (hc:DigN cur) (hy:DigN ys) (h0:0 < ys.length) (sh:Nat):guessN cur ys sh * (nval ys * bp sh) ≤ nval cur:=by
 obtain ⟨n,hn⟩:∃ n,ys.length = n+1:=⟨ys.length - 1,by omega⟩
 have hA:=three_le hc (sh+n)
 have hB:=two_ge hy h0
 have hg0:=guess_nonneg hc hy sh
 have d:=limbA_dig hy ((ys.length:Int) - 1)
 have e:=limbA_dig hy ((ys.length:Int) - 1 - 1)
 unfold guessN at hg0 ⊢
 rw [hn,Nat.add_sub_cancel] at hB
 rw [hn] at hg0 d e ⊢
 rw [show (((n+1:Nat):Int) - 1) = (n:Int) by omega] at hB hg0 d e ⊢
 rw [show ((sh+n:Nat):Int) = (sh:Int)+(n:Int) by omega] at hA
 generalize hU:limbA ys (n:Int) * 1000000000+limbA ys ((n:Int) - 1)+1 = U at *
 generalize (limbA cur ((sh:Int)+(n:Int)+1) * 1000000000+limbA cur ((sh:Int)+(n:Int))) * 1000000000+limbA cur ((sh:Int)+(n:Int) - 1) = N3 at *
 have hU0:0 < U:=by omega
 have hq:N3 / U * U ≤ N3:=Int.ediv_mul_le N3 (by omega)
 generalize N3 / U = q at *
 have hps:=bp_pos sh
 have hpn:=bp_pos n
 have h1:q * bp sh * (nval ys * 1000000000) ≤ q * bp sh * (U * bp n):=Int.mul_le_mul_of_nonneg_left hB (Int.mul_nonneg hg0 (by omega))
 have h2:q * U * bp (sh+n) ≤ N3 * bp (sh+n):=Int.mul_le_mul_of_nonneg_right hq (by have:=bp_pos (sh+n);omega)
 have e1:q * bp sh * (U * bp n) = q * U * bp (sh+n):=by rw [bp_add];simp only [Int.mul_assoc,Int.mul_comm,Int.mul_left_comm]
 have e2:q * bp sh * (nval ys * 1000000000) = q * (nval ys * bp sh) * 1000000000:=by simp only [Int.mul_assoc,Int.mul_comm,Int.mul_left_comm]
 rw [e1,e2] at h1
 omega
theorem factor_lt {g N D:Int} (hD:0 < D) (h1:g * D ≤ N) (h2:N < 1000000000 * D):g < 1000000000:=by
 by_cases h:g < 1000000000
 ·exact h
 ·have:=Int.mul_le_mul_of_nonneg_right (show 1000000000 ≤ g by omega) (show 0 ≤ D by omega)
  omega
theorem add64_run (x y:Nat) (w:World):(callFunc 79 #[.int .u64 x,.int .u64 y,.int .u64 0]).run Tryd.prog w =
 .ok (.value (.tuple #[.int .u64 (((x+y) % 18446744073709551616:Nat):Int),.int .u64 (((x+y) / 18446744073709551616:Nat):Int)])) w:=by
 rw [run_callFunc_extern Tryd.func79 (by kernel_rfl) (by kernel_rfl) (by kernel_rfl) (e:=add64Entry) (by kernel_rfl),run_add64 x y 0 (by omega) (by omega) (by omega) (by omega)]
 simp only [Result.andThen]
 congr 5 <;> omega
theorem limbAt_A (v:Value) (xs:List Int) (p:Int) (lo hi:Nat) (w:World) (hl:xs.length ≤ 1048576) (hr:Row w lo hi v (intsV xs)) :
 Calls Tryd.prog 77 #[v,.int .i64 p] w fun e w'=>e = .returned (.int .i64 (limbA xs p))∧w = w':=limbAt_any v xs p lo hi w hl hr
theorem guess_words {F l3 U:Int} (hF0:0 ≤ F) (hF1:F ≤ 999999999999999999) (hl0:0 ≤ l3) (hl1:l3 ≤ 999999999) (hU0:1000000001 ≤ U) (hU1:U ≤ 1000000000000000000) :
 F.toNat * 1000000000 / 18446744073709551616+(F.toNat * 1000000000 % 18446744073709551616+l3.toNat) / 18446744073709551616 < U.toNat ∧
 ((((F.toNat * 1000000000 / 18446744073709551616+(F.toNat * 1000000000 % 18446744073709551616+l3.toNat) / 18446744073709551616) * 18446744073709551616+(F.toNat * 1000000000 % 18446744073709551616+l3.toNat) % 18446744073709551616) / U.toNat:Nat):Int) = (F * 1000000000+l3) / U:=by
 refine ⟨by omega,?_⟩
 have e:(F.toNat * 1000000000 / 18446744073709551616+(F.toNat * 1000000000 % 18446744073709551616+l3.toNat) / 18446744073709551616) * 18446744073709551616+(F.toNat * 1000000000 % 18446744073709551616+l3.toNat) % 18446744073709551616 = F.toNat * 1000000000+l3.toNat:=by omega
 rw [e,Int.natCast_ediv]
 congr 1 <;> omega
set_option maxHeartbeats 1000000 in
theorem guess_any (b:Nat) (v:Value) (cur:List Int) (vy:Value) (ys:List Int) (lo hi lo2 hi2:Nat) (sh:Nat) (w:World) (hcl:cur.length ≤ 1048576) (hyl:ys.length ≤ 1048576) (hsh:sh ≤ 1048576)
 (hdc:DigN cur) (hdy:DigN ys) (hy0:0 < ys.length) (hyt:ys.getLastD 1 ≠ 0) (hN:nval cur < 1000000000 * (nval ys * bp sh))
 (hv:w.cell? ⟨b,0,none⟩ = some v) (hrc:Row w lo2 hi2 v (intsV cur)) (hry:Row w lo hi vy (intsV ys)) :
 Calls Tryd.prog 73 #[.pointer (some ⟨b,0,none⟩),vy,.int .i64 sh] w fun e w'=>e = .returned (.int .i64 (guessN cur ys sh))∧∃ q,w.drewN q = w':=by
 have hg0:=guess_nonneg hdc hdy sh
 have hgl:=guess_le hdc hdy hy0 sh
 have hy1:=nval_ge ys hdy hyt hy0
 have hD:0 < nval ys * bp sh:=Int.mul_pos (by have:=bp_pos (ys.length - 1);omega) (bp_pos sh)
 have hg1:=factor_lt hD hgl hN
 have hd1:=limbA_dig hdy ((ys.length:Int) - 1)
 have hd2:=limbA_dig hdy ((ys.length:Int) - 1 - 1)
 have hc1:=limbA_dig hdc ((sh:Int)+((ys.length:Int) - 1)+1)
 have hc2:=limbA_dig hdc ((sh:Int)+((ys.length:Int) - 1))
 have hc3:=limbA_dig hdc ((sh:Int)+((ys.length:Int) - 1) - 1)
 have hlast:limbA ys ((ys.length:Int) - 1) ≠ 0∧ys[ys.length - 1]'(by omega) = limbA ys ((ys.length:Int) - 1):=by
  have e:limbA ys ((ys.length:Int) - 1) = ys[ys.length - 1]'(by omega):=by
   rw [show ((ys.length:Int) - 1) = ((ys.length - 1:Nat):Int) by omega,limbA_nat,List.getD_eq_getElem?_getD,List.getElem?_eq_getElem (by omega),Option.getD_some]
  refine ⟨?_,e.symm⟩
  rw [e]
  intro h
  apply hyt
  rw [List.getLastD_eq_getLast?,List.getLast?_eq_getElem?,List.getElem?_eq_getElem (by omega),Option.getD_some,h]
 have hcell:=hry
 obtain ⟨A,c,rfl,hA⟩:=hcell
 rw [intsV_length] at hry ⊢
 obtain ⟨a,rfl,_,_,hca⟩:=hA (ys.length - 1) _ (intsV_at ys (ys.length - 1) (by omega))
 rw [hlast.2] at hca
 have hU0:1000000001 ≤ limbA ys ((ys.length:Int) - 1) * 1000000000+limbA ys ((ys.length:Int) - 1 - 1)+1:=by have:=hlast.1;omega
 have hU1:limbA ys ((ys.length:Int) - 1) * 1000000000+limbA ys ((ys.length:Int) - 1 - 1)+1 ≤ 1000000000000000000:=by omega
 have hF0:0 ≤ limbA cur ((sh:Int)+((ys.length:Int) - 1)+1) * 1000000000+limbA cur ((sh:Int)+((ys.length:Int) - 1)):=by omega
 have hF1:limbA cur ((sh:Int)+((ys.length:Int) - 1)+1) * 1000000000+limbA cur ((sh:Int)+((ys.length:Int) - 1)) ≤ 999999999999999999:=by omega
 have HW:=Lib.hid (guess_words hF0 hF1 hc3.1 hc3.2 hU0 hU1)
 have HG:Hid (guessN cur ys sh = ((limbA cur ((sh:Int)+((ys.length:Int) - 1)+1) * 1000000000+limbA cur ((sh:Int)+((ys.length:Int) - 1))) * 1000000000+limbA cur ((sh:Int)+((ys.length:Int) - 1) - 1)) /
  (limbA ys ((ys.length:Int) - 1) * 1000000000+limbA ys ((ys.length:Int) - 1 - 1)+1)):=Lib.hid rfl
 unfold guessN at hg0 hg1
 clear hN hgl hy1 hD hlast hyt hA
 have hadd:=add64_run
 go_enter Tryd.func73,Tryd.ntmps73
 go_wp2
 go_quiet ((go_at_call 77;exact quiet_at rfl (limbAt_A _ ys _ lo hi _ hyl (hry.drewN _))))
 go_wp2
 go_quiet ((go_at_call 77;exact quiet_at rfl (limbAt_A _ cur _ lo2 hi2 _ hcl (hrc.drewN _))))
 generalize limbA cur ((sh:Int)+((ys.length:Int) - 1)+1) = C1 at *
 generalize limbA cur ((sh:Int)+((ys.length:Int) - 1)) = C2 at *
 obtain ⟨F,hF⟩:∃ F:Nat,C1 * 1000000000+C2 = (F:Int):=⟨_,(Int.toNat_of_nonneg hF0).symm⟩
 rw [hF,Int.toNat_natCast] at HW
 rw [hF] at hg0 hg1 hF1 HG ⊢
 have hc11:=hc1.1
 have hc12:=hc1.2
 have hc21:=hc2.1
 have hc22:=hc2.2
 have hd11:=hd1.1
 have hd12:=hd1.2
 have hd21:=hd2.1
 have hd22:=hd2.2
 obtain ⟨U,hU⟩:∃ U:Nat,limbA ys ((ys.length:Int) - 1) * 1000000000+limbA ys ((ys.length:Int) - 1 - 1)+1 = (U:Int):=⟨_,(Int.toNat_of_nonneg (by omega)).symm⟩
 rw [hU,Int.toNat_natCast] at HW
 rw [hU] at hg0 hg1 hU1 hU0 HG ⊢
 clear hc1 hc2 hd1 hd2
 obtain ⟨l3,hl3⟩:∃ l3:Nat,limbA cur ((sh:Int)+((ys.length:Int) - 1) - 1) = (l3:Int):=⟨_,(Int.toNat_of_nonneg hc3.1).symm⟩
 rw [hl3,Int.toNat_natCast] at HW
 rw [hl3] at hg0 hg1 hc3 HG
 have hl31:=hc3.2
 have hF2:F * 1000000000 / 18446744073709551616 ≤ 1000000000:=by omega
 clear hc3 hd11 hd12 hd21 hd22 hc11 hc12 hc21 hc22
 go_wp2_with fail
 refine (Tryd.bits_Mul64 F 1000000000 (by omega) (by omega) _).mono ?_
 rintro e w1 ⟨rfl,rfl⟩
 have hm:=Nat.mod_lt (F * 1000000000) (show 0 < 18446744073709551616 by omega)
 obtain ⟨h1,hh1⟩:∃ h1,F * 1000000000 / 18446744073709551616 = h1:=⟨_,rfl⟩
 obtain ⟨m1,hm1⟩:∃ m1,F * 1000000000 % 18446744073709551616 = m1:=⟨_,rfl⟩
 rw [hh1] at HW hF2 ⊢
 rw [hm1] at HW hm ⊢
 clear hh1 hm1
 go_wp2_with fail
 refine (limbAt_A v cur _ lo2 hi2 _ hcl (hrc.drewN _)).mono ?_
 rintro e w1 ⟨rfl,rfl⟩
 rw [hl3]
 have hHW:=HW.out
 have hm2:=Nat.mod_lt (m1+l3) (show 0 < 18446744073709551616 by omega)
 have hh2:(m1+l3) / 18446744073709551616 ≤ 1:=by omega
 rw [hHW.2.symm] at hg0 hg1
 have hHW1:=hHW.1
 have HQ:=Lib.hid (HG.out.trans hHW.2.symm)
 clear hHW HW HG
 obtain ⟨c1,hc1⟩:∃ c1,(m1+l3) / 18446744073709551616 = c1:=⟨_,rfl⟩
 obtain ⟨m2,hc2⟩:∃ m2,(m1+l3) % 18446744073709551616 = m2:=⟨_,rfl⟩
 rw [hc1] at HQ hg0 hg1 hHW1 hh2
 rw [hc2] at HQ hg0 hg1 hm2
 have hc1i:((m1:Int)+(l3:Int)) / 18446744073709551616 = (c1:Int):=by omega
 have hc2i:((m1:Int)+(l3:Int)) % 18446744073709551616 = (m2:Int):=by omega
 obtain ⟨h2,hh3⟩:∃ h2:Nat,(h1:Int)+(c1:Int) = (h2:Int):=⟨h1+c1,by omega⟩
 rw [show h1+c1 = h2 by omega] at HQ hg0 hg1 hHW1
 go_wp2_with fail
 refine (div64_any h2 m2 U hHW1 hm2 (by omega) _).mono ?_
 rintro e w1 ⟨⟨r,rfl⟩,n2,rfl⟩
 generalize (h2 * 18446744073709551616+m2) / U = q at *
 go_wp2_with fail
 go_ret
 exact ⟨ret_int HQ.out.symm,_,rfl⟩
def Trim (xs:List Int):Prop:=DigN xs∧xs.getLastD 1 ≠ 0
theorem limbs_trim (n:Nat):Trim (limbs n):=⟨limbs_digN n,limbs_lastN n⟩
theorem Trim.drop {xs:List Int} (h:Trim xs) (k:Nat):Trim (xs.drop k):=by
 refine ⟨h.1.drop k,?_⟩
 rcases Nat.lt_or_ge k xs.length with hk | hk
 ·have h2:=h.2
  rw [List.getLastD_eq_getLast?,List.getLast?_eq_getElem?,List.getElem?_drop]
  rw [List.getLastD_eq_getLast?,List.getLast?_eq_getElem?] at h2
  rw [List.length_drop,show k+(xs.length - k - 1) = xs.length - 1 by omega]
  exact h2
 ·rw [List.drop_of_length_le hk]
  decide
theorem nval_shift {xs:List Int} (h:DigN xs) (k:Nat):nval (xs.drop k) = nval xs / bp k:=by
 have h1:=nval_split xs k
 have hp:=bp_pos k
 have h2:=nval_nonneg _ (h.take k)
 have h3:nval (xs.take k) < bp k:=by
  have h4:=nval_lt _ (h.take k)
  have h5:=bp_mono (show (xs.take k).length ≤ k by rw [List.length_take];omega)
  omega
 rw [h1,Int.add_mul_ediv_left _ _ (by omega),Int.ediv_eq_zero_of_lt h2 h3,Int.zero_add]
def holdsB (N Y:Int) (sh:Nat):Bool:=decide (Y * bp sh ≤ N)
theorem holds_iff (N Y:Int) (sh:Nat):Y * bp sh ≤ N ↔ Y ≤ N / bp sh:=(Int.le_ediv_iff_mul_le (bp_pos sh)).symm
theorem drop_row {w:World} {lo hi:Nat} {A:Option Addr} {n c:Nat} {xs:List Value} (h:Row w lo hi (.slice A n c) xs) (k:Nat) (_hk:k ≤ xs.length):n = xs.length∧Row w lo hi (.slice (A.map (·.add k)) (n - k) (c - k)) (xs.drop k):=by
 obtain ⟨A',c',e,h⟩:=h
 injection e with e1 e2 e3
 subst e1 e2 e3
 refine ⟨rfl,A.map (·.add k),_,by rw [List.length_drop],fun j u hj=>?_⟩
 rw [List.getElem?_drop] at hj
 obtain ⟨a,rfl,h1,h2,h3⟩:=h _ _ hj
 refine ⟨_,rfl,by rw [block_add];exact h1,by rw [block_add];exact h2,?_⟩
 rw [← h3]
 congr 1
 unfold Addr.add
 by_cases hk0:k = 0 <;> by_cases hj0:j = 0 <;> simp_all [Nat.add_assoc]
set_option maxHeartbeats 1000000 in
theorem holds_any (b:Nat) (v:Value) (cur:List Int) (vy:Value) (ys:List Int) (lo hi lo2 hi2:Nat) (sh:Nat) (w:World) (hcl:cur.length ≤ 1048576) (hyl:ys.length ≤ 1048576) (hsh:sh ≤ 1048576)
 (hc:Trim cur) (hy:Trim ys) (hy0:0 < ys.length) (hv:w.cell? ⟨b,0,none⟩ = some v) (hrc:Row w lo2 hi2 v (intsV cur)) (hcap:∀ A n c,v = .slice A n c→n ≤ c) (hry:Row w lo hi vy (intsV ys)) :
 Calls Tryd.prog 72 #[.pointer (some ⟨b,0,none⟩),vy,.int .i64 sh] w fun e w'=>e = .returned (.bool (holdsB (nval cur) (nval ys) sh))∧∃ q,w.drewN q = w':=by
 have hcell:=hrc
 obtain ⟨A,c,rfl,hA⟩:=hcell
 have hcp:=hcap _ _ _ rfl
 rw [intsV_length] at hrc hv hcp
 clear hA hcap
 by_cases hs:sh < cur.length
 ·obtain ⟨-,hd⟩:=drop_row hrc sh (by rw [intsV_length];omega)
  rw [show (intsV cur).drop sh = intsV (cur.drop sh) by simp [intsV]] at hd
  obtain ⟨a,rfl⟩:∃ a,A = some a:=by
   obtain ⟨A',c',e,hA⟩:=hrc
   obtain ⟨a,e2,_⟩:=hA 0 _ (intsV_at cur 0 (by omega))
   injection e with e1
   exact ⟨a,e1.trans e2⟩
  have HV:=Lib.hid (show holdsB (nval cur) (nval ys) sh = decide (0 ≤ cmpI (nval (cur.drop sh)) (nval ys)) by
   unfold holdsB
   rw [nval_shift hc.1,Bool.eq_iff_iff,decide_eq_true_eq,decide_eq_true_eq,holds_iff]
   unfold cmpI
   constructor
   ·intro h;rw [if_neg (by omega)];split <;> omega
   ·intro h
    by_cases hlt:nval cur / bp sh < nval ys
    ·rw [if_pos hlt] at h;omega
    ·omega)
  have hcm:cmpI (nval (cur.drop sh)) (nval ys) = -1 ∨ cmpI (nval (cur.drop sh)) (nval ys) = 0 ∨ cmpI (nval (cur.drop sh)) (nval ys) = 1:=by unfold cmpI;split;exact .inl rfl;split;exact .inr (.inr rfl);exact .inr (.inl rfl)
  go_enter Tryd.func72,Tryd.ntmps72
  go_wp2_with fail
  refine (compareLimbs_any _ vy (cur.drop sh) ys _ _ _ _ _ (by rw [List.length_drop];omega) (by omega) (hc.drop sh) hy hd hry).mono ?_
  rintro e w1 ⟨rfl,q,rfl⟩
  have HV2:=HV.out
  generalize cmpI (nval (cur.drop sh)) (nval ys) = z at *
  go_wp2
  go_ret
  exact ⟨ret_bool HV.out.symm,q,rfl⟩
 ·have HV:=Lib.hid (show holdsB (nval cur) (nval ys) sh = false by
   unfold holdsB
   rw [decide_eq_false_iff_not]
   intro h
   have h1:=nval_lt cur hc.1
   have h2:=bp_mono (show cur.length ≤ sh by omega)
   have h3:=nval_ge ys hy.1 hy.2 hy0
   have h4:=Int.mul_le_mul_of_nonneg_right (show 1 ≤ nval ys by have:=bp_pos (ys.length - 1);omega) (show 0 ≤ bp sh by have:=bp_pos sh;omega)
   omega)
  go_enter Tryd.func72,Tryd.ntmps72
  go_wp2
  go_ret
  exact ⟨ret_bool HV.out.symm,0,rfl⟩
theorem NatOn.reads {T:List Nat} {b:Nat} {xs:List Int} {w:World} (h:NatOn T b xs w):∃ v,w.cell? ⟨b,0,none⟩ = some v∧Row w 0 w.heap.size v (intsV xs)∧(∀ A n c,v = .slice A n c→n ≤ c):=by
 obtain ⟨v,hb,ho,_,_⟩:=h
 refine ⟨v,by rw [Lib.cell_of_heap hb];rfl,Row.of_own ho,?_⟩
 rintro A n c rfl
 rcases ho.2 with ⟨h1,h2⟩ | ⟨g,cap,cur,e1,_,_,hn,_⟩
 ·injection h1 with h3 h4 h5;omega
 ·injection e1 with h3 h4 h5;omega
theorem NatOn.drewN {T:List Nat} {b:Nat} {xs:List Int} {w:World} (h:NatOn T b xs w) (q:Nat):NatOn T b xs (w.drewN q):=h
theorem Kept.drewN {T:List Nat} {b:Nat} {xs:List Int} {w w':World} (h:Kept T b xs w w') (q:Nat):Kept T b xs w (w'.drewN q):=⟨h.1,⟨h.2.os,h.2.tape,h.2.output,h.2.size,h.2.block⟩⟩
theorem limbs_small (m n:Int) (h0:0 ≤ m) (h:m ≤ n) (k:Nat) (hk:(limbs n.toNat).length ≤ k):(limbs m.toNat).length ≤ k:=Nat.le_trans (limbs_mono h0 h) hk
theorem holds_long {N:Int} {ys:List Int} {sh:Nat} (hN:0 ≤ N) (hy:Trim ys) (hy0:0 < ys.length) (h:nval ys * bp sh ≤ N):sh+ys.length ≤ (limbs N.toNat).length:=by
 have h1:=nval_lt _ (limbs_digN N.toNat)
 rw [limbs_toNat N hN] at h1
 have h2:=nval_ge ys hy.1 hy.2 hy0
 have h3:=Int.mul_le_mul_of_nonneg_right h2 (show 0 ≤ bp sh by have:=bp_pos sh;omega)
 rw [← bp_add] at h3
 rcases Nat.lt_or_ge (limbs N.toNat).length (sh+ys.length) with hl | hl
 ·have:=bp_mono (show (limbs N.toNat).length ≤ ys.length - 1+sh by omega)
  omega
 ·exact hl
theorem most_next {N0 N t D g:Int} (hD:0 < D) (h0:N0 < 1000000000 * D) (hN:N = N0 - t * D) (hg:g * D ≤ N) (_ht:0 ≤ t):t+g < 1000000000∧N - g * D = N0 - (t+g) * D∧0 ≤ N - g * D:=by
 have e:(t+g) * D = t * D+g * D:=Int.add_mul _ _ _
 refine ⟨factor_lt hD (N:=N0) (by omega) h0,by omega,by omega⟩
theorem most_done {N0 N t D:Int} (hD:0 < D) (hN:N = N0 - t * D) (h0:0 ≤ N) (h1:N < D):t = N0 / D∧N = N0 % D:=by
 have e:N0 = N+t * D:=by omega
 rw [e,Int.add_mul_ediv_right _ _ (by omega),Int.ediv_eq_zero_of_lt h0 h1,Int.add_mul_emod_self_right,Int.emod_eq_of_lt h0 h1]
 exact ⟨by omega,rfl⟩
set_option maxHeartbeats 1000000 in
theorem takeMost_on (T S:List Nat) (b:Nat) (xs:List Int) (vy:Value) (ys:List Int) (lo hi sh:Nat) (w:World) (hxl:xs.length ≤ 1048576) (hyl:ys.length ≤ 1048576) (hsh:sh ≤ 1048576)
 (hx:Trim xs) (hy:Trim ys) (hy0:0 < ys.length) (hN:nval xs < 1000000000 * (nval ys * bp sh)) (hST:∀ g ∈ S,g ∉ T) (hr:At S (fun w=>Row w lo hi vy (intsV ys)) w) (h:NatOn T b xs w) :
 Calls Tryd.prog 65 #[.pointer (some ⟨b,0,none⟩),vy,.int .i64 sh] w fun e w' =>
  e = .returned (.int .i64 (nval xs / (nval ys * bp sh)))∧Kept T b (limbs (nval xs % (nval ys * bp sh)).toNat) w w':=by
 have hx0:=nval_nonneg xs hx.1
 have hxe:xs = limbs (nval xs).toNat:=by rw [← trim_limbs xs hx.1,trim_last xs hx.2]
 have hy1:=nval_ge ys hy.1 hy.2 hy0
 have hD:0 < nval ys * bp sh:=Int.mul_pos (by have:=bp_pos (ys.length - 1);omega) (bp_pos sh)
 rw [hxe] at h hxl
 have HST:=Lib.hid hST
 have HR0:=Lib.hid hr
 have HY:=Lib.hid hy
 have HY0:=Lib.hid hy0
 have HN:=Lib.hid hN
 have HD:=Lib.hid hD
 have HX:=Lib.hid hx0
 have HXL:=Lib.hid hxl
 clear hx hy hN hST hr hxe hx0 hD hy1 hy0 hxl
 generalize nval xs = N0 at *
 go_enter Tryd.func65,Tryd.ntmps65
 go_wp2
 go_loopg [7] N0.toNat (fun n t wr=>∃ (N tt:Int),t = .int .i64 tt∧0 ≤ tt∧tt ≤ 999999999∧Hid (n = N.toNat∧0 ≤ N∧N ≤ N0∧N = N0 - tt * (nval ys * bp sh))∧Kept T b (limbs N.toNat) w wr)
 case atStart=>exact ⟨N0,0,rfl,by omega,by omega,Lib.hid ⟨rfl,HX.out,Int.le_refl _,by omega⟩,h,Chg.refl _ _⟩
 case round =>
  obtain ⟨N,tt,rfl,ht0,ht1,HI,hat⟩:=hrel
  obtain ⟨v,hv,hrc,hcp⟩:=NatOn.reads hat.1
  have hrow:=HR0.out.chg hat.2 HST.out
  have hlen:=limbs_small N N0 HI.out.2.1 HI.out.2.2.1 _ HXL.out
  have hnv:=limbs_toNat N HI.out.2.1
  by_cases hge:nval ys * bp sh ≤ N
  ·have HB:=Lib.hid (show holdsB (nval (limbs N.toNat)) (nval ys) sh = true by unfold holdsB;rw [hnv];exact decide_eq_true hge)
   have hgl:=guess_le (limbs_digN N.toNat) HY.out.1 HY0.out sh
   have hg0:=guess_nonneg (limbs_digN N.toNat) HY.out.1 sh
   rw [hnv] at hgl
   have HNB:=Lib.hid (show nval (limbs N.toNat) < 1000000000 * (nval ys * bp sh) by rw [hnv];have:=HN.out;have:=HI.out.2.2.1;omega)
   have HLL:=Lib.hid (holds_long HI.out.2.1 HY.out HY0.out hge)
   have hmax:max 1 (guessN (limbs N.toNat) ys sh) * (nval ys * bp sh) ≤ N:=by
    rcases Int.le_total 1 (guessN (limbs N.toNat) ys sh) with h1 | h1
    ·rw [Int.max_eq_right h1];exact hgl
    ·rw [Int.max_eq_left h1];omega
   have hm1:1 ≤ max 1 (guessN (limbs N.toNat) ys sh):=Int.le_max_left _ _
   have hnext:=most_next HD.out HN.out HI.out.2.2.2 hmax ht0
   have hmle:max 1 (guessN (limbs N.toNat) ys sh) ≤ 999999999:=by have:=hnext.1;omega
   have HM:=Lib.hid hmax
   have HNX:=Lib.hid hnext
   have htm:tt+max 1 (guessN (limbs N.toNat) ys sh) ≤ 999999999:=by have:=hnext.1;omega
   clear hge hgl hmax hnext
   go_wp2_with fail
   refine (holds_any b v _ vy ys _ _ _ _ sh _ hlen hyl hsh (limbs_trim _) HY.out HY0.out hv hrc hcp hrow.here).mono ?_
   rintro e w1 ⟨rfl,q1,rfl⟩
   rw [HB.out]
   go_wp2_with fail
   refine (guess_any b v _ vy ys _ _ _ _ sh (wr.drewN q1) hlen hyl hsh (limbs_digN _) HY.out.1 HY0.out HY.out.2 HNB.out hv (hrc.drewN _) (hrow.here.drewN _)).mono ?_
   rintro e w1 ⟨rfl,q2,rfl⟩
   generalize guessN (limbs N.toNat) ys sh = gz at *
   go_wp2_with fail
   clear hg0
   generalize max 1 gz = g at *
   have hle:g * bp sh * nval ys ≤ nval (limbs N.toNat):=by
    rw [hnv,Int.mul_assoc,Int.mul_comm (bp sh)]
    exact HM.out
   refine (takeTimes_on T S b (limbs N.toNat) vy ys lo hi g sh (wr.drewN (q1+q2)) hlen HLL.out (by omega) (by omega) (limbs_digN _) HY.out.1 hle HST.out (hrow.drewN _) hat.1).mono ?_
   rintro e w1 ⟨rfl,hat1⟩
   rw [hnv,Int.mul_assoc,Int.mul_comm (bp sh)] at hat1
   have HK:=Lib.hid (show Kept T b (limbs (N - g * (nval ys * bp sh)).toNat) w w1 from (hat.drewN (q1+q2)).trans hat1)
   have hpos:1 * (nval ys * bp sh) ≤ g * (nval ys * bp sh):=Int.mul_le_mul_of_nonneg_right hm1 (by have:=HD.out;omega)
   have HP:=Lib.hid hpos
   clear hpos hle hat1 hlen hnv hv hrc hcp hrow
   go_wp2_with fail
   go_roundg (N - g * (nval ys * bp sh)).toNat
   case measure =>
    have h1:=HI.out.1
    have h2:=HP.out
    have h3:=HD.out
    have h4:=HNX.out.2.2
    omega
   case rel=>exact ⟨N - g * (nval ys * bp sh),tt+g,rfl,by omega,htm,Lib.hid ⟨rfl,HNX.out.2.2,by have:=HI.out.2.2.1;have:=HP.out;have:=HD.out;omega,HNX.out.2.1⟩,HK.out⟩
  ·have HB:=Lib.hid (show holdsB (nval (limbs N.toNat)) (nval ys) sh = false by unfold holdsB;rw [hnv];exact decide_eq_false hge)
   have HE:=Lib.hid (most_done HD.out HI.out.2.2.2 HI.out.2.1 (by omega))
   clear hge
   go_wp2_with fail
   refine (holds_any b v _ vy ys _ _ _ _ sh _ hlen hyl hsh (limbs_trim _) HY.out HY0.out hv hrc hcp hrow.here).mono ?_
   rintro e w1 ⟨rfl,q1,rfl⟩
   rw [HB.out]
   go_wp2_with fail
   go_ret
   exact ⟨ret_int HE.out.1,by rw [← HE.out.2];exact hat.drewN q1⟩
theorem NatAt.chg {T:List Nat} {B b:Nat} {xs:List Int} {w w':World} (h:NatAt B b xs w) (c:Chg T w w') (hT:∀ g ∈ T,g < B):NatAt B b xs w':=by
 obtain ⟨U,hU,hB⟩:=h.on
 exact (hU.at_.chg c (fun g hg hm=>by have:=hB g hg;have:=hT g hm;omega)).here.natAt hB
theorem NatOn.belowB {T:List Nat} {B b:Nat} {xs:List Int} {w w':World} (h:NatOn T b xs w) (hb:Below B w w') (hT:∀ g ∈ T,g < B):NatOn T b xs w' :=
 (h.at_.move (fun g hg=>hb.block g (hT g hg)) hb.size).here
theorem chg_below {T:List Nat} {w w1 w2:World} (c:Chg T w w1) (hb:Below w.heap.size w1 w2):Chg T w w2 :=
 ⟨hb.os.trans c.os,hb.tape.trans c.tape,hb.output.trans c.output,Nat.le_trans c.size hb.size,fun i hi hn=>(hb.block i hi).trans (c.block i hi hn)⟩
def DivideR (X Y:Int) (M k:Nat) (N:Int) (qs:List Int):Prop :=
 0 ≤ N∧N ≤ X∧N < Y * bp k∧X = N+Y * nval qs∧DigN qs∧qs.length ≤ M∧∀ j,j < k→qs.getD j 0 = 0
theorem DivideR.start {xs ys:List Int} (hx:Trim xs) (hy:Trim ys) (hy0:0 < ys.length) (M:Nat):DivideR (nval xs) (nval ys) M ((xs.length:Int) - (ys.length:Int)+1).toNat (nval xs) []:=by
 have h1:=nval_lt xs hx.1
 have h2:=nval_ge ys hy.1 hy.2 hy0
 refine ⟨nval_nonneg xs hx.1,Int.le_refl _,?_,(by show _ = _+nval ys * 0;rw [Int.mul_zero,Int.add_zero]),(fun d hd=>by cases hd),Nat.zero_le _,fun j _=>by simp⟩
 generalize hk:((xs.length:Int) - (ys.length:Int)+1).toNat = k
 have h3:=Int.mul_le_mul_of_nonneg_right h2 (show 0 ≤ bp k by have:=bp_pos k;omega)
 rw [← bp_add] at h3
 have h4:=bp_mono (show xs.length ≤ ys.length - 1+k by omega)
 omega
theorem getD_set_other (xs:List Int) (p j:Nat) (d:Int) (h:j ≠ p):(xs.set p d).getD j 0 = xs.getD j 0:=by
 rw [List.getD_eq_getElem?_getD,List.getElem?_set_ne (Ne.symm h),List.getD_eq_getElem?_getD]
theorem getD_pad (xs:List Int) (n j:Nat):(padL xs n).getD j 0 = xs.getD j 0:=by
 unfold padL
 rw [List.getD_eq_getElem?_getD,List.getD_eq_getElem?_getD]
 rcases Nat.lt_or_ge j xs.length with h | h
 ·rw [List.getElem?_append_left h]
 ·rw [List.getElem?_append_right h,List.getElem?_replicate,List.getElem?_eq_none h]
  split <;> rfl
theorem DivideR.next {X Y:Int} {M k:Nat} {N:Int} {qs:List Int} (h:DivideR X Y M (k+1) N qs) (hY:0 < Y) (hM:k < M) :
 0 ≤ N / (Y * bp k)∧N / (Y * bp k) ≤ 999999999∧DivideR X Y M k (N % (Y * bp k)) (addAtL qs k (N / (Y * bp k))):=by
 obtain ⟨h0,hX,h1,h2,h3,h4,h5⟩:=h
 have hD:0 < Y * bp k:=Int.mul_pos hY (bp_pos k)
 have hq0:0 ≤ N / (Y * bp k):=Int.ediv_nonneg h0 (by omega)
 have hr0:=Int.emod_nonneg N (show Y * bp k ≠ 0 by omega)
 have hr1:=Int.emod_lt_of_pos N hD
 have he:=Int.emod_add_mul_ediv N (Y * bp k)
 rw [bp_succ,Int.mul_left_comm] at h1
 have hq1:N / (Y * bp k) < 1000000000:=Int.ediv_lt_of_lt_mul hD h1
 have hg:=h5 k (Nat.lt_succ_self _)
 have hC:addAtC qs k (N / (Y * bp k)) = 0:=by unfold addAtC;rw [hg];omega
 have hv:=addAt_val qs k (N / (Y * bp k))
 rw [hC,Int.zero_mul,Int.add_zero] at hv
 refine ⟨hq0,by omega,hr0,?_,hr1,?_,addAt_dig h3 _ _,by rw [addAt_length];omega,?_⟩
 ·have:=Int.mul_nonneg (show 0 ≤ Y * bp k by omega) hq0
  omega
 ·rw [hv,Int.mul_add,h2]
  have e:Y * (N / (Y * bp k) * bp k) = Y * bp k * (N / (Y * bp k)):=by rw [Int.mul_comm (N / (Y * bp k)),Int.mul_assoc]
  rw [e]
  omega
 ·intro j hj
  unfold addAtL
  rw [getD_set_other _ _ _ _ (by omega),getD_pad]
  exact h5 j (by omega)
theorem DivideR.done {X Y:Int} {M:Nat} {N:Int} {qs:List Int} (h:DivideR X Y M 0 N qs) (hY:0 < Y):N = X % Y∧trimL qs = limbs (X / Y).toNat:=by
 obtain ⟨h0,hX,h1,h2,h3,_,_⟩:=h
 have h1':N < Y:=by rw [show bp 0 = 1 from rfl,Int.mul_one] at h1;exact h1
 rw [trim_limbs qs h3,h2,Int.add_mul_ediv_left _ _ (by omega),Int.ediv_eq_zero_of_lt h0 h1',Int.zero_add,Int.add_mul_emod_self_left,Int.emod_eq_of_lt h0 h1']
 exact ⟨rfl,rfl⟩
def DividePost (T:List Nat) (b:Nat) (X Y:Int) (w:World) (e:Ending) (w':World):Prop :=
 ∃ v,e = .returned (.tuple #[v,.nilIface])∧w'.ownsRow w.heap.size 3 1 v (limbs (X / Y).toNat).length (intsV (limbs (X / Y).toNat))∧Kept T b (limbs (X % Y).toNat) w w'
set_option maxHeartbeats 1000000 in
theorem divide_on (T S:List Nat) (b:Nat) (xs:List Int) (vy:Value) (ys:List Int) (lo hi:Nat) (w:World) (hxl:xs.length ≤ 300000) (hyl:ys.length ≤ 300000)
 (hx:Trim xs) (hy:Trim ys) (hy0:0 < ys.length) (hST:∀ g ∈ S,g ∉ T) (hr:At S (fun w=>Row w lo hi vy (intsV ys)) w) (h:NatOn T b xs w) :
 Calls Tryd.prog 56 #[.pointer (some ⟨b,0,none⟩),vy] w (DividePost T b (nval xs) (nval ys) w):=by
 have hxe:xs = limbs (nval xs).toNat:=by rw [← trim_limbs xs hx.1,trim_last xs hx.2]
 have hY:0 < nval ys:=by have:=nval_ge ys hy.1 hy.2 hy0;have:=bp_pos (ys.length - 1);omega
 have hz:((ys.length:Int) == 0) = false:=by rw [beq_eq_false_iff_ne];omega
 have HST:=Lib.hid hST
 have HR0:=Lib.hid hr
 have HY:=Lib.hid hy
 have HY0:=Lib.hid hy0
 have HYP:=Lib.hid hY
 have hTlt:∀ g ∈ T,g < w.heap.size:=h.at_.lt
 have HTL:=Lib.hid hTlt
 have hbl:=h.lt
 obtain ⟨v0,hv0,hrc0,hcp0⟩:=NatOn.reads h
 obtain ⟨A0,c0,rfl,_⟩:=hrc0
 rw [intsV_length] at hv0
 have hvy:=hr.here
 obtain ⟨A,c,rfl,_⟩:=hvy
 rw [intsV_length] at HR0 ⊢
 have HS:=Lib.hid (DivideR.start hx hy hy0 (max xs.length 1))
 have HX0:=Lib.hid (show NatOn T b (limbs (nval xs).toNat) w by rw [← hxe];exact h)
 have HXL:=Lib.hid (show (limbs (nval xs).toNat).length ≤ 300000 by rw [← hxe];exact hxl)
 clear hx hy hST hr hxe h hcp0 hY hTlt hy0
 go_enter Tryd.func56,Tryd.ntmps56
 have hva:∀ o,(w.alloc o).cell? ⟨b,0,none⟩ = some (.slice A0 xs.length c0):=fun o=>(World.cell?_alloc_past _ _ _ hbl).trans hv0
 go_wp2
 go_loopw [7] (fun s wr=>∃ (z N:Int) (qs:List Int),s = .int .i64 z∧-300000 ≤ z∧z+1 ≤ max xs.length 1∧Hid (DivideR (nval xs) (nval ys) (max xs.length 1) (z+1).toNat N qs)∧NatOn T b (limbs N.toNat) wr∧NatAt w.heap.size w.heap.size qs wr∧Chg T w wr) (fun s _=>(intOf s+1).toNat)
 case atStart =>
  refine ⟨_,_,[],rfl,by omega,by have:=HY0.out;omega,HS,?_,NatAt.new (Nat.le_refl _) (World.ownsRow_nil _ _ _ _),Chg.of_below ((Below.refl _ _).alloc (Nat.le_refl _) _)⟩
  exact (HX0.out.at_.below ((Below.refl _ _).alloc (Nat.le_refl _) _)).here
 case round =>
  obtain ⟨z,N,qs,rfl,hz0,hz1,HD,hat,hq,hc⟩:=hrel
  by_cases hge:0 ≤ z
  ·obtain ⟨k,rfl⟩:=Int.eq_ofNat_of_zero_le hge
   have hk1:((k:Int)+1).toNat = k+1:=by omega
   rw [hk1] at HD
   obtain ⟨hq0,hq1,hnext⟩:=HD.out.next HYP.out (by omega)
   have HN:=Lib.hid hnext
   have hN0:=HD.out.1
   have hnv:=limbs_toNat N hN0
   have HNB:=Lib.hid (show nval (limbs N.toNat) < 1000000000 * (nval ys * bp k) by
    rw [hnv]
    have:=HD.out.2.2.1
    rw [bp_succ,Int.mul_left_comm] at this
    exact this)
   have hlen:=limbs_small N (nval xs) hN0 HD.out.2.1 _ HXL.out
   have hqsl:=HD.out.2.2.2.2.2.1
   have HDQ:=Lib.hid HD.out.2.2.2.2.1
   have hrow:=HR0.out.chg hc HST.out
   clear hge hnext hk1
   go_wp2_with fail
   refine (takeMost_on T S b (limbs N.toNat) _ ys lo hi k wr (by omega) (by omega) (by omega) (limbs_trim _) HY.out HY0.out HNB.out HST.out hrow hat).mono ?_
   rintro e w1 ⟨rfl,hat1⟩
   rw [hnv] at hat1 ⊢
   have hqa:=hq.chg hat1.2 HTL.out
   have hc1:=hc.trans hat1.2
   have hon1:=hat1.1
   have HKI:=Lib.hid (show (((k:Nat):Int) - 1+1).toNat = k by omega)
   generalize N / (nval ys * bp k) = q at *
   generalize N % (nval ys * bp k) = N' at *
   clear hat1 hat hq hc hrow hnv hN0
   go_wp2_with fail
   refine (addAt_any w.heap.size w.heap.size qs k q _ (by omega) (by omega) hq0 (by omega) HDQ.out hqa).mono ?_
   rintro e w2 ⟨rfl,hq2,hb2⟩
   have hon2:=NatOn.belowB hon1 hb2 HTL.out
   have hc2:=chg_below hc1 hb2
   clear hqa hon1 hc1
   go_wp2
   go_roundw
   case rel=>exact ⟨(k:Int) - 1,N',_,rfl,by omega,by omega,by rw [HKI.out];exact HN,hon2,hq2,hc2⟩
   case measure=>simp [intOf]
  ·have HE:=Lib.hid (show (z+1).toNat = 0 by omega)
   rw [HE.out] at HD
   have HF:=Lib.hid (HD.out.done HYP.out)
   have hqsl:=HD.out.2.2.2.2.2.1
   go_wp2_with fail
   refine (natTrim_any w.heap.size w.heap.size qs _ (by omega) hq).mono ?_
   rintro e w1 ⟨rfl,hq1,hb1⟩
   have hon1:=NatOn.belowB hat hb1 HTL.out
   have hc1:=chg_below hc hb1
   rw [HF.out.2] at hq1
   obtain ⟨_,v,hvb,hown,_⟩:=hq1
   have hcv:w1.cell? ⟨w.heap.size,0,none⟩ = some v:=by rw [Lib.cell_of_heap hvb];rfl
   have HO:=Lib.hid hown
   have HB:=Lib.hid hvb
   clear hvb hown
   go_wp2
   go_ret2
   exact ⟨v,rfl,HO.out,by rw [← HF.out.1];exact hon1,hc1⟩
set_option maxHeartbeats 400000 in
theorem divide_zero (b:Nat) (A:Option Addr) (c:Nat) (x:Value) (w:World) (hs:w.cell? ⟨0,0,none⟩ = some x) :
 Calls Tryd.prog 56 #[.pointer (some ⟨b,0,none⟩),.slice A 0 c] w fun e w'=>e = .returned (.tuple #[.slice none 0 0,x])∧∃ q,w.drewN q = w':=by
 go_enter Tryd.func56,Tryd.ntmps56
 go_wp2
 go_quiet (fail)
 go_wp2
 go_ret2
 exact ⟨rfl,_,rfl⟩
theorem NatOn.rowAt {T:List Nat} {b:Nat} {xs:List Int} {w:World} (h:NatOn T b xs w):∃ v,w.cell? ⟨b,0,none⟩ = some v∧At T (fun w'=>Row w' 0 w.heap.size v (intsV xs)) w:=by
 have hat:=h.at_
 obtain ⟨v,hb,ho,_,rfl⟩:=h
 refine ⟨v,by rw [Lib.cell_of_heap hb];rfl,Row.of_own ho,hat.lt,fun w' hk=>?_⟩
 have hr:=Row.of_own ho
 obtain ⟨_,⟨rfl,_⟩ | ⟨g,cap,cur,rfl,_⟩⟩:=ho
 ·obtain ⟨A,c,e,h⟩:=hr
  injection e with e1 e2 e3
  subst e1
  refine ⟨none,c,by rw [← e2,← e3],fun j u hj=>?_⟩
  obtain ⟨a,e4,_⟩:=h j u hj
  cases e4
 ·obtain ⟨A,c,e,h⟩:=hr
  injection e with e1 e2 e3
  subst e1
  refine ⟨some ⟨g,0,none⟩,c,by rw [← e2,← e3],fun j u hj=>?_⟩
  obtain ⟨a,e4,k1,k2,k3⟩:=h j u hj
  cases e4
  refine ⟨_,rfl,k1,k2,?_⟩
  rw [← k3]
  have hg:=hk g (by simp [Value.ownBlock])
  unfold World.cell?
  rw [block_add,hg]
theorem Below.of_chg {T:List Nat} {B:Nat} {w w1 w2:World} (hb:Below B w w1) (c:Chg T w1 w2) (hB:B ≤ w1.heap.size) (hT:∀ g ∈ T,B ≤ g):Below B w w2:=below_chg hb c hB hT
theorem ok_trim {xs:List Int} (h:natOkB xs = true):Trim xs:=ok_dig h
theorem Row.onB {w:World} {lo hi B:Nat} {v:Value} {xs:List Value} (h:Row w lo hi v xs) (hB:hi ≤ B):∃ S,At S (fun w=>Row w lo hi v xs) w∧∀ g ∈ S,g < B:=by
 obtain ⟨S,h1,h2⟩:=h.on
 exact ⟨S,h1,fun g hg=>by have:=(h2 g hg).2;omega⟩
set_option maxHeartbeats 1000000 in
theorem implNatDiv_any (va vb:Value) (a b:List Int) (la ha lb hb_:Nat) (w:World) (hal:a.length ≤ 1048576) (hbl:b.length ≤ 1048576) (_hha:ha ≤ w.heap.size) (hhb:hb_ ≤ w.heap.size)
 (hra:Row w la ha va (intsV a)) (hrb:Row w lb hb_ vb (intsV b)) (hs:Sen w) :
 Calls Tryd.prog 43 #[va,vb] w (TwoRows (divN a b).1 (divN a b).2 w):=by
 by_cases oa:natOkB a = true
 ·by_cases ob:natOkB b = true
  ·have ha50:=(natOk_parts oa).2.1
   have hb50:=(natOk_parts ob).2.1
   have OA:=Lib.hid oa
   have OB:=Lib.hid ob
   by_cases h0:0 < b.length
   ·have HV:=Lib.hid (show divN a b = (limbs (nval a / nval b).toNat,limbs (nval a % nval b).toNat) by unfold divN;rw [if_pos ⟨oa,ob,h0⟩])
    have H0:=Lib.hid h0
    clear h0
    go_enter Tryd.func43,Tryd.ntmps43
    go_wp2_with fail
    refine (implNatOk_same va a la ha _ (by omega) hra).mono ?_
    rintro e w' ⟨rfl,rfl⟩
    rw [oa]
    go_wp2_with fail
    refine (implNatOk_same vb b lb hb_ _ (by omega) hrb).mono ?_
    rintro e w' ⟨rfl,rfl⟩
    rw [ob]
    clear oa ob
    go_wp2_with fail
    refine (copyNat_any va a la ha _ hal hra).mono ?_
    rintro e w1 ⟨bn,rfl,hat,b1⟩
    obtain ⟨T,hT,hTB⟩:=hat.on
    obtain ⟨S,hS,hSB⟩:=(hrb.below b1 hhb).onB hhb
    have hTlt:=hT.at_.lt
    have HTB:=Lib.hid hTB
    have HTL:=Lib.hid hTlt
    have hst:∀ g ∈ S,g ∉ T:=fun g hg hm=>by have:=hSB g hg;have:=hTB g hm;omega
    have HST:=Lib.hid hst
    clear hSB hTB hst hTlt
    go_wp2_with fail
    refine (divide_on T S bn a vb b lb hb_ _ (by omega) (by omega) (ok_trim OA.out) (ok_trim OB.out) H0.out HST.out hS hT).mono ?_
    rintro e w2 ⟨v2,rfl,o2,hk2⟩
    have b2:Below w.heap.size w w2:=Below.of_chg b1 hk2.2 b1.size HTB.out
    obtain ⟨es,hes⟩:=hs.below b2
    go_wp2_with fail
    refine (is_nil es _).mono ?_
    rintro e w' ⟨rfl,rfl⟩
    have hon:=hk2.1
    obtain ⟨v3,hb3,o3,_,hTe⟩:=hon
    have hc3:w2.cell? ⟨bn,0,none⟩ = some v3:=by rw [Lib.cell_of_heap hb3];rfl
    have HO3:=Lib.hid o3
    have HO2:=Lib.hid o2
    have HTE:=Lib.hid hTe
    clear o3 o2 hTe hb3 hk2
    go_wp2
    go_quiet (fail)
    go_wp2
    go_ret2
    have hz1:=b1.size
    refine ⟨v2,v3,rfl,?_,?_,?_,below_drewN b2 _⟩
    ·rw [HV.out]
     exact own_base HO2.out hz1
    ·rw [HV.out]
     exact own_raise HO3.out (fun g hg=>HTB.out g (by rw [HTE.out,hg];simp))
    ·intro x y hx hy hxy
     have h1:=(own_lt HO2.out hx).1
     have h2:=HTL.out y (by rw [HTE.out,hy];simp)
     omega
   ·have HV:=Lib.hid (show divN a b = ([],[]) by unfold divN;rw [if_neg (fun h=>h0 h.2.2)])
    obtain rfl:b = []:=List.eq_nil_of_length_eq_zero (by omega)
    have hrb0:=hrb
    obtain ⟨Ab,cb,rfl,_⟩:=hrb0
    clear h0
    go_enter Tryd.func43,Tryd.ntmps43
    go_wp2_with fail
    refine (implNatOk_same va a la ha _ (by omega) hra).mono ?_
    rintro e w' ⟨rfl,rfl⟩
    rw [oa]
    go_wp2_with fail
    refine (implNatOk_same _ [] lb hb_ _ (by simp) hrb).mono ?_
    rintro e w' ⟨rfl,rfl⟩
    rw [ob]
    clear oa ob
    go_wp2_with fail
    refine (copyNat_any va a la ha _ hal hra).mono ?_
    rintro e w1 ⟨bn,rfl,hat,b1⟩
    obtain ⟨es,hes⟩:=hs.below b1
    go_wp2_with fail
    refine (divide_zero bn Ab cb _ _ hes).mono ?_
    rintro e w2 ⟨rfl,q,rfl⟩
    go_wp2_with fail
    refine (is_same es _).mono ?_
    rintro e w' ⟨rfl,rfl⟩
    go_wp2
    go_ret2
    rw [HV.out]
    exact two_nil (below_drewN b1 _)
  ·have ob':natOkB b = false:=by simpa using ob
   have HV:=Lib.hid (show divN a b = ([],[]) by unfold divN;rw [if_neg (fun h=>ob h.2.1)])
   clear ob
   go_enter Tryd.func43,Tryd.ntmps43
   go_wp2_with fail
   refine (implNatOk_same va a la ha _ (by omega) hra).mono ?_
   rintro e w' ⟨rfl,rfl⟩
   rw [oa]
   go_wp2_with fail
   refine (implNatOk_same vb b lb hb_ _ (by omega) hrb).mono ?_
   rintro e w' ⟨rfl,rfl⟩
   rw [ob']
   go_wp2
   go_ret2
   rw [HV.out]
   exact two_nil (Below.refl _ _)
 ·have oa':natOkB a = false:=by simpa using oa
  have HV:=Lib.hid (show divN a b = ([],[]) by unfold divN;rw [if_neg (fun h=>oa h.1)])
  clear oa
  go_enter Tryd.func43,Tryd.ntmps43
  go_wp2_with fail
  refine (implNatOk_same va a la ha _ (by omega) hra).mono ?_
  rintro e w' ⟨rfl,rfl⟩
  rw [oa']
  go_wp2
  go_ret2
  rw [HV.out]
  exact two_nil (Below.refl _ _)
theorem implNatDiv_at (a b:List Int) (hla:a.length ≤ 1048576) (hlb:b.length ≤ 1048576):∀ (ua ub:Value) (W:World),OwnI ua a W→OwnI ub b W→Sen W→Calls Tryd.prog 43 #[ua,ub] W (PostII (divN a b).1 (divN a b).2 W) :=
 fun ua ub W ha hb hs=>(implNatDiv_any ua ub a b _ _ _ _ W hla hlb (Nat.le_refl _) (Nat.le_refl _) ha.row hb.row hs).mono fun _ _ h=>h.postII
def EuclS (w:World) (G n:Nat) (x y:Value) (wr:World):Prop :=
 ∃ (X Y bx by_:Nat) (Tx Ty:List Nat),n = Y∧Nat.gcd X Y = G∧(limbs X).length ≤ 50∧(limbs Y).length ≤ 50∧x = .pointer (some ⟨bx,0,none⟩)∧y = .pointer (some ⟨by_,0,none⟩) ∧
   NatOn Tx bx (limbs X) wr∧NatOn Ty by_ (limbs Y) wr∧(∀ g ∈ Ty,g ∉ Tx)∧(∀ g ∈ Tx,w.heap.size ≤ g)∧(∀ g ∈ Ty,w.heap.size ≤ g)∧Below w.heap.size w wr
set_option maxHeartbeats 1000000 in
theorem implNatGcd_any (va vb:Value) (a b:List Int) (la ha lb hb_:Nat) (w:World) (hal:a.length ≤ 1048576) (hbl:b.length ≤ 1048576) (hhb:hb_ ≤ w.heap.size)
 (hra:Row w la ha va (intsV a)) (hrb:Row w lb hb_ vb (intsV b)) (hs:Sen w) :
 Calls Tryd.prog 42 #[va,vb] w (NewInts (gcdN a b) w):=by
 by_cases oa:natOkB a = true
 ·by_cases ob:natOkB b = true
  ·have HV:=Lib.hid (show gcdN a b = limbs (Nat.gcd (nval a).toNat (nval b).toNat) by unfold gcdN;rw [if_pos ⟨oa,ob⟩])
   have LA:=Lib.hid (natOk_limbs oa)
   have LB:=Lib.hid (natOk_limbs ob)
   have ha50:=(natOk_parts oa).2.1
   have hb50:=(natOk_parts ob).2.1
   go_enter Tryd.func42,Tryd.ntmps42
   go_wp2_with fail
   refine (implNatOk_same va a la ha _ (by omega) hra).mono ?_
   rintro e w' ⟨rfl,rfl⟩
   rw [oa]
   go_wp2_with fail
   refine (implNatOk_same vb b lb hb_ _ (by omega) hrb).mono ?_
   rintro e w' ⟨rfl,rfl⟩
   rw [ob]
   clear oa ob
   go_wp2_with fail
   refine (copyNat_any va a la ha _ hal hra).mono ?_
   rintro e w1 ⟨bx,rfl,hatx,b1⟩
   go_wp2_with fail
   refine (copyNat_any vb b lb hb_ _ hbl (hrb.below b1 hhb)).mono ?_
   rintro e w2 ⟨by_,rfl,haty,b2⟩
   obtain ⟨Tx,hTx,hBx⟩:=hatx.on
   obtain ⟨Ty,hTy,hBy⟩:=haty.on
   have hz:=b1.size
   have HS:Hid (EuclS w (Nat.gcd (nval a).toNat (nval b).toNat) (nval b).toNat (.pointer (some ⟨bx,0,none⟩)) (.pointer (some ⟨by_,0,none⟩)) w2):=Lib.hid
    ⟨(nval a).toNat,(nval b).toNat,bx,by_,Tx,Ty,rfl,rfl,by rw [← LA.out];exact ha50,by rw [← LB.out];exact hb50,rfl,rfl,by rw [← LA.out];exact (hTx.at_.below b2).here,by rw [← LB.out];exact hTy,
      fun g hg hm=>by have:=hBy g hg;have:=hTx.at_.lt g hm;omega,hBx,fun g hg=>by have:=hBy g hg;omega,Below.next b1 b2⟩
   clear hTx hTy hBx hBy hatx haty hz
   go_wp2
   go_loopg [5,6] (nval b).toNat (fun n x y wr=>EuclS w (Nat.gcd (nval a).toNat (nval b).toNat) n x y wr)
   case atStart=>exact HS.out
   case round =>
    clear HS b1 b2
    obtain ⟨X,Y,bx,by_,Tx,Ty,hn,hG,hX,hY,rfl,rfl,hx,hy,hap,hBx,hBy,hb⟩:=hrel
    have HNE:=Lib.hid hn
    have HG:=Lib.hid hG
    have HAP:=Lib.hid hap
    have HBX:=Lib.hid hBx
    have HBY:=Lib.hid hBy
    obtain ⟨v,hcv,hrow⟩:=NatOn.rowAt hy
    clear hn hG hap hBx hBy
    by_cases hpos:0 < Y
    ·have hlen:0 < (limbs Y).length:=by rw [limbs_pos Y (by omega)];simp
     go_wp2_with fail
     refine (divide_on Tx Ty bx (limbs X) v (limbs Y) 0 wr.heap.size wr (by omega) (by omega) (limbs_trim X) (limbs_trim Y) hlen HAP.out hrow hx).mono ?_
     rintro e w3 ⟨q,rfl,_,hk⟩
     rw [limbs_val,limbs_val] at hk
     have b3:Below w.heap.size w w3:=Below.of_chg hb hk.2 hb.size HBX.out
     have hy3:=(hy.at_.chg hk.2 HAP.out).here
     obtain ⟨es,hes⟩:=hs.below b3
     rw [show ((X:Int) % (Y:Int)).toNat = X % Y by omega] at hk
     have hx3:=hk.1
     clear hk hx hy hb hrow hcv
     go_wp2_with fail
     refine (is_nil es _).mono ?_
     rintro e w' ⟨rfl,rfl⟩
     have hmod:=Nat.mod_lt X hpos
     have hml:(limbs (X % Y)).length ≤ 50:=Nat.le_trans (by have:=limbs_mono (m:=((X % Y:Nat):Int)) (n:=(Y:Int)) (by omega) (by omega);rw [Int.toNat_natCast,Int.toNat_natCast] at this;exact this) hY
     have HR:Hid (EuclS w (Nat.gcd (nval a).toNat (nval b).toNat) (X % Y) (.pointer (some ⟨by_,0,none⟩)) (.pointer (some ⟨bx,0,none⟩)) w3):=Lib.hid
      ⟨Y,X % Y,by_,bx,Ty,Tx,rfl,(gcd_step X Y).trans HG.out,hY,hml,rfl,rfl,hy3,hx3,apart_symm HAP.out,HBY.out,HBX.out,b3⟩
     clear hx3 hy3 b3
     go_wp2
     go_roundg (X % Y)
     case measure=>rw [HNE.out];exact hmod
     case rel=>exact HR.out
    ·obtain rfl:Y = 0:=by omega
     have hv0:∃ A c,v = .slice A 0 c:=by
      obtain ⟨A,c,e,_⟩:=hrow.here
      rw [limbs_none] at e
      exact ⟨A,c,e⟩
     obtain ⟨A0,c0,rfl⟩:=hv0
     obtain ⟨es,hes⟩:=hs.below hb
     obtain ⟨u,hbu,ou,_,hTe⟩:=hx
     have hcu:wr.cell? ⟨bx,0,none⟩ = some u:=by rw [Lib.cell_of_heap hbu];rfl
     have HU:=Lib.hid ou
     have HTE:=Lib.hid hTe
     have HGX:=Lib.hid (show Nat.gcd (nval a).toNat (nval b).toNat = X by rw [← HG.out,Nat.gcd_zero_right])
     clear ou hTe hbu
     go_wp2_with fail
     refine (divide_zero bx A0 c0 _ _ hes).mono ?_
     rintro e w3 ⟨rfl,q,rfl⟩
     go_wp2_with fail
     refine (is_same es _).mono ?_
     rintro e w' ⟨rfl,rfl⟩
     go_wp2
     go_ret
     exact ⟨u,rfl,by rw [HV.out,HGX.out];exact own_raise HU.out (fun g hg=>HBX.out g (by rw [HTE.out,hg];simp)),below_drewN hb q⟩
  ·have ob':natOkB b = false:=by simpa using ob
   have HV:=Lib.hid (show gcdN a b = [] by unfold gcdN;rw [if_neg (fun h=>ob h.2)])
   clear ob
   go_enter Tryd.func42,Tryd.ntmps42
   go_wp2_with fail
   refine (implNatOk_same va a la ha _ (by omega) hra).mono ?_
   rintro e w' ⟨rfl,rfl⟩
   rw [oa]
   go_wp2_with fail
   refine (implNatOk_same vb b lb hb_ _ (by omega) hrb).mono ?_
   rintro e w' ⟨rfl,rfl⟩
   rw [ob']
   go_wp2
   go_ret
   rw [HV.out]
   exact new_nil (Below.refl _ _)
 ·have oa':natOkB a = false:=by simpa using oa
  have HV:=Lib.hid (show gcdN a b = [] by unfold gcdN;rw [if_neg (fun h=>oa h.1)])
  clear oa
  go_enter Tryd.func42,Tryd.ntmps42
  go_wp2_with fail
  refine (implNatOk_same va a la ha _ (by omega) hra).mono ?_
  rintro e w' ⟨rfl,rfl⟩
  rw [oa']
  go_wp2
  go_ret
  rw [HV.out]
  exact new_nil (Below.refl _ _)
theorem implNatGcd_at (a b:List Int) (hla:a.length ≤ 1048576) (hlb:b.length ≤ 1048576):∀ (ua ub:Value) (W:World),OwnI ua a W→OwnI ub b W→Sen W→Calls Tryd.prog 42 #[ua,ub] W (PostI (gcdN a b) W) :=
 fun ua ub W ha hb hs=>(implNatGcd_any ua ub a b _ _ _ _ W hla hlb (Nat.le_refl _) ha.row hb.row hs).mono fun _ _ h=>h.newV
set_option maxHeartbeats 2000000 in
theorem implIntCmp_any (vx vy:Value) (x y:SI) (w:World) (hlx:x.2.length ≤ 1048576) (hly:y.2.length ≤ 1048576) (hx:OwnS vx x w) (hy:OwnS vy y w) :
 Calls Tryd.prog 54 #[vx,vy] w fun e w'=>e = .returned (.int .i64 (cmpS x y))∧Below w.heap.size w w':=by
 obtain ⟨ux,rfl,hox⟩:=hx
 obtain ⟨uy,rfl,hoy⟩:=hy
 obtain ⟨Ax,cx,rfl⟩:=own_len hox
 obtain ⟨Ay,cy,rfl⟩:=own_len hoy
 have hbb:Below w.heap.size w ((w.alloc (.cells #[.bool x.1,.slice Ax x.2.length cx] 26)).alloc (.cells #[.bool y.1,.slice Ay y.2.length cy] 26)):=below_al (below_al (Below.refl _ _) _) _
 have kx:=(box_new w #[.bool x.1,.slice Ax x.2.length cx] 26).below (below_al (Below.refl _ _) (.cells #[.bool y.1,.slice Ay y.2.length cy] 26))
 have ky:=box_new (w.alloc (.cells #[.bool x.1,.slice Ax x.2.length cx] 26)) #[.bool y.1,.slice Ay y.2.length cy] 26
 rw [show (w.alloc (.cells #[.bool x.1,.slice Ax x.2.length cx] 26)).heap.size = w.heap.size+1 by simp] at ky
 have ox:=own_below hox hbb
 have oy:=own_below hoy hbb
 have rdx:=(OwnS.mk (x:=x) (ownI_of ox)).rd
 clear hox hoy
 by_cases okx:okS x = true
 ·go_enter Tryd.func54,Tryd.ntmps54
  go_wp2_with fail
  refine (implIntOk_any _ x _ hlx rdx).mono ?_
  rintro e w1 ⟨rfl,b1⟩
  rw [okx]
  have bb1:=Below.next hbb b1
  replace kx:=kx.below b1
  replace ky:=ky.below b1
  replace ox:=own_below ox b1
  replace oy:=own_below oy b1
  have cy0:=ky.here.cell 0 _ rfl
  have cy1:=ky.here.cell 1 _ rfl
  clear rdx
  go_wp2_with fail
  refine (implIntOk_any _ y w1 hly (OwnS.mk (x:=y) (ownI_of oy)).rd).mono ?_
  rintro e w2 ⟨rfl,b2⟩
  have bb2:=Below.next bb1 b2
  replace kx:=kx.below b2
  replace ky:=ky.below b2
  replace ox:=own_below ox b2
  replace oy:=own_below oy b2
  clear cy0 cy1
  by_cases oky:okS y = true
  ·rw [oky]
   have HV:=Lib.hid (show cmpS x y = cmpI (valS x) (valS y) by unfold cmpS;rw [if_pos ⟨okx,oky⟩])
   have px:=okS_parts okx
   have py:=okS_parts oky
   have h0x:=nval_ok px.1
   have h0y:=nval_ok py.1
   have Dx:=Lib.hid (natOk_parts px.1)
   have Dy:=Lib.hid (natOk_parts py.1)
   have cx0:=kx.here.cell 0 _ rfl
   have cx1:=kx.here.cell 1 _ rfl
   have cy0:=ky.here.cell 0 _ rfl
   have cy1:=ky.here.cell 1 _ rfl
   have hpx:x.1 = true→0 < nval x.2:=fun h=>okS_pos okx (px.2 h)
   have hpy:y.1 = true→0 < nval y.2:=fun h=>okS_pos oky (py.2 h)
   have HPX:=Lib.hid hpx
   have HPY:=Lib.hid hpy
   have rx:=(ownI_of ox).row
   have ry:=(ownI_of oy).row
   clear px py hpx hpy okx oky kx ky
   cases hx1:x.1 <;> cases hy1:y.1
   ·rw [hx1] at cx0
    rw [hy1] at cy0
    have HC:=Lib.hid (show cmpI (valS x) (valS y) = cmpI (nval x.2) (nval y.2) by unfold valS;rw [hx1,hy1];rfl)
    clear hx1 hy1
    go_wp2_with fail
    refine (compareLimbs_any _ _ x.2 y.2 0 _ 0 _ w2 (by omega) (by omega) ⟨Dx.out.1,Dx.out.2.2⟩ ⟨Dy.out.1,Dy.out.2.2⟩ rx ry).mono ?_
    rintro e w' ⟨rfl,q,rfl⟩
    go_wp2
    go_ret
    exact ⟨ret_int (by rw [HV.out,HC.out]),below_drewN bb2 q⟩
   ·rw [hx1] at cx0
    rw [hy1] at cy0
    have HC:=Lib.hid (show cmpI (valS x) (valS y) = 1 by have:=HPY.out hy1;unfold valS;rw [hx1,hy1];simp;unfold cmpI;rw [if_neg (by omega),if_pos (by omega)])
    clear hx1 hy1
    go_wp2
    go_ret
    exact ⟨ret_int (by rw [HV.out,HC.out]),bb2⟩
   ·rw [hx1] at cx0
    rw [hy1] at cy0
    have HC:=Lib.hid (show cmpI (valS x) (valS y) = -1 by have:=HPX.out hx1;unfold valS;rw [hx1,hy1];simp;unfold cmpI;rw [if_pos (by omega)])
    clear hx1 hy1
    go_wp2
    go_ret
    exact ⟨ret_int (by rw [HV.out,HC.out]),bb2⟩
   ·rw [hx1] at cx0
    rw [hy1] at cy0
    have HC:=Lib.hid (show cmpI (valS x) (valS y) = cmpI (nval y.2) (nval x.2) by unfold valS;rw [hx1,hy1];simp;unfold cmpI;split <;> split <;> (try split) <;> (try split) <;> omega)
    clear hx1 hy1
    go_wp2_with fail
    refine (compareLimbs_any _ _ y.2 x.2 0 _ 0 _ w2 (by omega) (by omega) ⟨Dy.out.1,Dy.out.2.2⟩ ⟨Dx.out.1,Dx.out.2.2⟩ ry rx).mono ?_
    rintro e w' ⟨rfl,q,rfl⟩
    go_wp2
    go_ret
    exact ⟨ret_int (by rw [HV.out,HC.out]),below_drewN bb2 q⟩
  ·have oky':okS y = false:=by simpa using oky
   have HV:=Lib.hid (show cmpS x y = 0 by unfold cmpS;rw [if_neg (fun h=>oky h.2)])
   rw [oky']
   clear oky kx ky
   go_wp2
   go_ret
   exact ⟨ret_int HV.out.symm,bb2⟩
 ·have okx':okS x = false:=by simpa using okx
  have HV:=Lib.hid (show cmpS x y = 0 by unfold cmpS;rw [if_neg (fun h=>okx h.1)])
  clear okx
  go_enter Tryd.func54,Tryd.ntmps54
  go_wp2_with fail
  refine (implIntOk_any _ x _ hlx rdx).mono ?_
  rintro e w1 ⟨rfl,b1⟩
  rw [okx']
  have bb1:=Below.next hbb b1
  clear kx ky rdx
  go_wp2
  go_ret
  exact ⟨ret_int HV.out.symm,bb1⟩
set_option maxHeartbeats 400000 in
theorem implIntSign_any (v:Value) (x:SI) (w:World) (hl:x.2.length ≤ 1048576) (h:OwnS v x w) :
 Calls Tryd.prog 41 #[v] w fun e w'=>e = .returned (.int .i64 (cmpS x zeroS))∧Below w.heap.size w w':=by
 obtain ⟨u,rfl,ho⟩:=h
 obtain ⟨A,c,rfl⟩:=own_len ho
 have hbb:Below w.heap.size w (w.alloc (.cells #[.bool x.1,.slice A x.2.length c] 26)):=below_al (Below.refl _ _) _
 have hoB:=OwnS.mk (x:=x) (ownI_of (own_below ho hbb))
 have hz:OwnS (.agg #[.bool false,.slice none 0 0]) zeroS (w.alloc (.cells #[.bool x.1,.slice A x.2.length c] 26)):=⟨_,rfl,World.ownsRow_nil _ _ _ _⟩
 go_enter Tryd.func41,Tryd.ntmps41
 go_wp2_with fail
 refine (implIntCmp_any _ _ x zeroS _ hl (by decide) hoB hz).mono ?_
 rintro e w1 ⟨rfl,b1⟩
 go_wp2
 go_ret
 exact ⟨rfl,Below.next hbb b1⟩
set_option maxHeartbeats 400000 in
theorem ratSized_any (v:Value) (x:QI) (w:World) (h:OwnQ v x w) :
 Calls Tryd.prog 45 #[v] w (Postb (decide (x.1.2.length ≤ 18∧0 < x.2.length∧x.2.length ≤ 18)) w):=by
 obtain ⟨A,c,B,f,rfl⟩:=ownQ_form h
 have bb0:Below w.heap.size w (w.alloc (.cells #[.bool x.1.1,.slice A x.1.2.length c,.slice B x.2.length f] 28)):=below_al (Below.refl _ _) _
 clear h
 by_cases g1:x.1.2.length ≤ 18
 ·have h1:decide ((x.1.2.length:Int) ≤ 18) = true:=decide_eq_true (by omega)
  by_cases g2:0 < x.2.length
  ·by_cases g3:x.2.length ≤ 18
   ·have h3:decide ((x.2.length:Int) ≤ 18) = true:=decide_eq_true (by omega)
    have HV:=Lib.hid (show decide (x.1.2.length ≤ 18∧0 < x.2.length∧x.2.length ≤ 18) = true from decide_eq_true ⟨g1,g2,g3⟩)
    clear g1 g3
    go_enter Tryd.func45,Tryd.ntmps45
    go_wp2
    go_ret
    exact ⟨ret_bool HV.out.symm,bb0⟩
   ·have h3:decide ((x.2.length:Int) ≤ 18) = false:=decide_eq_false (by omega)
    have HV:=Lib.hid (show decide (x.1.2.length ≤ 18∧0 < x.2.length∧x.2.length ≤ 18) = false from decide_eq_false (fun h=>g3 h.2.2))
    clear g1 g3
    go_enter Tryd.func45,Tryd.ntmps45
    go_wp2
    go_ret
    exact ⟨ret_bool HV.out.symm,bb0⟩
  ·have HV:=Lib.hid (show decide (x.1.2.length ≤ 18∧0 < x.2.length∧x.2.length ≤ 18) = false from decide_eq_false (fun h=>g2 h.2.1))
   clear g1
   go_enter Tryd.func45,Tryd.ntmps45
   go_wp2
   go_ret
   exact ⟨ret_bool HV.out.symm,bb0⟩
 ·have h1:decide ((x.1.2.length:Int) ≤ 18) = false:=decide_eq_false (by omega)
  have HV:=Lib.hid (show decide (x.1.2.length ≤ 18∧0 < x.2.length∧x.2.length ≤ 18) = false from decide_eq_false (fun h=>g1 h.1))
  clear g1
  go_enter Tryd.func45,Tryd.ntmps45
  go_wp2
  go_ret
  exact ⟨ret_bool HV.out.symm,bb0⟩
theorem okQ_cmp {x:QI} (h1:okS x.1 = true) (h2:natOkB x.2 = true) (h3:x.1.2.length ≤ 18∧0 < x.2.length∧x.2.length ≤ 18):(cmpN (gcdN x.1.2 x.2) (limbs 1) == 0) = okQ x:=by
 have hg:=gcdN_small x.1.2 x.2
 have pn:=(okS_parts h1).1
 have okg:natOkB (gcdN x.1.2 x.2) = true:=by
  have e:gcdN x.1.2 x.2 = limbs (Nat.gcd (nval x.1.2).toNat (nval x.2).toNat):=by unfold gcdN;rw [if_pos ⟨pn,h2⟩]
  rw [e] at hg ⊢
  exact limbs_okL _ hg
 have ok1:natOkB (limbs 1) = true:=by rw [one_limbs];rfl
 have k:=gcd_one_iff pn h2
 unfold cmpN
 rw [if_pos ⟨okg,ok1⟩,one_limbs]
 have hV:okQ x = decide (Nat.gcd (nval x.1.2).toNat (nval x.2).toNat = 1):=by unfold okQ;rw [h1,h2];simp [h3]
 rw [hV]
 by_cases hc:cmpI (nval (gcdN x.1.2 x.2)) (nval [1]) = 0
 ·rw [decide_eq_true (k.1 hc),hc];rfl
 ·rw [decide_eq_false (fun e=>hc (k.2 e)),beq_eq_false_iff_ne];exact hc
theorem okQ_false {x:QI} (h:¬ (okS x.1 = true∧natOkB x.2 = true∧x.1.2.length ≤ 18∧0 < x.2.length∧x.2.length ≤ 18)):okQ x = false:=by
 rcases Bool.eq_false_or_eq_true (okQ x) with e | e
 ·have p:=okQ_parts e
  exact absurd ⟨p.1,p.2.1,p.2.2.2.2.1,p.2.2.1,p.2.2.2.1⟩ h
 ·exact e
set_option maxHeartbeats 1000000 in
theorem implRatOk_any (vr:Value) (r:QI) (w:World) (hzr:szQ r ≤ 1048576) (hr:OwnQ vr r w) (hs:Sen w) :
 Calls Tryd.prog 69 #[vr] w (Postb (okQ r) w):=by
 have HS:=Lib.hid hs
 clear hs
 have Hr:=Lib.hid hr
 obtain ⟨Ar,cr,Br,dr,rfl⟩:=ownQ_form hr
 have OQr:=Lib.hid (show ∀ W,Below w.heap.size w W→OwnQ (.agg #[.bool r.1.1,.slice Ar r.1.2.length cr,.slice Br r.2.length dr]) r W from fun W hb=>OwnQ.below Hr.out hb)
 have OUr:=Lib.hid (show ∀ W,Below w.heap.size w W→OwnI (.slice Ar r.1.2.length cr) r.1.2 W from fun W hb=>(ownQ_open (OQr.out W hb)).2.1)
 have ODr:=Lib.hid (show ∀ W,Below w.heap.size w W→OwnI (.slice Br r.2.length dr) r.2 W from fun W hb=>(ownQ_open (OQr.out W hb)).2.2.1)
 have OSr:=Lib.hid (show ∀ W,Below w.heap.size w W→OwnS (.agg #[.bool r.1.1,.slice Ar r.1.2.length cr]) r.1 W from fun W hb=>OwnS.mk (OUr.out W hb))
 clear hr
 have hlr:=szQ_len hzr
 have hl1r:=hlr.1
 have hl2r:=hlr.2
 clear hlr
 have bb0:Below w.heap.size w (w.alloc (.cells #[.bool r.1.1,.slice Ar r.1.2.length cr,.slice Br r.2.length dr] 28)):=below_al (Below.refl _ _) _
 have kr:=(box_new w #[.bool r.1.1,.slice Ar r.1.2.length cr,.slice Br r.2.length dr] 28)
 go_enter Tryd.func69,Tryd.ntmps69
 have kr_c0:=kr.here.cell 0 _ rfl
 have kr_c1:=kr.here.cell 1 _ rfl
 have kr_c2:=kr.here.cell 2 _ rfl
 go_wp2_with fail
 clear kr_c0 kr_c1 kr_c2
 refine (implIntOk_any _ r.1 _ hl1r (OwnS.rd (OSr.out _ bb0))).mono ?_
 rintro e w1 ⟨rfl,b1⟩
 have bb1:=Below.next bb0 b1
 replace kr:=kr.below b1
 by_cases ok1:okS r.1 = true
 ·rw [ok1]
  have HO1:=Lib.hid ok1
  clear ok1
  have kr_c0:=kr.here.cell 0 _ rfl
  have kr_c1:=kr.here.cell 1 _ rfl
  have kr_c2:=kr.here.cell 2 _ rfl
  go_wp2_with fail
  refine (implNatOk_same _ r.2 _ _ _ (by omega) (ODr.out _ bb1).row).mono ?_
  rintro e w_ ⟨rfl,rfl⟩
  by_cases ok2:natOkB r.2 = true
  ·rw [ok2]
   have HO2:=Lib.hid ok2
   clear ok2
   go_wp2_with fail
   clear kr_c0 kr_c1 kr_c2
   skip
   refine (ratSized_any _ r _ (OQr.out _ bb1)).mono ?_
   rintro e w2 ⟨rfl,b2⟩
   have bb2:=Below.next bb1 b2
   replace kr:=kr.below b2
   by_cases ok3:r.1.2.length ≤ 18∧0 < r.2.length∧r.2.length ≤ 18
   ·rw [decide_eq_true ok3]
    have HV:=Lib.hid (okQ_cmp HO1.out HO2.out ok3)
    clear ok3
    have kr_c0:=kr.here.cell 0 _ rfl
    have kr_c1:=kr.here.cell 1 _ rfl
    have kr_c2:=kr.here.cell 2 _ rfl
    go_wp2_with fail
    clear kr_c0 kr_c1 kr_c2
    refine (implNatGcd_any _ _ r.1.2 r.2 0 _ 0 _ _ hl1r hl2r (Nat.le_refl _) (OUr.out _ bb2).row (ODr.out _ bb2).row (HS.out.below bb2)).mono ?_
    rintro e w3 ⟨vg,rfl,og,b3⟩
    have bb3:=Below.next bb2 b3
    replace kr:=kr.below b3
    have hgl:(gcdN r.1.2 r.2).length ≤ 1048576:=by have:=gcdN_small r.1.2 r.2;omega
    go_wp2_with fail
    refine (implNatOf_any 1 _ (by decide)).mono ?_
    rintro e w4 ⟨vo,rfl,oo,b4⟩
    have bb4:=Below.next bb3 b4
    replace kr:=kr.below b4
    rw [show (1:Int).toNat = 1 from rfl] at oo
    have og2:=own_up og b4
    go_wp2_with fail
    refine (implNatCmp_any _ _ (gcdN r.1.2 r.2) (limbs 1) _ _ _ _ _ hgl (by rw [one_limbs];decide) (Nat.le_refl _) (Nat.le_refl _) (Row.of_own og2) (Row.of_own oo)).mono ?_
    rintro e w5 ⟨rfl,b5⟩
    have bb5:=Below.next bb4 b5
    replace kr:=kr.below b5
    generalize cmpN (gcdN r.1.2 r.2) (limbs 1) = z at *
    generalize okQ r = q at *
    clear og og2 oo hgl kr
    go_wp2
    go_ret
    exact ⟨ret_bool HV.out,bb5⟩
   ·rw [decide_eq_false ok3]
    have HV:=Lib.hid (show okQ r = false from okQ_false (fun h=>ok3 h.2.2))
    clear ok3
    go_wp2
    go_ret
    exact ⟨ret_bool HV.out.symm,bb2⟩
  ·have ok2':natOkB r.2 = false:=by simpa using ok2
   have HV:=Lib.hid (show okQ r = false from okQ_false (fun h=>ok2 h.2.1))
   rw [ok2']
   clear ok2 ok2'
   go_wp2
   go_ret
   exact ⟨ret_bool HV.out.symm,bb1⟩
 ·have ok1':okS r.1 = false:=by simpa using ok1
  have HV:=Lib.hid (show okQ r = false from okQ_false (fun h=>ok1 h.1))
  rw [ok1']
  clear ok1 ok1'
  go_wp2
  go_ret
  exact ⟨ret_bool HV.out.symm,bb1⟩
set_option maxHeartbeats 400000 in
theorem natResult_same {K:NatK} (b:Nat) (A:Option Addr) (c:Nat) (xs:List Int) (w:World) (hl:xs.length ≤ 50) (hb:w.heap[b]? = some (.cells (.slice A xs.length c :: K.rest).toArray K.ty (0,0))) :
 Calls Tryd.prog 58 #[.pointer (some ⟨b,0,none⟩)] w fun e w'=>e = .returned (.slice A xs.length c)∧w = w':=by
 have hc:w.cell? ⟨b,0,none⟩ = some (.slice A xs.length c):=NatX.cell hb
 clear hb
 have h50:decide ((50:Int) < (xs.length:Int)) = false:=decide_eq_false (by omega)
 clear hl
 go_enter Tryd.func58,Tryd.ntmps58
 go_wp2
 go_ret
 exact ⟨rfl,rfl⟩
set_option maxHeartbeats 1000000 in
theorem signed_same (n:Bool) (b:Nat) (A:Option Addr) (c:Nat) (xs:List Int) (sg:Bool) (w:World) (hl:xs.length ≤ 50) (hsg:(n && decide (0 < xs.length)) = sg) (h:BoxAt b #[.slice A xs.length c,.bool n] 59 w) :
 Calls Tryd.prog 44 #[.pointer (some ⟨b,0,none⟩)] w fun e w'=>e = .returned (.agg #[.bool sg,.slice A xs.length c])∧Below w.heap.size w w':=by
 have hbb:=below_al (Below.refl w.heap.size w) (.cells #[.bool false,.slice none 0 0] 26)
 have kr:=box_new w #[.bool false,.slice none 0 0] 26
 have hx:=(box_at h).below hbb
 have hlt:=(box_at h).lt b (by simp)
 obtain ⟨W0,hW0⟩:∃ W0,W0 = w.alloc (.cells #[.bool false,.slice none 0 0] 26):=⟨_,rfl⟩
 rw [← hW0] at hx hbb kr
 have HW:=Lib.hid hW0
 have HX:=Lib.hid hx.here
 clear hW0 h
 have cn:W0.cell? ⟨b,1,none⟩ = some (.bool n):=hx.here.cell 1 _ rfl
 have cz0:=kr.here.cell 0 _ rfl
 have cz1:=kr.here.cell 1 _ rfl
 have fz0:=Lib.frozen_of_heap kr.here 0
 have fz1:=Lib.frozen_of_heap kr.here 1
 have HBB:=Lib.hid hbb
 clear kr hx hlt hbb
 have HSG:=Lib.hid hsg
 clear hsg
 by_cases h0:0 < xs.length
 ·have e0:=Lib.hid (show sg = n by rw [← HSG.out,decide_eq_true h0,Bool.and_true])
  cases n
  all_goals
   go_enter Tryd.func44,Tryd.ntmps44
   go_wp2_with fail
   rw [← HW.out]
   refine (natResult_same (K:=intK _) b A c xs _ hl HX.out).mono ?_
   rintro e w1 ⟨rfl,rfl⟩
   go_wp2
   refine bodyPost_ret (v:=.agg #[.bool _,.slice A xs.length c]) (by simp [results,Tryd.results44,go_sem,cz0,cz1];rfl) rfl ?_
   rw [e0.out]
   exact ⟨rfl,below_set2 HBB.out (Nat.le_refl _)⟩
 ·have e0:=Lib.hid (show sg = false by rw [← HSG.out,decide_eq_false h0,Bool.and_false])
  cases n
  all_goals
   go_enter Tryd.func44,Tryd.ntmps44
   go_wp2_with fail
   rw [← HW.out]
   refine (natResult_same (K:=intK _) b A c xs _ hl HX.out).mono ?_
   rintro e w1 ⟨rfl,rfl⟩
   go_wp2
   refine bodyPost_ret (v:=.agg #[.bool _,.slice A xs.length c]) (by simp [results,Tryd.results44,go_sem,cz0,cz1];rfl) rfl ?_
   rw [e0.out]
   exact ⟨rfl,below_set2 HBB.out (Nat.le_refl _)⟩
set_option maxHeartbeats 2000000 in
theorem implRatMake_any (va vb:Value) (a b:SI) (w:World) (hza:szS a ≤ 1048576) (hzb:szS b ≤ 1048576) (ha:OwnS va a w) (hb:OwnS vb b w) (hs:Sen w) :
 Calls Tryd.prog 27 #[va,vb] w (PostQb (makeQ a b).1 (makeQ a b).2 w):=by
 have HS:=Lib.hid hs
 clear hs
 have Ha:=Lib.hid ha
 obtain ⟨Aa,ca,rfl⟩:=ownS_form ha
 have OSa:=Lib.hid (show ∀ W,Below w.heap.size w W→OwnS (.agg #[.bool a.1,.slice Aa a.2.length ca]) a W from fun W hb=>OwnS.below Ha.out hb)
 have OIa:=Lib.hid (show ∀ W,Below w.heap.size w W→OwnI (.slice Aa a.2.length ca) a.2 W from fun W hb=>ownS_open (OSa.out W hb))
 clear ha
 have Hb:=Lib.hid hb
 obtain ⟨Ab,cb,rfl⟩:=ownS_form hb
 have OSb:=Lib.hid (show ∀ W,Below w.heap.size w W→OwnS (.agg #[.bool b.1,.slice Ab b.2.length cb]) b W from fun W hb=>OwnS.below Hb.out hb)
 have OIb:=Lib.hid (show ∀ W,Below w.heap.size w W→OwnI (.slice Ab b.2.length cb) b.2 W from fun W hb=>ownS_open (OSb.out W hb))
 clear hb
 have hla:a.2.length ≤ 1048576:=by unfold szS szI at hza;omega
 have hlb:b.2.length ≤ 1048576:=by unfold szS szI at hzb;omega
 clear hza hzb
 have bb0:Below w.heap.size w (((w.alloc (.cells #[.bool a.1,.slice Aa a.2.length ca] 26)).alloc (.cells #[.bool b.1,.slice Ab b.2.length cb] 26)).alloc (.cells #[.bool false,.slice none 0 0,.slice none 0 0] 28)):=below_al (below_al (below_al (Below.refl _ _) _) _) _
 have ka:=(box_new w #[.bool a.1,.slice Aa a.2.length ca] 26).below (below_al (below_al (Below.refl _ _) (.cells #[.bool b.1,.slice Ab b.2.length cb] 26)) (.cells #[.bool false,.slice none 0 0,.slice none 0 0] 28))
 have kb:=(box_new (w.alloc (.cells #[.bool a.1,.slice Aa a.2.length ca] 26)) #[.bool b.1,.slice Ab b.2.length cb] 26).below (below_al (Below.refl _ _) (.cells #[.bool false,.slice none 0 0,.slice none 0 0] 28))
 rw [show (w.alloc (.cells #[.bool a.1,.slice Aa a.2.length ca] 26)).heap.size = w.heap.size+1 by simp] at kb
 have ko:=(box_new ((w.alloc (.cells #[.bool a.1,.slice Aa a.2.length ca] 26)).alloc (.cells #[.bool b.1,.slice Ab b.2.length cb] 26)) #[.bool false,.slice none 0 0,.slice none 0 0] 28)
 rw [show ((w.alloc (.cells #[.bool a.1,.slice Aa a.2.length ca] 26)).alloc (.cells #[.bool b.1,.slice Ab b.2.length cb] 26)).heap.size = w.heap.size+1+1 by simp] at ko
 have HKO:=Lib.hid (ko.lt (w.heap.size+1+1) (by simp))
 go_enter Tryd.func27,Tryd.ntmps27
 have ka_c0:=ka.here.cell 0 _ rfl
 have ka_c1:=ka.here.cell 1 _ rfl
 go_wp2_with fail
 clear ka_c0 ka_c1
 refine (implIntOk_any _ a _ hla (OwnS.rd (OSa.out _ bb0))).mono ?_
 rintro e w1 ⟨rfl,b1⟩
 have bb1:=Below.next bb0 b1
 replace ka:=ka.below b1
 replace kb:=kb.below b1
 replace ko:=ko.below b1
 by_cases oka:okS a = true
 ·rw [oka]
  have HOa:=Lib.hid oka
  clear oka
  have kb_c0:=kb.here.cell 0 _ rfl
  have kb_c1:=kb.here.cell 1 _ rfl
  go_wp2_with fail
  clear kb_c0 kb_c1
  refine (implIntSign_any _ b _ hlb (OSb.out _ bb1)).mono ?_
  rintro e w2 ⟨rfl,b2⟩
  have bb2:=Below.next bb1 b2
  replace ka:=ka.below b2
  replace kb:=kb.below b2
  replace ko:=ko.below b2
  by_cases okb:cmpS b zeroS = 0
  ·have HV:=Lib.hid (show makeQ a b = (zeroQ,false) from makeQ_none (fun h=>h.2 okb))
   rw [okb]
   clear okb
   have ko_c0:=ko.here.cell 0 _ rfl
   have ko_c1:=ko.here.cell 1 _ rfl
   have ko_c2:=ko.here.cell 2 _ rfl
   have cz0:=ko.here.cell 0 _ rfl
   have fz0:=Lib.frozen_of_heap ko.here 0
   have cz1:=ko.here.cell 1 _ rfl
   have fz1:=Lib.frozen_of_heap ko.here 1
   have cz2:=ko.here.cell 2 _ rfl
   have fz2:=Lib.frozen_of_heap ko.here 2
   go_wp2
   refine bodyPost_ret (v:=.tuple #[.agg #[.bool false,.slice none 0 0,.slice none 0 0],.bool false]) (by simp [results,Tryd.results27,go_sem,cz0,cz1,cz2]) rfl ?_
   rw [HV.out]
   first | exact newQb_zero _ bb2 | exact newQb_zero _ (below_set3 bb2 (by omega))
  ·have hne:(cmpS b zeroS == 0) = false:=by rw [beq_eq_false_iff_ne];exact okb
   obtain ⟨X,Y,eg,ex,ey,lx,ly,hy0,HV0⟩:=makeQ_parts HOa.out okb
   have EX:=Lib.hid ex
   have EY:=Lib.hid ey
   have HVm:=Lib.hid HV0
   have hgl:=gcdN_small a.2 b.2
   obtain ⟨G,hG⟩:∃ G,gcdN a.2 b.2 = G:=⟨_,rfl⟩
   have EG:=Lib.hid hG
   rw [hG] at hgl
   have EXG:=Lib.hid (show (divN a.2 G).1 = limbs X by rw [← hG];exact ex)
   have EYG:=Lib.hid (show (divN b.2 G).1 = limbs Y by rw [← hG];exact ey)
   have kb50:=(natOk_parts (okS_parts (cmpS_ok okb)).1).2.1
   have ka50:=(natOk_parts (okS_parts HOa.out).1).2.1
   generalize cmpS b zeroS = z at *
   clear eg ex ey HV0 hG okb
   have ka_c0:=ka.here.cell 0 _ rfl
   have ka_c1:=ka.here.cell 1 _ rfl
   have kb_c0:=kb.here.cell 0 _ rfl
   have kb_c1:=kb.here.cell 1 _ rfl
   go_wp2_with fail
   clear ka_c0 ka_c1 kb_c0 kb_c1
   refine (implNatGcd_any _ _ a.2 b.2 0 _ 0 _ _ hla hlb (Nat.le_refl _) (OIa.out _ bb2).row (OIb.out _ bb2).row (HS.out.below bb2)).mono ?_
   rintro e w3 ⟨vg,rfl,og0,b3⟩
   rw [EG.out] at og0
   have og:=own_at' og0
   obtain ⟨Ag,cg,rfl⟩:=own_len og0
   have bb3:=Below.next bb2 b3
   replace ka:=ka.below b3
   replace kb:=kb.below b3
   replace ko:=ko.below b3
   clear hne og0
   have ka_c0:=ka.here.cell 0 _ rfl
   have ka_c1:=ka.here.cell 1 _ rfl
   go_wp2_with fail
   clear ka_c0 ka_c1
   refine (implNatDiv_any _ _ a.2 G 0 _ 0 _ _ hla (by omega) (Nat.le_refl _) (Nat.le_refl _) (OIa.out _ bb3).row (At.here og).row (HS.out.below bb3)).mono ?_
   rintro e w4 ⟨vx,vx2,rfl,ox0,_,_,b4⟩
   rw [EXG.out] at ox0
   have ox:=own_at' ox0
   obtain ⟨Ax,cx,rfl⟩:=own_len ox0
   have bb4:=Below.next bb3 b4
   replace ka:=ka.below b4
   replace kb:=kb.below b4
   replace ko:=ko.below b4
   replace og:=og.below b4
   have kb_c0:=kb.here.cell 0 _ rfl
   have kb_c1:=kb.here.cell 1 _ rfl
   go_wp2_with fail
   clear kb_c0 kb_c1
   refine (implNatDiv_any _ _ b.2 G 0 _ 0 _ _ hlb (by omega) (Nat.le_refl _) (Nat.le_refl _) (OIb.out _ bb4).row (At.here og).row (HS.out.below bb4)).mono ?_
   rintro e w5 ⟨vy,vy2,rfl,oy0,_,_,b5⟩
   rw [EYG.out] at oy0
   obtain ⟨Ay,cy,rfl⟩:=own_len oy0
   have bb5:=Below.next bb4 b5
   replace ka:=ka.below b5
   replace kb:=kb.below b5
   replace ko:=ko.below b5
   replace og:=og.below b5
   replace ox:=ox.below b5
   have hap:∀ g,(Value.slice Ax (limbs X).length cx).ownBlock = some g→(Value.slice Ay (limbs Y).length cy).ownBlock ≠ some g:=fun g h1 h2=>by
    have h3:=(own_lt ox0 h1).2
    have h4:=(own_lt oy0 h2).1
    omega
   have ox1:=own_up ox0 b5
   obtain ⟨sg,hsg⟩:∃ sg,((!(a.1 == b.1)) && decide (0 < (limbs X).length)) = sg:=⟨_,rfl⟩
   have ESG:=Lib.hid hsg
   have EM:=Lib.hid (show mkS (!(a.1 == b.1)) (limbs X) = (sg,limbs X) by unfold mkS capL;rw [if_neg (by omega),hsg])
   have of:=partsQ_at (x:=((sg,limbs X),limbs Y)) ox1 oy0 hap
   have lf0:Within (partsB (Value.slice Ax (limbs X).length cx) (Value.slice Ay (limbs Y).length cy)) w3.heap.size w5.heap.size:=fun g hg=>by
    rcases List.mem_append.1 hg with hg | hg
    ·exact own_within ox1 g hg
    ·have:=own_within oy0 g hg
     have:=b4.size
     omega
   have LF:=Lib.hid lf0
   have HS2:=Lib.hid (show w.heap.size+1+1 < w3.heap.size from Nat.lt_of_lt_of_le HKO.out (by have:=b1.size;have:=b2.size;have:=b3.size; omega))
   clear ox0 oy0 ox1 hap lf0 hsg ox og
   have ka_c0:=ka.here.cell 0 _ rfl
   have ka_c1:=ka.here.cell 1 _ rfl
   have kb_c0:=kb.here.cell 0 _ rfl
   have kb_c1:=kb.here.cell 1 _ rfl
   have kn:=box_new (w5) #[.slice Ax (limbs X).length cx,.bool (!(a.1 == b.1))] 59
   have aln:=below_al (Below.refl (w5).heap.size (w5)) (.cells #[.slice Ax (limbs X).length cx,.bool (!(a.1 == b.1))] 59)
   have bbn:=Below.next bb5 aln
   replace ka:=ka.below aln
   replace kb:=kb.below aln
   replace ko:=ko.below aln
   replace of:=of.below aln
   go_wp2_with fail
   clear ka_c0 ka_c1 kb_c0 kb_c1
   refine (signed_same _ _ Ax cx (limbs X) sg _ lx ESG.out kn.here).mono ?_
   rintro e w6 ⟨rfl,b6⟩
   have bb6:=Below.next bbn b6
   replace ka:=ka.below b6
   replace kb:=kb.below b6
   replace ko:=ko.below b6
   replace of:=of.below b6
   replace kn:=kn.below b6
   clear kn
   have kr:=box_new (w6) #[.bool sg,.slice Ax (limbs X).length cx,.slice Ay (limbs Y).length cy] 28
   have alr:=below_al (Below.refl (w6).heap.size (w6)) (.cells #[.bool sg,.slice Ax (limbs X).length cx,.slice Ay (limbs Y).length cy] 28)
   have bbr:=Below.next bb6 alr
   replace ka:=ka.below alr
   replace kb:=kb.below alr
   replace ko:=ko.below alr
   replace of:=of.below alr
   have kr_c0:=kr.here.cell 0 _ rfl
   have kr_c1:=kr.here.cell 1 _ rfl
   have kr_c2:=kr.here.cell 2 _ rfl
   go_wp2_with fail
   clear kr_c0 kr_c1 kr_c2
   refine (ratSized_any _ ((sg,limbs X),limbs Y) _ of.here).mono ?_
   rintro e w7 ⟨rfl,b7⟩
   have bb7:=Below.next bbr b7
   replace ka:=ka.below b7
   replace kb:=kb.below b7
   replace ko:=ko.below b7
   replace of:=of.below b7
   replace kr:=kr.below b7
   by_cases hsz:(limbs X).length ≤ 18∧0 < (limbs Y).length∧(limbs Y).length ≤ 18
   ·have HV:=Lib.hid (show makeQ a b = (((sg,limbs X),limbs Y),true) by rw [HVm.out,if_pos ⟨hsz.1,hsz.2.2⟩,EM.out])
    rw [decide_eq_true hsz]
    clear hsz
    have hkz:=kr.here.cell 0 _ rfl
    have hkz1:=kr.here.cell 1 _ rfl
    have hkz2:=kr.here.cell 2 _ rfl
    have HW:=Lib.hid (newQb_at (x:=((sg,limbs X),limbs Y)) (r:=w.heap.size+1+1) (b:=true) of (within_up LF.out (Nat.le_refl _) (by have:=b6.size;have:=b7.size;have:=aln.size;have:=alr.size;omega)) HS2.out (by omega) bb7)
    have cz0:=ko.here.cell 0 _ rfl
    have fz0:=Lib.frozen_of_heap ko.here 0
    have cz1:=ko.here.cell 1 _ rfl
    have fz1:=Lib.frozen_of_heap ko.here 1
    have cz2:=ko.here.cell 2 _ rfl
    have fz2:=Lib.frozen_of_heap ko.here 2
    clear of ko kr
    go_wp2
    refine bodyPost_ret (v:=.tuple #[.agg #[.bool sg,.slice Ax _ cx,.slice Ay _ cy],.bool true]) (by simp [results,Tryd.results27,go_sem,cz0,cz1,cz2];exact ⟨rfl,rfl⟩) rfl ?_
    rw [HV.out]
    exact HW.out
   ·have HV:=Lib.hid (show makeQ a b = (zeroQ,false) by rw [HVm.out,if_neg (fun h=>hsz ⟨h.1,hy0,h.2⟩)])
    rw [decide_eq_false hsz]
    clear hsz
    have ko_c0:=ko.here.cell 0 _ rfl
    have ko_c1:=ko.here.cell 1 _ rfl
    have ko_c2:=ko.here.cell 2 _ rfl
    have cz0:=ko.here.cell 0 _ rfl
    have fz0:=Lib.frozen_of_heap ko.here 0
    have cz1:=ko.here.cell 1 _ rfl
    have fz1:=Lib.frozen_of_heap ko.here 1
    have cz2:=ko.here.cell 2 _ rfl
    have fz2:=Lib.frozen_of_heap ko.here 2
    go_wp2
    refine bodyPost_ret (v:=.tuple #[.agg #[.bool false,.slice none 0 0,.slice none 0 0],.bool false]) (by simp [results,Tryd.results27,go_sem,cz0,cz1,cz2]) rfl ?_
    rw [HV.out]
    first | exact newQb_zero _ bb7 | exact newQb_zero _ (below_set3 bb7 (by omega))
 ·have oka':okS a = false:=by simpa using oka
  have HV:=Lib.hid (show makeQ a b = (zeroQ,false) from makeQ_none (fun h=>oka h.1))
  rw [oka']
  clear oka oka'
  have ko_c0:=ko.here.cell 0 _ rfl
  have ko_c1:=ko.here.cell 1 _ rfl
  have ko_c2:=ko.here.cell 2 _ rfl
  have cz0:=ko.here.cell 0 _ rfl
  have fz0:=Lib.frozen_of_heap ko.here 0
  have cz1:=ko.here.cell 1 _ rfl
  have fz1:=Lib.frozen_of_heap ko.here 1
  have cz2:=ko.here.cell 2 _ rfl
  have fz2:=Lib.frozen_of_heap ko.here 2
  go_wp2
  refine bodyPost_ret (v:=.tuple #[.agg #[.bool false,.slice none 0 0,.slice none 0 0],.bool false]) (by simp [results,Tryd.results27,go_sem,cz0,cz1,cz2]) rfl ?_
  rw [HV.out]
  first | exact newQb_zero _ bb1 | exact newQb_zero _ (below_set3 bb1 (by omega))
theorem newV_at2 {φ:Value→World→Prop} {r B:Nat} {S:List Nat} {c0 c1:Value} {w W:World} (o:At S (φ (.agg #[c0,c1])) W) (l:Within S B W.heap.size) (hrB:r < B) (hr:w.heap.size ≤ r) (hW:Below w.heap.size w W) :
 NewV φ w (.returned (.agg #[c0,c1])) ((W.setCell ⟨r,0,none⟩ c0).setCell ⟨r,1,none⟩ c1):=by
 have hc:Chg [r] W ((W.setCell ⟨r,0,none⟩ c0).setCell ⟨r,1,none⟩ c1):=((Chg.refl _ _).setCell (by simp) _).setCell (by simp) _
 have hz:=hc.size
 exact ⟨_,S,rfl,o.chg hc (fun i hi hm=>by have:=l i hi;simp at hm;omega),fun i hi=>by have:=l i hi;omega,below_set2 hW hr⟩
theorem newVS_eq {x y:SI} (e:x = y) {w w':World} {n:Ending} (h:NewV (fun v=>OwnS v x) w n w'):NewV (fun v=>OwnS v y) w n w':=by rw [← e];exact h
set_option maxHeartbeats 2000000 in
theorem numerators_any {Ar Br:Option Addr} {cr dr:Nat} {As Bs:Option Addr} {cs ds:Nat} (r s:QI) (w:World) (pr:Parts r) (ps:Parts s) (hr:OwnQ (.agg #[.bool r.1.1,.slice Ar r.1.2.length cr,.slice Br r.2.length dr]) r w) (hs:OwnQ (.agg #[.bool s.1.1,.slice As s.1.2.length cs,.slice Bs s.2.length ds]) s w) :
 Calls Tryd.prog 47 #[.agg #[.bool r.1.1,.slice Ar r.1.2.length cr,.slice Br r.2.length dr,.bool s.1.1,.slice As s.1.2.length cs,.slice Bs s.2.length ds]] w (NewV (fun v=>OwnS v (topS r s)) w):=by
 have HPr:=Lib.hid pr
 have HPs:=Lib.hid ps
 have hl1r:r.1.2.length ≤ 1048576:=by have:=pr.n50;omega
 have hl2r:r.2.length ≤ 1048576:=by have:=pr.d50;omega
 have hl1s:s.1.2.length ≤ 1048576:=by have:=ps.n50;omega
 have hl2s:s.2.length ≤ 1048576:=by have:=ps.d50;omega
 clear pr ps
 have Hr:=Lib.hid hr
 have OQr:=Lib.hid (show ∀ W,Below w.heap.size w W→OwnQ (.agg #[.bool r.1.1,.slice Ar r.1.2.length cr,.slice Br r.2.length dr]) r W from fun W hb=>OwnQ.below Hr.out hb)
 have OUr:=Lib.hid (show ∀ W,Below w.heap.size w W→OwnI (.slice Ar r.1.2.length cr) r.1.2 W from fun W hb=>(ownQ_open (OQr.out W hb)).2.1)
 have ODr:=Lib.hid (show ∀ W,Below w.heap.size w W→OwnI (.slice Br r.2.length dr) r.2 W from fun W hb=>(ownQ_open (OQr.out W hb)).2.2.1)
 have OSr:=Lib.hid (show ∀ W,Below w.heap.size w W→OwnS (.agg #[.bool r.1.1,.slice Ar r.1.2.length cr]) r.1 W from fun W hb=>OwnS.mk (OUr.out W hb))
 clear hr
 have Hs:=Lib.hid hs
 have OQs:=Lib.hid (show ∀ W,Below w.heap.size w W→OwnQ (.agg #[.bool s.1.1,.slice As s.1.2.length cs,.slice Bs s.2.length ds]) s W from fun W hb=>OwnQ.below Hs.out hb)
 have OUs:=Lib.hid (show ∀ W,Below w.heap.size w W→OwnI (.slice As s.1.2.length cs) s.1.2 W from fun W hb=>(ownQ_open (OQs.out W hb)).2.1)
 have ODs:=Lib.hid (show ∀ W,Below w.heap.size w W→OwnI (.slice Bs s.2.length ds) s.2 W from fun W hb=>(ownQ_open (OQs.out W hb)).2.2.1)
 have OSs:=Lib.hid (show ∀ W,Below w.heap.size w W→OwnS (.agg #[.bool s.1.1,.slice As s.1.2.length cs]) s.1 W from fun W hb=>OwnS.mk (OUs.out W hb))
 clear hs
 have bb0:Below w.heap.size w ((w.alloc (.cells #[.bool r.1.1,.slice Ar r.1.2.length cr,.slice Br r.2.length dr,.bool s.1.1,.slice As s.1.2.length cs,.slice Bs s.2.length ds] 63)).alloc (.cells #[.bool false,.slice none 0 0] 26)):=below_al (below_al (Below.refl _ _) _) _
 have kp:=(box_new w #[.bool r.1.1,.slice Ar r.1.2.length cr,.slice Br r.2.length dr,.bool s.1.1,.slice As s.1.2.length cs,.slice Bs s.2.length ds] 63).below (below_al (Below.refl _ _) (.cells #[.bool false,.slice none 0 0] 26))
 have ko:=(box_new (w.alloc (.cells #[.bool r.1.1,.slice Ar r.1.2.length cr,.slice Br r.2.length dr,.bool s.1.1,.slice As s.1.2.length cs,.slice Bs s.2.length ds] 63)) #[.bool false,.slice none 0 0] 26)
 rw [show (w.alloc (.cells #[.bool r.1.1,.slice Ar r.1.2.length cr,.slice Br r.2.length dr,.bool s.1.1,.slice As s.1.2.length cs,.slice Bs s.2.length ds] 63)).heap.size = w.heap.size+1 by simp] at ko
 have HKO:=Lib.hid (ko.lt (w.heap.size+1) (by simp))
 have hz0:=bb0.size
 go_enter Tryd.func47,Tryd.ntmps47
 have kp_c0:=kp.here.cell 0 _ rfl
 have kp_c1:=kp.here.cell 1 _ rfl
 have kp_c2:=kp.here.cell 2 _ rfl
 have kp_c3:=kp.here.cell 3 _ rfl
 have kp_c4:=kp.here.cell 4 _ rfl
 have kp_c5:=kp.here.cell 5 _ rfl
 go_wp2_with fail
 clear kp_c0 kp_c1 kp_c2 kp_c3 kp_c4 kp_c5
 refine ((implIntMul_any _ _ r.1 s.1 _ hl1r hl1s (OSr.out _ bb0) (OSs.out _ bb0)).mono fun _ _ h=>NewS.newV (x:=topS r s) h).mono ?_
 rintro e w1 ⟨uf,Sf,rfl,of,lf,b1⟩
 obtain ⟨Af,cf,rfl⟩:=ownS_form of.here
 have bb1:=Below.next bb0 b1
 replace kp:=kp.below b1
 replace ko:=ko.below b1
 have HW:=Lib.hid (newV_at2 (φ:=fun v=>OwnS v (topS r s)) (r:=w.heap.size+1) of (by exact lf) (by have:=HKO.out;have:=hz0;omega) (by omega) bb1)
 have cz0:=ko.here.cell 0 _ rfl
 have fz0:=Lib.frozen_of_heap ko.here 0
 have cz1:=ko.here.cell 1 _ rfl
 have fz1:=Lib.frozen_of_heap ko.here 1
 clear of ko kp
 go_wp2
 refine bodyPost_ret (v:=.agg #[.bool _,.slice Af _ cf]) (by simp [results,Tryd.results47,go_sem,cz0,cz1];exact ⟨rfl,rfl⟩) rfl ?_
 exact HW.out
set_option maxHeartbeats 2000000 in
theorem denominators_any {Ar Br:Option Addr} {cr dr:Nat} {As Bs:Option Addr} {cs ds:Nat} (r s:QI) (w:World) (pr:Parts r) (ps:Parts s) (hr:OwnQ (.agg #[.bool r.1.1,.slice Ar r.1.2.length cr,.slice Br r.2.length dr]) r w) (hs:OwnQ (.agg #[.bool s.1.1,.slice As s.1.2.length cs,.slice Bs s.2.length ds]) s w) :
 Calls Tryd.prog 48 #[.agg #[.bool r.1.1,.slice Ar r.1.2.length cr,.slice Br r.2.length dr,.bool s.1.1,.slice As s.1.2.length cs,.slice Bs s.2.length ds]] w (NewV (fun v=>OwnS v (denS r s)) w):=by
 have HPr:=Lib.hid pr
 have HPs:=Lib.hid ps
 have hl1r:r.1.2.length ≤ 1048576:=by have:=pr.n50;omega
 have hl2r:r.2.length ≤ 1048576:=by have:=pr.d50;omega
 have hl1s:s.1.2.length ≤ 1048576:=by have:=ps.n50;omega
 have hl2s:s.2.length ≤ 1048576:=by have:=ps.d50;omega
 clear pr ps
 have Hr:=Lib.hid hr
 have OQr:=Lib.hid (show ∀ W,Below w.heap.size w W→OwnQ (.agg #[.bool r.1.1,.slice Ar r.1.2.length cr,.slice Br r.2.length dr]) r W from fun W hb=>OwnQ.below Hr.out hb)
 have OUr:=Lib.hid (show ∀ W,Below w.heap.size w W→OwnI (.slice Ar r.1.2.length cr) r.1.2 W from fun W hb=>(ownQ_open (OQr.out W hb)).2.1)
 have ODr:=Lib.hid (show ∀ W,Below w.heap.size w W→OwnI (.slice Br r.2.length dr) r.2 W from fun W hb=>(ownQ_open (OQr.out W hb)).2.2.1)
 have OSr:=Lib.hid (show ∀ W,Below w.heap.size w W→OwnS (.agg #[.bool r.1.1,.slice Ar r.1.2.length cr]) r.1 W from fun W hb=>OwnS.mk (OUr.out W hb))
 clear hr
 have Hs:=Lib.hid hs
 have OQs:=Lib.hid (show ∀ W,Below w.heap.size w W→OwnQ (.agg #[.bool s.1.1,.slice As s.1.2.length cs,.slice Bs s.2.length ds]) s W from fun W hb=>OwnQ.below Hs.out hb)
 have OUs:=Lib.hid (show ∀ W,Below w.heap.size w W→OwnI (.slice As s.1.2.length cs) s.1.2 W from fun W hb=>(ownQ_open (OQs.out W hb)).2.1)
 have ODs:=Lib.hid (show ∀ W,Below w.heap.size w W→OwnI (.slice Bs s.2.length ds) s.2 W from fun W hb=>(ownQ_open (OQs.out W hb)).2.2.1)
 have OSs:=Lib.hid (show ∀ W,Below w.heap.size w W→OwnS (.agg #[.bool s.1.1,.slice As s.1.2.length cs]) s.1 W from fun W hb=>OwnS.mk (OUs.out W hb))
 clear hs
 have bb0:Below w.heap.size w ((w.alloc (.cells #[.bool r.1.1,.slice Ar r.1.2.length cr,.slice Br r.2.length dr,.bool s.1.1,.slice As s.1.2.length cs,.slice Bs s.2.length ds] 63)).alloc (.cells #[.bool false,.slice none 0 0] 26)):=below_al (below_al (Below.refl _ _) _) _
 have kp:=(box_new w #[.bool r.1.1,.slice Ar r.1.2.length cr,.slice Br r.2.length dr,.bool s.1.1,.slice As s.1.2.length cs,.slice Bs s.2.length ds] 63).below (below_al (Below.refl _ _) (.cells #[.bool false,.slice none 0 0] 26))
 have ko:=(box_new (w.alloc (.cells #[.bool r.1.1,.slice Ar r.1.2.length cr,.slice Br r.2.length dr,.bool s.1.1,.slice As s.1.2.length cs,.slice Bs s.2.length ds] 63)) #[.bool false,.slice none 0 0] 26)
 rw [show (w.alloc (.cells #[.bool r.1.1,.slice Ar r.1.2.length cr,.slice Br r.2.length dr,.bool s.1.1,.slice As s.1.2.length cs,.slice Bs s.2.length ds] 63)).heap.size = w.heap.size+1 by simp] at ko
 have HKO:=Lib.hid (ko.lt (w.heap.size+1) (by simp))
 have hz0:=bb0.size
 go_enter Tryd.func48,Tryd.ntmps48
 have kp_c0:=kp.here.cell 0 _ rfl
 have kp_c1:=kp.here.cell 1 _ rfl
 have kp_c2:=kp.here.cell 2 _ rfl
 have kp_c3:=kp.here.cell 3 _ rfl
 have kp_c4:=kp.here.cell 4 _ rfl
 have kp_c5:=kp.here.cell 5 _ rfl
 go_wp2_with fail
 clear kp_c0 kp_c1 kp_c2 kp_c3 kp_c4 kp_c5
 refine ((implNatMul_any _ _ r.2 s.2 0 _ 0 _ _ hl2r hl2s (Nat.le_refl _) (Nat.le_refl _) (ODr.out _ bb0).row (ODs.out _ bb0).row).mono fun _ _ h=>h.newV).mono ?_
 rintro e w1 ⟨uf,Sf,rfl,of0,lf,b1⟩
 obtain ⟨Af,cf,rfl⟩:=own_len of0.here
 have of:=of0.imp (ψ:=OwnS (.agg #[.bool false,.slice Af (mulN r.2 s.2).length cf]) (denS r s)) fun _ h=>OwnS.mk (x:=denS r s) h
 clear of0
 have bb1:=Below.next bb0 b1
 replace kp:=kp.below b1
 replace ko:=ko.below b1
 have HW:=Lib.hid (newV_at2 (φ:=fun v=>OwnS v (denS r s)) (r:=w.heap.size+1) of (by exact lf) (by have:=HKO.out;have:=hz0;omega) (by omega) bb1)
 have cz0:=ko.here.cell 0 _ rfl
 have fz0:=Lib.frozen_of_heap ko.here 0
 have cz1:=ko.here.cell 1 _ rfl
 have fz1:=Lib.frozen_of_heap ko.here 1
 clear of ko kp
 go_wp2
 refine bodyPost_ret (v:=.agg #[.bool false,.slice Af _ cf]) (by simp [results,Tryd.results48,go_sem,cz0,cz1];rfl) rfl ?_
 exact HW.out
set_option maxHeartbeats 2000000 in
theorem ok_any {Ar Br:Option Addr} {cr dr:Nat} {As Bs:Option Addr} {cs ds:Nat} (r s:QI) (w:World) (hzr:szQ r ≤ 1048576) (hzs:szQ s ≤ 1048576) (hsen:Sen w) (hr:OwnQ (.agg #[.bool r.1.1,.slice Ar r.1.2.length cr,.slice Br r.2.length dr]) r w) (hs:OwnQ (.agg #[.bool s.1.1,.slice As s.1.2.length cs,.slice Bs s.2.length ds]) s w) :
 Calls Tryd.prog 59 #[.agg #[.bool r.1.1,.slice Ar r.1.2.length cr,.slice Br r.2.length dr,.bool s.1.1,.slice As s.1.2.length cs,.slice Bs s.2.length ds]] w (Postb (okQ r && okQ s) w):=by
 have HS:=Lib.hid hsen
 clear hsen
 have Hr:=Lib.hid hr
 have OQr:=Lib.hid (show ∀ W,Below w.heap.size w W→OwnQ (.agg #[.bool r.1.1,.slice Ar r.1.2.length cr,.slice Br r.2.length dr]) r W from fun W hb=>OwnQ.below Hr.out hb)
 have OUr:=Lib.hid (show ∀ W,Below w.heap.size w W→OwnI (.slice Ar r.1.2.length cr) r.1.2 W from fun W hb=>(ownQ_open (OQr.out W hb)).2.1)
 have ODr:=Lib.hid (show ∀ W,Below w.heap.size w W→OwnI (.slice Br r.2.length dr) r.2 W from fun W hb=>(ownQ_open (OQr.out W hb)).2.2.1)
 have OSr:=Lib.hid (show ∀ W,Below w.heap.size w W→OwnS (.agg #[.bool r.1.1,.slice Ar r.1.2.length cr]) r.1 W from fun W hb=>OwnS.mk (OUr.out W hb))
 clear hr
 have Hs:=Lib.hid hs
 have OQs:=Lib.hid (show ∀ W,Below w.heap.size w W→OwnQ (.agg #[.bool s.1.1,.slice As s.1.2.length cs,.slice Bs s.2.length ds]) s W from fun W hb=>OwnQ.below Hs.out hb)
 have OUs:=Lib.hid (show ∀ W,Below w.heap.size w W→OwnI (.slice As s.1.2.length cs) s.1.2 W from fun W hb=>(ownQ_open (OQs.out W hb)).2.1)
 have ODs:=Lib.hid (show ∀ W,Below w.heap.size w W→OwnI (.slice Bs s.2.length ds) s.2 W from fun W hb=>(ownQ_open (OQs.out W hb)).2.2.1)
 have OSs:=Lib.hid (show ∀ W,Below w.heap.size w W→OwnS (.agg #[.bool s.1.1,.slice As s.1.2.length cs]) s.1 W from fun W hb=>OwnS.mk (OUs.out W hb))
 clear hs
 have bb0:Below w.heap.size w (w.alloc (.cells #[.bool r.1.1,.slice Ar r.1.2.length cr,.slice Br r.2.length dr,.bool s.1.1,.slice As s.1.2.length cs,.slice Bs s.2.length ds] 63)):=below_al (Below.refl _ _) _
 have kp:=(box_new w #[.bool r.1.1,.slice Ar r.1.2.length cr,.slice Br r.2.length dr,.bool s.1.1,.slice As s.1.2.length cs,.slice Bs s.2.length ds] 63)
 go_enter Tryd.func59,Tryd.ntmps59
 have kp_c0:=kp.here.cell 0 _ rfl
 have kp_c1:=kp.here.cell 1 _ rfl
 have kp_c2:=kp.here.cell 2 _ rfl
 have kp_c3:=kp.here.cell 3 _ rfl
 have kp_c4:=kp.here.cell 4 _ rfl
 have kp_c5:=kp.here.cell 5 _ rfl
 go_wp2_with fail
 clear kp_c0 kp_c1 kp_c2 kp_c3 kp_c4 kp_c5
 refine (implRatOk_any _ r _ hzr (OQr.out _ bb0) (HS.out.below bb0)).mono ?_
 rintro e w1 ⟨rfl,b1⟩
 have bb1:=Below.next bb0 b1
 replace kp:=kp.below b1
 by_cases okr:okQ r = true
 ·rw [okr]
  have HV:=Lib.hid (show (okQ r && okQ s) = okQ s by rw [okr,Bool.true_and])
  clear okr
  have kp_c0:=kp.here.cell 0 _ rfl
  have kp_c1:=kp.here.cell 1 _ rfl
  have kp_c2:=kp.here.cell 2 _ rfl
  have kp_c3:=kp.here.cell 3 _ rfl
  have kp_c4:=kp.here.cell 4 _ rfl
  have kp_c5:=kp.here.cell 5 _ rfl
  go_wp2_with fail
  clear kp_c0 kp_c1 kp_c2 kp_c3 kp_c4 kp_c5
  refine (implRatOk_any _ s _ hzs (OQs.out _ bb1) (HS.out.below bb1)).mono ?_
  rintro e w2 ⟨rfl,b2⟩
  have bb2:=Below.next bb1 b2
  replace kp:=kp.below b2
  generalize okQ s = q at *
  go_wp2
  go_ret
  exact ⟨ret_bool HV.out.symm,bb2⟩
 ·have okr':okQ r = false:=by simpa using okr
  have HV:=Lib.hid (show (okQ r && okQ s) = false by rw [okr',Bool.false_and])
  rw [okr']
  clear okr okr'
  go_wp2
  go_ret
  exact ⟨ret_bool HV.out.symm,bb1⟩
theorem szS_ofZ (z:Int):szS (ofZ z) ≤ 1048576:=by have:=ofZ_len z;unfold szS szI;omega
theorem part_sz_left {r s:QI} (hr:Parts r) (hs:Parts s):szS (leftS r s) ≤ 1048576:=by rw [(leftS_eq hr hs).1];exact szS_ofZ _
theorem part_sz_right {r s:QI} (hr:Parts r) (hs:Parts s):szS (leftS s r) ≤ 1048576:=part_sz_left hs hr
theorem part_sz_numerators {r s:QI} (hr:Parts r) (hs:Parts s):szS (topS r s) ≤ 1048576:=by rw [(topS_eq hr hs).1];exact szS_ofZ _
theorem part_sz_denominators {r s:QI} (hr:Parts r) (hs:Parts s):szS (denS r s) ≤ 1048576:=by
 have h:=denS_eq hr hs
 rw [h.1]
 unfold szS szI
 simp only
 have:=h.2.2
 omega
theorem part_sz_sum {r s:QI} (_:Parts r) (_:Parts s):szS (addS (leftS r s) (leftS s r)) ≤ 1048576:=by unfold addS;split;exact szS_ofZ _;decide
theorem part_sz_difference {r s:QI} (_:Parts r) (_:Parts s):szS (subS (leftS r s) (leftS s r)) ≤ 1048576:=by unfold subS;split;exact szS_ofZ _;decide
theorem negQ_ok {s:QI} (h:(negQ s).2 = true):okQ s = true:=by
 unfold negQ at h
 split at h
 ·rename_i k;exact k
 ·cases h
theorem subQ_none {r s:QI} (h:¬ (okQ r = true∧okQ s = true)):subQ r s = (zeroQ,false):=by
 unfold subQ
 split
 ·rename_i k
  have ks:=negQ_ok k
  unfold addQ
  rw [if_neg (fun e=>h ⟨e.1,ks⟩)]
 ·rfl
theorem At.imp_at {u d:Value} {n:Bool} {x:SI} {ys:List Int} {S T:List Nat} {w:World} (h:At (S ++ T) (fun w=>OwnS (.agg #[.bool n,u]) x w∧OwnI d ys w) w) (hap:∀ g,u.ownBlock = some g→d.ownBlock = some g→False):At (S ++ T) (OwnQ (.agg #[.bool x.1,u,d]) (x,ys)) w :=
 h.imp fun _ k=>⟨u,d,rfl,ownS_open k.1,k.2,fun g h1 h2=>hap g h1 h2⟩
set_option maxHeartbeats 2000000 in
theorem combineRatMul_any {Ar Br:Option Addr} {cr dr:Nat} {As Bs:Option Addr} {cs ds:Nat} (r s:QI) (w:World) (hzr:szQ r ≤ 1048576) (hzs:szQ s ≤ 1048576) (hsen:Sen w) (hr:OwnQ (.agg #[.bool r.1.1,.slice Ar r.1.2.length cr,.slice Br r.2.length dr]) r w) (hs:OwnQ (.agg #[.bool s.1.1,.slice As s.1.2.length cs,.slice Bs s.2.length ds]) s w) :
 Calls Tryd.prog 46 #[.agg #[.bool r.1.1,.slice Ar r.1.2.length cr,.slice Br r.2.length dr,.bool s.1.1,.slice As s.1.2.length cs,.slice Bs s.2.length ds],.func (.func 47) #[.agg #[.bool r.1.1,.slice Ar r.1.2.length cr,.slice Br r.2.length dr,.bool s.1.1,.slice As s.1.2.length cs,.slice Bs s.2.length ds]] #[],.func (.func 48) #[.agg #[.bool r.1.1,.slice Ar r.1.2.length cr,.slice Br r.2.length dr,.bool s.1.1,.slice As s.1.2.length cs,.slice Bs s.2.length ds]] #[]] w (PostQb (mulQ r s).1 (mulQ r s).2 w):=by
 have HS:=Lib.hid hsen
 clear hsen
 have Hr:=Lib.hid hr
 have OQr:=Lib.hid (show ∀ W,Below w.heap.size w W→OwnQ (.agg #[.bool r.1.1,.slice Ar r.1.2.length cr,.slice Br r.2.length dr]) r W from fun W hb=>OwnQ.below Hr.out hb)
 have OUr:=Lib.hid (show ∀ W,Below w.heap.size w W→OwnI (.slice Ar r.1.2.length cr) r.1.2 W from fun W hb=>(ownQ_open (OQr.out W hb)).2.1)
 have ODr:=Lib.hid (show ∀ W,Below w.heap.size w W→OwnI (.slice Br r.2.length dr) r.2 W from fun W hb=>(ownQ_open (OQr.out W hb)).2.2.1)
 have OSr:=Lib.hid (show ∀ W,Below w.heap.size w W→OwnS (.agg #[.bool r.1.1,.slice Ar r.1.2.length cr]) r.1 W from fun W hb=>OwnS.mk (OUr.out W hb))
 clear hr
 have Hs:=Lib.hid hs
 have OQs:=Lib.hid (show ∀ W,Below w.heap.size w W→OwnQ (.agg #[.bool s.1.1,.slice As s.1.2.length cs,.slice Bs s.2.length ds]) s W from fun W hb=>OwnQ.below Hs.out hb)
 have OUs:=Lib.hid (show ∀ W,Below w.heap.size w W→OwnI (.slice As s.1.2.length cs) s.1.2 W from fun W hb=>(ownQ_open (OQs.out W hb)).2.1)
 have ODs:=Lib.hid (show ∀ W,Below w.heap.size w W→OwnI (.slice Bs s.2.length ds) s.2 W from fun W hb=>(ownQ_open (OQs.out W hb)).2.2.1)
 have OSs:=Lib.hid (show ∀ W,Below w.heap.size w W→OwnS (.agg #[.bool s.1.1,.slice As s.1.2.length cs]) s.1 W from fun W hb=>OwnS.mk (OUs.out W hb))
 clear hs
 have bb0:Below w.heap.size w ((w.alloc (.cells #[.bool r.1.1,.slice Ar r.1.2.length cr,.slice Br r.2.length dr,.bool s.1.1,.slice As s.1.2.length cs,.slice Bs s.2.length ds] 63)).alloc (.cells #[.bool false,.slice none 0 0,.slice none 0 0] 28)):=below_al (below_al (Below.refl _ _) _) _
 have kp:=(box_new w #[.bool r.1.1,.slice Ar r.1.2.length cr,.slice Br r.2.length dr,.bool s.1.1,.slice As s.1.2.length cs,.slice Bs s.2.length ds] 63).below (below_al (Below.refl _ _) (.cells #[.bool false,.slice none 0 0,.slice none 0 0] 28))
 have ko:=(box_new (w.alloc (.cells #[.bool r.1.1,.slice Ar r.1.2.length cr,.slice Br r.2.length dr,.bool s.1.1,.slice As s.1.2.length cs,.slice Bs s.2.length ds] 63)) #[.bool false,.slice none 0 0,.slice none 0 0] 28)
 rw [show (w.alloc (.cells #[.bool r.1.1,.slice Ar r.1.2.length cr,.slice Br r.2.length dr,.bool s.1.1,.slice As s.1.2.length cs,.slice Bs s.2.length ds] 63)).heap.size = w.heap.size+1 by simp] at ko
 have HKO:=Lib.hid (ko.lt (w.heap.size+1) (by simp))
 go_enter Tryd.func46,Tryd.ntmps46
 have kp_c0:=kp.here.cell 0 _ rfl
 have kp_c1:=kp.here.cell 1 _ rfl
 have kp_c2:=kp.here.cell 2 _ rfl
 have kp_c3:=kp.here.cell 3 _ rfl
 have kp_c4:=kp.here.cell 4 _ rfl
 have kp_c5:=kp.here.cell 5 _ rfl
 go_wp2_with fail
 clear kp_c0 kp_c1 kp_c2 kp_c3 kp_c4 kp_c5
 refine (ok_any r s _ hzr hzs (HS.out.below bb0) (OQr.out _ bb0) (OQs.out _ bb0)).mono ?_
 rintro e w1 ⟨rfl,b1⟩
 have bb1:=Below.next bb0 b1
 replace kp:=kp.below b1
 replace ko:=ko.below b1
 by_cases hok:(okQ r && okQ s) = true
 ·rw [hok]
  have hok2:=(Bool.and_eq_true _ _ ▸ hok:okQ r = true∧okQ s = true)
  have HPr:=Lib.hid (parts_of hok2.1)
  have HPs:=Lib.hid (parts_of hok2.2)
  obtain ⟨N,hN⟩:∃ N,topS r s = N:=⟨_,rfl⟩
  obtain ⟨D,hD⟩:∃ D,denS r s = D:=⟨_,rfl⟩
  obtain ⟨Q,hQ⟩:∃ Q,makeQ N D = Q:=⟨_,rfl⟩
  have EN:=Lib.hid hN
  have ED:=Lib.hid hD
  have EQ:=Lib.hid hQ
  have HV:=Lib.hid (show mulQ r s = Q by rw [← hQ,← hN,← hD];exact (mulQ_make HPr.out HPs.out hok2.1 hok2.2).symm)
  have hzN:szS N ≤ 1048576:=by rw [← hN];exact part_sz_numerators HPr.out HPs.out
  have hzD:szS D ≤ 1048576:=by rw [← hD];exact part_sz_denominators HPr.out HPs.out
  clear hok hok2 hN hD hQ
  go_wp2_with fail
  refine ((numerators_any r s _ HPr.out HPs.out (OQr.out _ bb1) (OQs.out _ bb1)).mono fun _ _ h=>newVS_eq EN.out h).mono ?_
  rintro e w2 ⟨un,Sn,rfl,on,ln,b2⟩
  obtain ⟨An,cn,rfl⟩:=ownS_form on.here
  have bb2:=Below.next bb1 b2
  replace kp:=kp.below b2
  replace ko:=ko.below b2
  go_wp2_with fail
  refine ((denominators_any r s _ HPr.out HPs.out (OQr.out _ bb2) (OQs.out _ bb2)).mono fun _ _ h=>newVS_eq ED.out h).mono ?_
  rintro e w3 ⟨ud,Sd,rfl,od,ld,b3⟩
  obtain ⟨Ad,cd,rfl⟩:=ownS_form od.here
  have bb3:=Below.next bb2 b3
  replace kp:=kp.below b3
  replace ko:=ko.below b3
  replace on:=on.below b3
  have hz1:=b1.size
  have hz2:=b2.size
  have hz3:=b3.size
  go_wp2_with fail
  refine ((implRatMake_any _ _ N D _ hzN hzD on.here od.here (HS.out.below bb3)).mono fun _ _ h=>postQb_eq EQ.out h).mono ?_
  rintro e w4 ⟨uf,Sf,rfl,of,lf,b4⟩
  obtain ⟨Af,cf,Bf,df,rfl⟩:=ownQ_form of.here
  have bb4:=Below.next bb3 b4
  replace kp:=kp.below b4
  replace ko:=ko.below b4
  replace on:=on.below b4
  replace od:=od.below b4
  clear on od
  have HW:=Lib.hid (newQb_at (r:=w.heap.size+1) (b:=Q.2) of lf (by have:=HKO.out;omega) (by omega) bb4)
  have cz0:=ko.here.cell 0 _ rfl
  have fz0:=Lib.frozen_of_heap ko.here 0
  have cz1:=ko.here.cell 1 _ rfl
  have fz1:=Lib.frozen_of_heap ko.here 1
  have cz2:=ko.here.cell 2 _ rfl
  have fz2:=Lib.frozen_of_heap ko.here 2
  clear of ko
  go_wp2
  refine bodyPost_ret (v:=.tuple #[.agg #[.bool _,.slice Af _ cf,.slice Bf _ df],.bool _]) (by simp [results,Tryd.results46,go_sem,cz0,cz1,cz2];exact ⟨⟨rfl,rfl,rfl⟩,rfl⟩) rfl ?_
  rw [HV.out]
  exact HW.out
 ·have hok':(okQ r && okQ s) = false:=by simpa using hok
  have HV:=Lib.hid (show mulQ r s = (zeroQ,false) by unfold mulQ;rw [if_neg (fun h=>hok (by rw [h.1,h.2];rfl))])
  rw [hok']
  clear hok hok'
  have ko_c0:=ko.here.cell 0 _ rfl
  have ko_c1:=ko.here.cell 1 _ rfl
  have ko_c2:=ko.here.cell 2 _ rfl
  have cz0:=ko.here.cell 0 _ rfl
  have fz0:=Lib.frozen_of_heap ko.here 0
  have cz1:=ko.here.cell 1 _ rfl
  have fz1:=Lib.frozen_of_heap ko.here 1
  have cz2:=ko.here.cell 2 _ rfl
  have fz2:=Lib.frozen_of_heap ko.here 2
  go_wp2
  refine bodyPost_ret (v:=.tuple #[.agg #[.bool false,.slice none 0 0,.slice none 0 0],.bool false]) (by simp [results,Tryd.results46,go_sem,cz0,cz1,cz2]) rfl ?_
  rw [HV.out]
  first | exact newQb_zero _ bb1 | exact newQb_zero _ (below_set3 bb1 (by omega))
set_option maxHeartbeats 2000000 in
theorem implRatMul_any (vr vs:Value) (r s:QI) (w:World) (hzr:szQ r ≤ 1048576) (hzs:szQ s ≤ 1048576) (hr:OwnQ vr r w) (hs:OwnQ vs s w) (hsen:Sen w) :
 Calls Tryd.prog 31 #[vr,vs] w (PostQb (mulQ r s).1 (mulQ r s).2 w):=by
 have HS:=Lib.hid hsen
 clear hsen
 have Hr:=Lib.hid hr
 obtain ⟨Ar,cr,Br,dr,rfl⟩:=ownQ_form hr
 have OQr:=Lib.hid (show ∀ W,Below w.heap.size w W→OwnQ (.agg #[.bool r.1.1,.slice Ar r.1.2.length cr,.slice Br r.2.length dr]) r W from fun W hb=>OwnQ.below Hr.out hb)
 have OUr:=Lib.hid (show ∀ W,Below w.heap.size w W→OwnI (.slice Ar r.1.2.length cr) r.1.2 W from fun W hb=>(ownQ_open (OQr.out W hb)).2.1)
 have ODr:=Lib.hid (show ∀ W,Below w.heap.size w W→OwnI (.slice Br r.2.length dr) r.2 W from fun W hb=>(ownQ_open (OQr.out W hb)).2.2.1)
 have OSr:=Lib.hid (show ∀ W,Below w.heap.size w W→OwnS (.agg #[.bool r.1.1,.slice Ar r.1.2.length cr]) r.1 W from fun W hb=>OwnS.mk (OUr.out W hb))
 clear hr
 have Hs:=Lib.hid hs
 obtain ⟨As,cs,Bs,ds,rfl⟩:=ownQ_form hs
 have OQs:=Lib.hid (show ∀ W,Below w.heap.size w W→OwnQ (.agg #[.bool s.1.1,.slice As s.1.2.length cs,.slice Bs s.2.length ds]) s W from fun W hb=>OwnQ.below Hs.out hb)
 have OUs:=Lib.hid (show ∀ W,Below w.heap.size w W→OwnI (.slice As s.1.2.length cs) s.1.2 W from fun W hb=>(ownQ_open (OQs.out W hb)).2.1)
 have ODs:=Lib.hid (show ∀ W,Below w.heap.size w W→OwnI (.slice Bs s.2.length ds) s.2 W from fun W hb=>(ownQ_open (OQs.out W hb)).2.2.1)
 have OSs:=Lib.hid (show ∀ W,Below w.heap.size w W→OwnS (.agg #[.bool s.1.1,.slice As s.1.2.length cs]) s.1 W from fun W hb=>OwnS.mk (OUs.out W hb))
 clear hs
 have hmf:∀ (fn:Fn) (first cap:Array Value) (w:World),(Instr.makeFunc fn first cap).run Tryd.prog w = .ok (.func fn first cap) w:=fun _ _ _ _=>rfl
 have bb0:Below w.heap.size w ((((w.alloc (.cells #[.bool r.1.1,.slice Ar r.1.2.length cr,.slice Br r.2.length dr] 28)).alloc (.cells #[.bool s.1.1,.slice As s.1.2.length cs,.slice Bs s.2.length ds] 28)).alloc (.cells #[.bool false,.slice none 0 0,.slice none 0 0] 28)).alloc (.cells #[.bool r.1.1,.slice Ar r.1.2.length cr,.slice Br r.2.length dr,.bool s.1.1,.slice As s.1.2.length cs,.slice Bs s.2.length ds] 63)):=below_al (below_al (below_al (below_al (Below.refl _ _) _) _) _) _
 have kr:=(box_new w #[.bool r.1.1,.slice Ar r.1.2.length cr,.slice Br r.2.length dr] 28).below (below_al (below_al (below_al (Below.refl _ _) (.cells #[.bool s.1.1,.slice As s.1.2.length cs,.slice Bs s.2.length ds] 28)) (.cells #[.bool false,.slice none 0 0,.slice none 0 0] 28)) (.cells #[.bool r.1.1,.slice Ar r.1.2.length cr,.slice Br r.2.length dr,.bool s.1.1,.slice As s.1.2.length cs,.slice Bs s.2.length ds] 63))
 have ks:=(box_new (w.alloc (.cells #[.bool r.1.1,.slice Ar r.1.2.length cr,.slice Br r.2.length dr] 28)) #[.bool s.1.1,.slice As s.1.2.length cs,.slice Bs s.2.length ds] 28).below (below_al (below_al (Below.refl _ _) (.cells #[.bool false,.slice none 0 0,.slice none 0 0] 28)) (.cells #[.bool r.1.1,.slice Ar r.1.2.length cr,.slice Br r.2.length dr,.bool s.1.1,.slice As s.1.2.length cs,.slice Bs s.2.length ds] 63))
 rw [show (w.alloc (.cells #[.bool r.1.1,.slice Ar r.1.2.length cr,.slice Br r.2.length dr] 28)).heap.size = w.heap.size+1 by simp] at ks
 have ko:=(box_new ((w.alloc (.cells #[.bool r.1.1,.slice Ar r.1.2.length cr,.slice Br r.2.length dr] 28)).alloc (.cells #[.bool s.1.1,.slice As s.1.2.length cs,.slice Bs s.2.length ds] 28)) #[.bool false,.slice none 0 0,.slice none 0 0] 28).below (below_al (Below.refl _ _) (.cells #[.bool r.1.1,.slice Ar r.1.2.length cr,.slice Br r.2.length dr,.bool s.1.1,.slice As s.1.2.length cs,.slice Bs s.2.length ds] 63))
 rw [show ((w.alloc (.cells #[.bool r.1.1,.slice Ar r.1.2.length cr,.slice Br r.2.length dr] 28)).alloc (.cells #[.bool s.1.1,.slice As s.1.2.length cs,.slice Bs s.2.length ds] 28)).heap.size = w.heap.size+1+1 by simp] at ko
 have kp:=(box_new (((w.alloc (.cells #[.bool r.1.1,.slice Ar r.1.2.length cr,.slice Br r.2.length dr] 28)).alloc (.cells #[.bool s.1.1,.slice As s.1.2.length cs,.slice Bs s.2.length ds] 28)).alloc (.cells #[.bool false,.slice none 0 0,.slice none 0 0] 28)) #[.bool r.1.1,.slice Ar r.1.2.length cr,.slice Br r.2.length dr,.bool s.1.1,.slice As s.1.2.length cs,.slice Bs s.2.length ds] 63)
 rw [show (((w.alloc (.cells #[.bool r.1.1,.slice Ar r.1.2.length cr,.slice Br r.2.length dr] 28)).alloc (.cells #[.bool s.1.1,.slice As s.1.2.length cs,.slice Bs s.2.length ds] 28)).alloc (.cells #[.bool false,.slice none 0 0,.slice none 0 0] 28)).heap.size = w.heap.size+1+1+1 by simp] at kp
 have HKO:=Lib.hid (ko.lt (w.heap.size+1+1) (by simp))
 obtain ⟨Q,hQ⟩:∃ Q,mulQ r s = Q:=⟨_,rfl⟩
 have EQ:=Lib.hid hQ
 rw [hQ]
 clear hQ
 go_enter Tryd.func31,Tryd.ntmps31
 have hz1:=HKO.out
 go_wp2_with fail
 refine ((combineRatMul_any r s _ hzr hzs (HS.out.below bb0) (OQr.out _ bb0) (OQs.out _ bb0)).mono fun _ _ h=>postQb_eq EQ.out h).mono ?_
 rintro e w1 ⟨uf,Sf,rfl,of,lf,b1⟩
 obtain ⟨Af,cf,Bf,df,rfl⟩:=ownQ_form of.here
 have bb1:=Below.next bb0 b1
 replace kr:=kr.below b1
 replace ks:=ks.below b1
 replace ko:=ko.below b1
 replace kp:=kp.below b1
 have HW:=Lib.hid (newQb_at (r:=w.heap.size+1+1) (b:=Q.2) of lf HKO.out (by omega) bb1)
 have cz0:=ko.here.cell 0 _ rfl
 have fz0:=Lib.frozen_of_heap ko.here 0
 have cz1:=ko.here.cell 1 _ rfl
 have fz1:=Lib.frozen_of_heap ko.here 1
 have cz2:=ko.here.cell 2 _ rfl
 have fz2:=Lib.frozen_of_heap ko.here 2
 clear of ko kp kr ks
 go_wp2
 refine bodyPost_ret (v:=.tuple #[.agg #[.bool _,.slice Af _ cf,.slice Bf _ df],.bool _]) (by simp [results,Tryd.results31,go_sem,cz0,cz1,cz2];exact ⟨⟨rfl,rfl,rfl⟩,rfl⟩) rfl ?_
 exact HW.out
set_option maxHeartbeats 1000000 in
theorem implRatZero_any (w:World):Calls Tryd.prog 26 #[] w (NewV (fun v=>OwnQ v oneQ) w):=by
 have bb0:Below w.heap.size w (w.alloc (.cells #[.bool false,.slice none 0 0,.slice none 0 0] 28)):=below_al (Below.refl _ _) _
 have ko:=box_new w #[.bool false,.slice none 0 0,.slice none 0 0] 28
 go_enter Tryd.func26,Tryd.ntmps26
 go_wp2_with fail
 refine (implNatOf_any 1 _ (by decide)).mono ?_
 rintro e w1 ⟨v1,rfl,o1,b1⟩
 rw [show (1:Int).toNat = 1 from rfl,one_limbs] at o1
 obtain ⟨A1,c1,rfl⟩:=own_len o1
 have bb1:=Below.next bb0 b1
 replace ko:=ko.below b1
 have HR:=Lib.hid (newQ_ret (x:=oneQ) (u:=.slice none 0 0) (B:=w.heap.size) (w:=w) ko.here (World.ownsRow_nil _ _ _ _) o1 (fun g hg=>by cases hg) (Nat.le_refl _) bb0.size (Nat.le_refl _) bb1)
 have cz0:=ko.here.cell 0 _ rfl
 have cz1:=ko.here.cell 1 _ rfl
 have cz2:=ko.here.cell 2 _ rfl
 have fz0:=Lib.frozen_of_heap ko.here 0
 have fz1:=Lib.frozen_of_heap ko.here 1
 have fz2:=Lib.frozen_of_heap ko.here 2
 clear ko o1
 go_wp2
 refine bodyPost_ret (v:=.agg #[.bool false,.slice none 0 0,.slice A1 _ c1]) (by simp [results,Tryd.results26,go_sem,cz0,cz1,cz2];rfl) rfl ?_
 exact HR.out
set_option maxHeartbeats 2000000 in
theorem implRatInt_any (va:Value) (a:SI) (w:World) (hza:szS a ≤ 1048576) (ha:OwnS va a w) (hsen:Sen w) :
 Calls Tryd.prog 30 #[va] w (PostQb (makeQ a (ofZ 1)).1 (makeQ a (ofZ 1)).2 w):=by
 have HS:=Lib.hid hsen
 clear hsen
 have Ha:=Lib.hid ha
 obtain ⟨Aa,ca,rfl⟩:=ownS_form ha
 have OSa:=Lib.hid (show ∀ W,Below w.heap.size w W→OwnS (.agg #[.bool a.1,.slice Aa a.2.length ca]) a W from fun W hb=>OwnS.below Ha.out hb)
 have OIa:=Lib.hid (show ∀ W,Below w.heap.size w W→OwnI (.slice Aa a.2.length ca) a.2 W from fun W hb=>ownS_open (OSa.out W hb))
 clear ha
 have bb0:Below w.heap.size w ((w.alloc (.cells #[.bool a.1,.slice Aa a.2.length ca] 26)).alloc (.cells #[.bool false,.slice none 0 0,.slice none 0 0] 28)):=below_al (below_al (Below.refl _ _) _) _
 have ka:=(box_new w #[.bool a.1,.slice Aa a.2.length ca] 26).below (below_al (Below.refl _ _) (.cells #[.bool false,.slice none 0 0,.slice none 0 0] 28))
 have ko:=(box_new (w.alloc (.cells #[.bool a.1,.slice Aa a.2.length ca] 26)) #[.bool false,.slice none 0 0,.slice none 0 0] 28)
 rw [show (w.alloc (.cells #[.bool a.1,.slice Aa a.2.length ca] 26)).heap.size = w.heap.size+1 by simp] at ko
 have HKO:=Lib.hid (ko.lt (w.heap.size+1) (by simp))
 obtain ⟨Q,hQ⟩:∃ Q,makeQ a (ofZ 1) = Q:=⟨_,rfl⟩
 have EQ:=Lib.hid hQ
 rw [hQ]
 clear hQ
 obtain ⟨W0,hW0⟩:∃ W0,W0 = ((w.alloc (.cells #[.bool a.1,.slice Aa a.2.length ca] 26)).alloc (.cells #[.bool false,.slice none 0 0,.slice none 0 0] 28)):=⟨_,rfl⟩
 rw [← hW0] at bb0 ka ko HKO
 have HW0:=Lib.hid hW0
 clear hW0
 have hz0:=HKO.out
 go_enter Tryd.func30,Tryd.ntmps30
 have ka_c0:=ka.here.cell 0 _ rfl
 have ka_c1:=ka.here.cell 1 _ rfl
 go_wp2_with fail
 rw [← HW0.out]
 have HC0:=Lib.hid (show Chg [w.heap.size+1] W0 W0.drew from (Chg.refl _ _).drew1)
 have HCr:=Lib.hid (show Chg [w.heap.size+1] W0 W0 from Chg.refl _ _)
 have KL:=Lib.hid (show ∀ W,Chg [w.heap.size+1] W0 W→W.cell? ⟨w.heap.size,0,none⟩ = some (.bool a.1)∧W.cell? ⟨w.heap.size,1,none⟩ = some (.slice Aa a.2.length ca)∧Hid (Chg [w.heap.size+1] W0 W) from fun W hc=>⟨(ka.chg hc (fun i hi hm=>by simp at hi hm;omega)).here.cell 0 _ rfl,(ka.chg hc (fun i hi hm=>by simp at hi hm;omega)).here.cell 1 _ rfl,Lib.hid hc⟩)
 have BBF:=Lib.hid (show ∀ W,Chg [w.heap.size+1] W0 W→Below w.heap.size w W from fun W hc=>below_chg bb0 hc bb0.size (fun i hi=>by simp at hi;omega))
 clear ka_c0 ka_c1
 go_region_held3 (fun W=>W.cell? ⟨w.heap.size,0,none⟩ = some (.bool a.1)∧W.cell? ⟨w.heap.size,1,none⟩ = some (.slice Aa a.2.length ca)∧Hid (Chg [w.heap.size+1] W0 W))
  ((refine KL.out _ ?_;(first | exact HC2.out | exact HC1.out | exact HCr.out | exact HC0.out | exact HC2.out.drew1 | exact HC1.out.drew1 | exact HCr.out.drew1 | exact HC0.out.drew1 | exact HC2.out.trans (Chg.of_below (below_al (Below.refl _ _) _)) | exact HC1.out.trans (Chg.of_below (below_al (Below.refl _ _) _)) | exact HCr.out.trans (Chg.of_below (below_al (Below.refl _ _) _)) | exact HC0.out.trans (Chg.of_below (below_al (Below.refl _ _) _)) | exact (Chg.setCell HC2.out (by simp) _) | exact (Chg.setCell (Chg.setCell HC2.out (by simp) _) (by simp) _) | exact (Chg.setCell (Chg.setCell (Chg.setCell HC2.out (by simp) _) (by simp) _) (by simp) _) | fail)))
  (first
    | (go_at_call 28;(have hBB:=(‹_∧_∧Hid (Chg [w.heap.size+1] W0 _)›).2.2);(with_reducible refine ((implIntOf_any 1 _ (by decide) (by decide)).mono fun _ _ h=>NewS.newV h).mono ?_);rintro e w1 ⟨ui,Si,rfl,oi,li,b1⟩;have HC1:=Lib.hid (hBB.out.trans (Chg.of_below b1));(have ko_1:=At.below (by first | exact ko | exact At.below ko (below_al (Below.refl _ _) _) | exact At.below (At.below ko (below_al (Below.refl _ _) _)) (below_al (Below.refl _ _) _) | exact At.move ko (fun _ _=>rfl) (Nat.le_refl _)) b1);obtain ⟨Ai,ci,rfl⟩:=ownS_form oi.here;have HBZ1:=Lib.hid hBB.out.size;clear hBB)
    | (go_at_call 27;(have hBB:=(‹_∧_∧Hid (Chg [w.heap.size+1] W0 _)›).2.2);(with_reducible refine ((implRatMake_any _ _ a (ofZ 1) _ hza one_szS (OSa.out _ (BBF.out _ hBB.out)) (At.here (by first | exact oi | exact At.below oi (below_al (Below.refl _ _) _) | exact At.below (At.below oi (below_al (Below.refl _ _) _)) (below_al (Below.refl _ _) _) | exact At.move oi (fun _ _=>rfl) (Nat.le_refl _))) (HS.out.below (BBF.out _ hBB.out))).mono fun _ _ h=>postQb_eq EQ.out h).mono ?_);rintro e w2 ⟨uf,Sf,rfl,of,lf,b2⟩;have HC2:=Lib.hid (hBB.out.trans (Chg.of_below b2));(have ko_2:=At.below (by first | exact ko_1 | exact At.below ko_1 (below_al (Below.refl _ _) _) | exact At.below (At.below ko_1 (below_al (Below.refl _ _) _)) (below_al (Below.refl _ _) _) | exact At.move ko_1 (fun _ _=>rfl) (Nat.le_refl _)) b2);(have oi_2:=At.below (by first | exact oi | exact At.below oi (below_al (Below.refl _ _) _) | exact At.below (At.below oi (below_al (Below.refl _ _) _)) (below_al (Below.refl _ _) _) | exact At.move oi (fun _ _=>rfl) (Nat.le_refl _)) b2);obtain ⟨Af,cf,Bf,df,rfl⟩:=ownQ_form of.here;have cz0:=ko_2.here.cell 0 _ rfl;have fz0:=Lib.frozen_of_heap ko_2.here 0;have cz1:=ko_2.here.cell 1 _ rfl;have fz1:=Lib.frozen_of_heap ko_2.here 1;have cz2:=ko_2.here.cell 2 _ rfl;have fz2:=Lib.frozen_of_heap ko_2.here 2;have HBZ2:=Lib.hid hBB.out.size;clear hBB))
 have bb2:=BBF.out _ HC2.out
 replace ka:=ka.chg HC2.out (fun i hi hm=>by simp at hi hm;omega)
 replace ko:=ko_2
 have oi:=oi_2
 have HW:=Lib.hid (newQb_at (r:=w.heap.size+1) (b:=Q.2) of lf (by have:=HBZ2.out;omega) (by omega) bb2)
 clear of ko ka oi
 go_wp2
 refine bodyPost_ret (v:=.tuple #[.agg #[.bool _,.slice Af _ cf,.slice Bf _ df],.bool _]) (by simp [results,Tryd.results30,go_sem,cz0,cz1,cz2];exact ⟨⟨rfl,rfl,rfl⟩,rfl⟩) rfl ?_
 exact HW.out
set_option maxHeartbeats 4000000 in
theorem implFairShare_any (v vw:Value) (x:SI) (ws:List Int) (i:Int) (lo hi:Nat) (w:World) (hlx:x.2.length ≤ 1048576) (hlw:ws.length ≤ 1048576) (hhi:hi ≤ w.heap.size) (h:OwnS v x w) (hr:Row w lo hi vw (intsV ws)) (hsen:Sen w) :
 Calls Tryd.prog 8 #[v,vw,.int .i64 i] w (PostQb (fairR x ws i).1 (fairR x ws i).2 w):=by
 have HS:=Lib.hid hsen
 clear hsen
 have Hx:=Lib.hid h
 obtain ⟨Ax,cx,rfl⟩:=ownS_form h
 have OSx:=Lib.hid (show ∀ W,Below w.heap.size w W→OwnS (.agg #[.bool x.1,.slice Ax x.2.length cx]) x W from fun W hb=>OwnS.below Hx.out hb)
 have OUx:=Lib.hid (show ∀ W,Below w.heap.size w W→OwnI (.slice Ax x.2.length cx) x.2 W from fun W hb=>ownS_open (OSx.out W hb))
 clear h Hx
 have HR0:=Lib.hid hr
 obtain ⟨Aw,cw,rfl,hA⟩:=hr
 rw [intsV_length] at HR0 ⊢
 have HRW:=Lib.hid (show ∀ W,Below w.heap.size w W→Row W lo hi (.slice Aw ws.length cw) (intsV ws) from fun W hb=>Row.below HR0.out hb hhi)
 have HA:=Lib.hid hA
 clear hA HR0
 have bb0:Below w.heap.size w ((w.alloc (.cells #[.bool x.1,.slice Ax x.2.length cx] 26)).alloc (.cells #[.bool false,.slice none 0 0,.slice none 0 0] 28)):=below_al (below_al (Below.refl _ _) _) _
 have kx:=(box_new w #[.bool x.1,.slice Ax x.2.length cx] 26).below (below_al (Below.refl _ _) (.cells #[.bool false,.slice none 0 0,.slice none 0 0] 28))
 have ko:=(box_new (w.alloc (.cells #[.bool x.1,.slice Ax x.2.length cx] 26)) #[.bool false,.slice none 0 0,.slice none 0 0] 28)
 rw [show (w.alloc (.cells #[.bool x.1,.slice Ax x.2.length cx] 26)).heap.size = w.heap.size+1 by simp] at ko
 obtain ⟨⟨R,r⟩,hHR⟩:∃ q,fairR x ws i = q:=⟨_,rfl⟩
 have EN:=Lib.hid (show ¬ (okW ws = true∧(0 ≤ i∧i < ws.length)∧okS x = true)→(R,r) = (zeroQ,false) from fun h=>by rw [← hHR];exact fair_no h)
 rw [hHR]
 have hzx:szS x ≤ 1048576:=by unfold szS szI;omega
 go_enter Tryd.func8,Tryd.ntmps8
 have kx_c0:=kx.here.cell 0 _ rfl
 have kx_c1:=kx.here.cell 1 _ rfl
 go_wp2_with fail
 clear kx_c0 kx_c1
 refine (implIntOk_any _ x _ hlx (OwnS.rd (OSx.out _ bb0))).mono ?_
 rintro e w1 ⟨rfl,b1⟩
 have bb1:=Below.next bb0 b1
 replace kx:=kx.below b1
 replace ko:=ko.below b1
 obtain ⟨ok,hok⟩:∃ b,okS x = b:=⟨_,rfl⟩
 rw [hok]
 have HOK:=Lib.hid hok
 clear hok
 cases ok with
 | false =>
   clear hHR
   obtain ⟨rfl,rfl⟩:R = zeroQ∧r = false:=by have h:=EN.out (fun hh=>by have:=hh.2.2;rw [HOK.out] at this;cases this);injection h with h1 h2;exact ⟨h1,h2⟩
   have HW:=Lib.hid (newQb_zeroS (T:=[w.heap.size+1]) (fun i hi=>by simp at hi;omega) bb1)
   have cz0:=ko.here.cell 0 _ rfl
   have fz0:=Lib.frozen_of_heap ko.here 0
   have cz1:=ko.here.cell 1 _ rfl
   have fz1:=Lib.frozen_of_heap ko.here 1
   have cz2:=ko.here.cell 2 _ rfl
   have fz2:=Lib.frozen_of_heap ko.here 2
   clear ko kx
   go_wp2
   refine bodyPost_ret (v:=.tuple #[.agg #[.bool false,.slice none 0 0,.slice none 0 0],.bool false]) (by simp [results,Tryd.results8,go_sem,cz0,cz1,cz2]) rfl ?_
   refine HW.out _ ?_
   repeat (first | with_reducible exact Chg.refl _ _ | with_reducible refine Chg.setCell ?_ (by simp) _ | with_reducible refine Chg.drew1 ?_ | with_reducible refine Chg.trans ?_ (Chg.of_below (below_al (Below.refl _ _) _)))
 | true =>
   go_wp2_with fail
   refine ((implWeightsOk_any _ ws lo hi _ (by omega) (HRW.out _ bb1)).mono fun _ _ h=>same_below h).mono ?_
   rintro e w2 ⟨rfl,b2⟩
   have bb2:=Below.next bb1 b2
   replace kx:=kx.below b2
   replace ko:=ko.below b2
   obtain ⟨ow,how⟩:∃ b,okW ws = b:=⟨_,rfl⟩
   rw [how]
   have HOW:=Lib.hid how
   clear how
   cases ow with
   | false =>
     clear hHR
     obtain ⟨rfl,rfl⟩:R = zeroQ∧r = false:=by have h:=EN.out (fun hh=>by have:=hh.1;rw [HOW.out] at this;cases this);injection h with h1 h2;exact ⟨h1,h2⟩
     have HW:=Lib.hid (newQb_zeroS (T:=[w.heap.size+1]) (fun i hi=>by simp at hi;omega) bb2)
     have cz0:=ko.here.cell 0 _ rfl
     have fz0:=Lib.frozen_of_heap ko.here 0
     have cz1:=ko.here.cell 1 _ rfl
     have fz1:=Lib.frozen_of_heap ko.here 1
     have cz2:=ko.here.cell 2 _ rfl
     have fz2:=Lib.frozen_of_heap ko.here 2
     clear ko kx
     go_wp2
     refine bodyPost_ret (v:=.tuple #[.agg #[.bool false,.slice none 0 0,.slice none 0 0],.bool false]) (by simp [results,Tryd.results8,go_sem,cz0,cz1,cz2]) rfl ?_
     refine HW.out _ ?_
     repeat (first | with_reducible exact Chg.refl _ _ | with_reducible refine Chg.setCell ?_ (by simp) _ | with_reducible refine Chg.drew1 ?_ | with_reducible refine Chg.trans ?_ (Chg.of_below (below_al (Below.refl _ _) _)))
   | true =>
     by_cases hin1:i < 0
     ·clear hHR
      obtain ⟨rfl,rfl⟩:R = zeroQ∧r = false:=by have h:=EN.out (fun hh=>by have:=hh.2.1;omega);injection h with h1 h2;exact ⟨h1,h2⟩
      have HW:=Lib.hid (newQb_zeroS (T:=[w.heap.size+1]) (fun i hi=>by simp at hi;omega) bb2)
      have cz0:=ko.here.cell 0 _ rfl
      have fz0:=Lib.frozen_of_heap ko.here 0
      have cz1:=ko.here.cell 1 _ rfl
      have fz1:=Lib.frozen_of_heap ko.here 1
      have cz2:=ko.here.cell 2 _ rfl
      have fz2:=Lib.frozen_of_heap ko.here 2
      clear ko kx
      go_wp2
      refine bodyPost_ret (v:=.tuple #[.agg #[.bool false,.slice none 0 0,.slice none 0 0],.bool false]) (by simp [results,Tryd.results8,go_sem,cz0,cz1,cz2]) rfl ?_
      refine HW.out _ ?_
      repeat (first | with_reducible exact Chg.refl _ _ | with_reducible refine Chg.setCell ?_ (by simp) _ | with_reducible refine Chg.drew1 ?_ | with_reducible refine Chg.trans ?_ (Chg.of_below (below_al (Below.refl _ _) _)))
     by_cases hin2:(ws.length:Int) ≤ i
     ·clear hHR
      obtain ⟨rfl,rfl⟩:R = zeroQ∧r = false:=by have h:=EN.out (fun hh=>by have:=hh.2.1;omega);injection h with h1 h2;exact ⟨h1,h2⟩
      have HW:=Lib.hid (newQb_zeroS (T:=[w.heap.size+1]) (fun i hi=>by simp at hi;omega) bb2)
      have cz0:=ko.here.cell 0 _ rfl
      have fz0:=Lib.frozen_of_heap ko.here 0
      have cz1:=ko.here.cell 1 _ rfl
      have fz1:=Lib.frozen_of_heap ko.here 1
      have cz2:=ko.here.cell 2 _ rfl
      have fz2:=Lib.frozen_of_heap ko.here 2
      clear ko kx
      go_wp2
      refine bodyPost_ret (v:=.tuple #[.agg #[.bool false,.slice none 0 0,.slice none 0 0],.bool false]) (by simp [results,Tryd.results8,go_sem,cz0,cz1,cz2]) rfl ?_
      refine HW.out _ ?_
      repeat (first | with_reducible exact Chg.refl _ _ | with_reducible refine Chg.setCell ?_ (by simp) _ | with_reducible refine Chg.drew1 ?_ | with_reducible refine Chg.trans ?_ (Chg.of_below (below_al (Below.refl _ _) _)))
     obtain ⟨k,rfl⟩:∃ k:Nat,i = (k:Int):=⟨i.toNat,by omega⟩
     have hk:k < ws.length:=by omega
     clear hin1
     have hkz:(k:Int) < (ws.length:Int):=by omega
     have hk0:(0:Int) ≤ (k:Int):=by omega
     have hPW:=okW_parts HOW.out
     have HPW:=Lib.hid hPW
     have hl30:=hPW.l2
     have hall:=HPW.out.all
     have hwk:=hall _ (List.getElem_mem hk)
     have hat:=(HPW.out.at_ hk).1
     have hsum:=HPW.out.sum
     have HALL:=Lib.hid (show ws.all wtB = true from List.all_eq_true.2 fun y hy=>decide_eq_true (HPW.out.all y hy))
     clear hPW hall
     obtain ⟨aw,rfl,_,hab,hca⟩:=HA.out k _ (intsV_at ws k hk)
     have CWF:=Lib.hid (show ∀ W,Below w.heap.size w W→W.cell? (aw.add k) = some (.int .i64 ws[k]) from fun W hb=>(hb.cell (by rw [block_add];omega)).trans hca)
     clear hca
     have HFY:=Lib.hid (fair_yes HOW.out hk HOK.out)
     have HAT2:=Lib.hid (HPW.out.at_ hk).2
     have hca:=CWF.out _ bb2
     have HWZ:=Lib.hid (show (natW ws)[k]! = ws[k].toNat by omega)
     clear hat
     by_cases hz:ws[k] = 0
     ·have hz2:(ws[k] == 0) = true:=by rw [hz];rfl
      have EV0:=Lib.hid (show (oneQ,true) = (R,r) by rw [← hHR,HFY.out,HWZ.out,hz];show _ = lowQ x.1 (_ * 0) _;rw [Nat.mul_zero,lowQ_none _ HPW.out.sum.2.1])
      clear hHR hz HWZ
      have hko:=ko.lt (w.heap.size+1) (by simp)
      go_wp2_with fail
      refine (implRatZero_any _).mono ?_
      rintro e w3 ⟨uz,Sz,rfl,oz,lz,b3⟩
      obtain ⟨Az,cz,Bz,dz,rfl⟩:=ownQ_form oz.here
      have bb3:=Below.next bb2 b3
      replace kx:=kx.below b3
      replace ko:=ko.below b3
      obtain ⟨rfl,rfl⟩:R = oneQ∧r = true:=by have h:=EV0.out;injection h with h1 h2;exact ⟨h1.symm,h2.symm⟩
      have hlow:∀ i ∈ Sz,w.heap.size+1 < i:=fun i hi=>by have:=(lz i hi).1;omega
      have HW:=Lib.hid (newQb_chgS (R0:=oneQ) (R1:=true) (v:=.agg #[.bool oneQ.1.1,.slice Az oneQ.1.2.length cz,.slice Bz oneQ.2.length dz]) (T:=[w.heap.size+1]) oz (fun i hi hm=>by have:=hlow i hi;simp at hm;omega) (fun i hi=>by simp at hi;omega) (fun i hi=>by have:=hlow i hi;omega) bb3)
      have cz0:=ko.here.cell 0 _ rfl
      have fz0:=Lib.frozen_of_heap ko.here 0
      have cz1:=ko.here.cell 1 _ rfl
      have fz1:=Lib.frozen_of_heap ko.here 1
      have cz2:=ko.here.cell 2 _ rfl
      have fz2:=Lib.frozen_of_heap ko.here 2
      clear ko oz lz kx hlow
      go_wp2
      refine bodyPost_ret (v:=.tuple #[.agg #[.bool oneQ.1.1,.slice Az oneQ.1.2.length cz,.slice Bz oneQ.2.length dz],.bool true]) (by simp [results,Tryd.results8,go_sem,cz0,cz1,cz2]) rfl ?_
      refine HW.out _ ?_
      repeat (first | with_reducible exact Chg.refl _ _ | with_reducible refine Chg.setCell ?_ (by simp) _ | with_reducible refine Chg.drew1 ?_ | with_reducible refine Chg.trans ?_ (Chg.of_below (below_al (Below.refl _ _) _)))
     ·have hz2:(ws[k] == 0) = false:=by rw [beq_eq_false_iff_ne];exact hz
      have EV:=Lib.hid (show mulQ (makeQ x (ofZ ws.sum)).1 (makeQ (ofZ ws[k]) (ofZ 1)).1 = (R,r) by rw [← hHR,HFY.out];have h:=fair_mul (x:=x) (T:=(natW ws).sum) (k:=(natW ws)[k]!) HOK.out HPW.out.sum.2.1 HPW.out.sum.2.2 (by rw [HWZ.out];omega) HAT2.out;rwa [HPW.out.sum.1,show (((natW ws)[k]!:Nat):Int) = ws[k] by rw [HWZ.out];omega] at h)
      obtain ⟨⟨Y,y⟩,hHY⟩:∃ q,makeQ x (ofZ ws.sum) = q:=⟨_,rfl⟩
      obtain ⟨⟨X,xx⟩,hHX⟩:∃ q,makeQ (ofZ ws[k]) (ofZ 1) = q:=⟨_,rfl⟩
      have hsY:szQ Y ≤ 1048576:=by have:=makeQ_szQ x (ofZ ws.sum);rw [hHY] at this;exact this
      have hsX:szQ X ≤ 1048576:=by have:=makeQ_szQ (ofZ ws[k]) (ofZ 1);rw [hHX] at this;exact this
      have HY:=Lib.hid hHY
      have HX:=Lib.hid hHX
      rw [hHY,hHX] at EV
      clear hHY hHX hHR HWZ HFY HAT2
      have hs1:-9223372036854775808 ≤ ws.sum∧ws.sum ≤ 9223372036854775807:=by omega
      have hs2:-9223372036854775808 ≤ ws[k]∧ws[k] ≤ 9223372036854775807:=by omega
      have hsum2:=hsum.2.1
      clear hsum
      have hko:=ko.lt (w.heap.size+1) (by simp)
      have kx_c0:=kx.here.cell 0 _ rfl
      have kx_c1:=kx.here.cell 1 _ rfl
      have hca:=CWF.out _ bb2
      go_upto_region 5 with fail
      clear kx_c0 kx_c1
      clear hca
      have kx_c0:=kx.here.cell 0 _ rfl
      have kx_c1:=kx.here.cell 1 _ rfl
      go_cut [8,9] (fun s t wx=>NewLocV 28 (fun v=>OwnQ v Y) w2 s wx∧t = .bool y)
      case first =>
       have HC0:=Lib.hid (show Chg [] w2 w2.drew from (Chg.refl _ _).drew1)
       have HCr:=Lib.hid (show Chg [] w2 w2 from Chg.refl _ _)
       have KL:=Lib.hid (show ∀ W,Chg [] w2 W→W.cell? ⟨w.heap.size,0,none⟩ = some (.bool x.1)∧W.cell? ⟨w.heap.size,1,none⟩ = some (.slice Ax x.2.length cx)∧Hid (Chg [] w2 W) from fun W hc=>⟨(kx.chg hc (fun i hi hm=>by simp at hm)).here.cell 0 _ rfl,(kx.chg hc (fun i hi hm=>by simp at hm)).here.cell 1 _ rfl,Lib.hid hc⟩)
       have BBF:=Lib.hid (show ∀ W,Chg [] w2 W→Below w.heap.size w W from fun W hc=>below_chg bb2 hc bb2.size (fun i hi=>by simp at hi))
       clear kx_c0 kx_c1
       go_region_held3 (fun W=>W.cell? ⟨w.heap.size,0,none⟩ = some (.bool x.1)∧W.cell? ⟨w.heap.size,1,none⟩ = some (.slice Ax x.2.length cx)∧Hid (Chg [] w2 W))
        ((refine KL.out _ ?_;(first | exact HC5.out | exact HC4.out | exact HC3.out | exact HCr.out | exact HC0.out | exact HC5.out.drew1 | exact HC4.out.drew1 | exact HC3.out.drew1 | exact HCr.out.drew1 | exact HC0.out.drew1 | exact HC5.out.trans (Chg.of_below (below_al (Below.refl _ _) _)) | exact HC4.out.trans (Chg.of_below (below_al (Below.refl _ _) _)) | exact HC3.out.trans (Chg.of_below (below_al (Below.refl _ _) _)) | exact HCr.out.trans (Chg.of_below (below_al (Below.refl _ _) _)) | exact HC0.out.trans (Chg.of_below (below_al (Below.refl _ _) _)) | exact (Chg.setNew HC5.out (by first | exact HC5.out.size | exact HC4.out.size | exact HC3.out.size | exact HCr.out.size | exact HC0.out.size) _) | exact (Chg.setNew (Chg.setNew HC5.out (by first | exact HC5.out.size | exact HC4.out.size | exact HC3.out.size | exact HCr.out.size | exact HC0.out.size) _) (by first | exact HC5.out.size | exact HC4.out.size | exact HC3.out.size | exact HCr.out.size | exact HC0.out.size) _) | exact (Chg.setNew (Chg.setNew (Chg.setNew HC5.out (by first | exact HC5.out.size | exact HC4.out.size | exact HC3.out.size | exact HCr.out.size | exact HC0.out.size) _) (by first | exact HC5.out.size | exact HC4.out.size | exact HC3.out.size | exact HCr.out.size | exact HC0.out.size) _) (by first | exact HC5.out.size | exact HC4.out.size | exact HC3.out.size | exact HCr.out.size | exact HC0.out.size) _) | fail)))
        (first
          | (go_at_call 29;(have hBB:=(‹_∧_∧Hid (Chg [] w2 _)›).2.2);(with_reducible refine ((implTotal_any _ ws lo hi _ hl30 HALL.out (HRW.out _ (BBF.out _ hBB.out))).mono fun _ _ h=>same_below h).mono ?_);rintro e w3 ⟨rfl,b3⟩;have HC3:=Lib.hid (hBB.out.trans (Chg.of_below b3));(first | (have early3:At [w2.heap.size] (BoxAt w2.heap.size #[.bool false,.slice none 0 0,.slice none 0 0] 28) w3:=At.below (box_new w2.drew _ _) b3) | (have early3:=At.below (box_new _ #[.bool false,.slice none 0 0,.slice none 0 0] 28) b3) | (have early3:=At.below early2 b3) | skip);have HBZ3:=Lib.hid hBB.out.size;clear hBB)
          | (go_at_call 28;(have hBB:=(‹_∧_∧Hid (Chg [] w2 _)›).2.2);(with_reducible refine ((implIntOf_any ws.sum _ hs1.1 hs1.2).mono fun _ _ h=>h.newV).mono ?_);rintro e w4 ⟨u2,S2,rfl,o2,l2,b4⟩;have HC4:=Lib.hid (hBB.out.trans (Chg.of_below b4));obtain ⟨A2,c2,rfl⟩:=ownS_form o2.here;(first | (have early4:At [w2.heap.size] (BoxAt w2.heap.size #[.bool false,.slice none 0 0,.slice none 0 0] 28) w4:=At.below (box_new w2.drew _ _) b4) | (have early4:=At.below (box_new _ #[.bool false,.slice none 0 0,.slice none 0 0] 28) b4) | (have early4:=At.below early3 b4) | skip);have HBZ4:=Lib.hid hBB.out.size;clear hBB)
          | (go_at_call 27;(have hBB:=(‹_∧_∧Hid (Chg [] w2 _)›).2.2);(with_reducible refine ((implRatMake_any _ _ x (ofZ ws.sum) _ hzx (ofZ_szF _) (OSx.out _ (BBF.out _ hBB.out)) (At.here (by first | exact o2 | exact At.below o2 (below_al (Below.refl _ _) _) | exact At.below (At.below o2 (below_al (Below.refl _ _) _)) (below_al (Below.refl _ _) _) | exact At.move o2 (fun _ _=>rfl) (Nat.le_refl _) | exact At.below (At.move (w':=w2.drew) o2 (fun _ _=>rfl) (Nat.le_refl _)) (below_al (Below.refl _ _) _))) (HS.out.below (BBF.out _ hBB.out))).mono fun _ _ h=>postQb_isS HY.out h).mono ?_);rintro e w5 ⟨u8,S8,rfl,o8,l8,b5⟩;have HC5:=Lib.hid (hBB.out.trans (Chg.of_below b5));(have o2_5:=At.below (by first | exact o2 | exact At.below o2 (below_al (Below.refl _ _) _) | exact At.below (At.below o2 (below_al (Below.refl _ _) _)) (below_al (Below.refl _ _) _) | exact At.move o2 (fun _ _=>rfl) (Nat.le_refl _) | exact At.below (At.move (w':=w2.drew) o2 (fun _ _=>rfl) (Nat.le_refl _)) (below_al (Below.refl _ _) _)) b5);obtain ⟨A8,c8,B8,d8,rfl⟩:=ownQ_form o8.here;(first | have hbxg:=At.below_lt (box_new _ #[.bool false,.slice none 0 0,.slice none 0 0] 28) b5 | have hbxg:=At.below_lt early4 b5 | skip);(try (have hbxf:=hbxg.1;have HGB:=Lib.hid hbxg.2;clear hbxg));(try (have cz0:=hbxf.here.cell 0 _ rfl;have fz0:=Lib.frozen_of_heap hbxf.here 0;have cz1:=hbxf.here.cell 1 _ rfl;have fz1:=Lib.frozen_of_heap hbxf.here 1;have cz2:=hbxf.here.cell 2 _ rfl;have fz2:=Lib.frozen_of_heap hbxf.here 2));have HBZ5:=Lib.hid hBB.out.size;clear hBB))
       all_goals (go_wp2_with fail;go_meet;first | exact ⟨newLocV_last o8 l8 HBZ5.out (below_of_chg HC5.out),rfl⟩ | exact ⟨newLocV_early3 hbxf.here o8 l8 (by first | exact HC4.out.size | exact HC3.out.size | exact HCr.out.size | exact HC0.out.size) HGB.out (below_of_chg HC5.out),rfl⟩)
      rename World=>w6
      obtain ⟨⟨gy,csy,Sy,rfl,ky,oy,ny,ly,b6⟩,rfl⟩:=hcut
      obtain ⟨Ay,cy,By,dy,ey⟩:=ownQ_form oy.here
      injection ey with ey
      subst ey
      have bb6:=Below.next bb2 b6
      replace kx:=kx.below b6
      replace ko:=ko.below b6
      have hca:=CWF.out _ bb6
      go_wp2_with fail
      refine ((implIntOf_any ws[k] _ hs2.1 hs2.2).mono fun _ _ h=>h.newV).mono ?_
      rintro e w7 ⟨u3,S3,rfl,o3,l3,b7⟩
      obtain ⟨A3,c3,rfl⟩:=ownS_form o3.here
      clear hca
      have bb7:=Below.next bb6 b7
      replace kx:=kx.below b7
      replace ko:=ko.below b7
      replace ky:=ky.below b7
      replace oy:=oy.below b7
      go_wp2_with fail
      refine ((implRatInt_any _ (ofZ ws[k]) _ (ofZ_szF _) o3.here (HS.out.below bb7)).mono fun _ _ h=>postQb_isS HX.out h).mono ?_
      rintro e w8 ⟨u4,S4,rfl,o4,l4,b8⟩
      obtain ⟨A4,c4,B4,d4,rfl⟩:=ownQ_form o4.here
      have bb8:=Below.next bb7 b8
      replace kx:=kx.below b8
      replace ko:=ko.below b8
      replace ky:=ky.below b8
      replace oy:=oy.below b8
      replace o3:=o3.below b8
      have kv:=box_new (w8) #[.bool X.1.1,.slice A4 X.1.2.length c4,.slice B4 X.2.length d4] 28
      have alv:=below_al (Below.refl (w8).heap.size (w8)) (.cells #[.bool X.1.1,.slice A4 X.1.2.length c4,.slice B4 X.2.length d4] 28)
      have bbv:=Below.next bb8 alv
      replace kx:=kx.below alv
      replace ko:=ko.below alv
      replace ky:=ky.below alv
      replace oy:=oy.below alv
      replace o3:=o3.below alv
      replace o4:=o4.below alv
      have hko2:=ko.lt (w.heap.size+1) (by simp)
      have ky_c0:=ky.here.cell 0 _ rfl
      have ky_c1:=ky.here.cell 1 _ rfl
      have ky_c2:=ky.here.cell 2 _ rfl
      have kv_c0:=kv.here.cell 0 _ rfl
      have kv_c1:=kv.here.cell 1 _ rfl
      have kv_c2:=kv.here.cell 2 _ rfl
      go_wp2_with fail
      clear ky_c0 ky_c1 ky_c2 kv_c0 kv_c1 kv_c2
      refine ((implRatMul_any _ _ Y X _ hsY hsX oy.here o4.here (HS.out.below bbv)).mono fun _ _ h=>postQb_isS EV.out h).mono ?_
      rintro e w9 ⟨u5,S5,rfl,o5,l5,b9⟩
      obtain ⟨A5,c5,B5,d5,rfl⟩:=ownQ_form o5.here
      have bb9:=Below.next bbv b9
      replace kx:=kx.below b9
      replace ko:=ko.below b9
      replace ky:=ky.below b9
      replace oy:=oy.below b9
      replace o3:=o3.below b9
      replace o4:=o4.below b9
      replace kv:=kv.below b9
      have hlow:∀ i ∈ S5,w.heap.size+1 < i:=fun i hi=>by have:=(l5 i hi).1;omega
      have HW:=Lib.hid (newQb_chgS (R0:=R) (R1:=r) (v:=.agg #[.bool R.1.1,.slice A5 R.1.2.length c5,.slice B5 R.2.length d5]) (T:=[w.heap.size+1]) o5 (fun i hi hm=>by have:=hlow i hi;simp at hm;omega) (fun i hi=>by simp at hi;omega) (fun i hi=>by have:=hlow i hi;omega) bb9)
      have cz0:=ko.here.cell 0 _ rfl
      have fz0:=Lib.frozen_of_heap ko.here 0
      have cz1:=ko.here.cell 1 _ rfl
      have fz1:=Lib.frozen_of_heap ko.here 1
      have cz2:=ko.here.cell 2 _ rfl
      have fz2:=Lib.frozen_of_heap ko.here 2
      clear ko oy o3 o4 o5 l3 l4 l5 ky kv kx hlow
      go_wp2
      refine bodyPost_ret (v:=.tuple #[.agg #[.bool R.1.1,.slice A5 R.1.2.length c5,.slice B5 R.2.length d5],.bool r]) (by simp [results,Tryd.results8,go_sem,cz0,cz1,cz2]) rfl ?_
      refine HW.out _ ?_
      repeat (first | with_reducible exact Chg.refl _ _ | with_reducible refine Chg.setCell ?_ (by simp) _ | with_reducible refine Chg.drew1 ?_ | with_reducible refine Chg.trans ?_ (Chg.of_below (below_al (Below.refl _ _) _)))
end Go.Proofs.YtipbdpdmefcofaaDoor
namespace Go.Proofs.YtipbdpdmefcofaaDoor
open Go.ChangeShapes Go.WideShapes Go.ChangeAt Go.RowKit
theorem senNamed : Tryd.prog.globalNamed "loop.example/g00793/impl.errZeroDivisor" = some 0 := by kernel_rfl
theorem senType:(Tryd.prog.globals[0]?).map (·.type) = some 72:=by kernel_rfl
theorem senCells:Tryd.prog.cellsOf 131 = 1:=by kernel_rfl
theorem strCells:Tryd.prog.cellsOf 9 = 1:=by kernel_rfl
theorem senStar : "*" ++ "errors.errorString" = "*errors.errorString" := by decide
theorem senRow (u : TypeId) (h : Tryd.prog.typeName? 3 u = some "*errors.errorString") : u = 105 :=
 typeName_ptr_named (nm := "errors.errorString") (by rw [senStar]; kernel_rfl) (by kernel_rfl) (by decide) u (by rw [senStar]; exact h)
def senText:List UInt8:=[100,105,118,105,115,105,111,110,32,98,121,32,122,101,114,111]
theorem senData : (Rows.laid_loop_example_g00793_impl_errZeroDivisor : DataW Unit) = .iface "*errors.errorString" (.ptr (.agg [.lit (.string senText)])) := by kernel_rfl
def SenAt (a : Addr) (w : World) : Prop := w.var? Tryd.prog "loop.example/g00793/impl.errZeroDivisor" = some #[.iface 105 (.pointer (some a))]
theorem SenAt.sen {a:Addr} {w:World} (h:SenAt a w):Sen w:=⟨a,by simpa using World.var?_cell senNamed h 0⟩
theorem sen_of {r : List (String × DataW Unit)} {W : World} (h : laidMet Tryd.prog (("loop.example/g00793/impl.errZeroDivisor", Rows.laid_loop_example_g00793_impl_errZeroDivisor) :: r) W) : ∃ a, SenAt a W := by
 rw [senData] at h
 obtain ⟨a,s,hv,_⟩:=laid_sentinel h senNamed senType Tryd.underlying72 senRow Tryd.underlying105 Tryd.underlying131 rfl rfl Tryd.underlying9 senCells strCells
 exact ⟨a,hv⟩
theorem SenAt.below {a:Addr} {w w':World} (h:SenAt a w) (hb:Below w.heap.size w w'):SenAt a w':=by
 obtain ⟨_,hc⟩:=h.sen
 have hl:=cell_lt hc
 unfold SenAt World.var? at h ⊢
 rw [senNamed] at h ⊢
 simp only [Option.bind_some] at h ⊢
 rw [hb.block _ hl]
 exact h
theorem law_post1 {H:Type} {enc:TypeId × Value→H} {f:Func} {s:ChangeSpec} {tb:TypeId} {a:Addr} {W W':World} {args:Array Value} {ds gs:List (DataW H)} {before:List MemPlace}
 (hr : legible Tryd.prog f.params.toList = true) (hty : f.resultTypes = #[tb]) (htb : Tryd.prog.underlying tb = some .bool) (hvars : s.vars = ["loop.example/g00793/impl.errZeroDivisor"])
 (hs:SenAt a W) (hfn:∀ g,s.fn H (ds ++ [g]) = { results:=[.lit (.bool true)],args:=ds,vars:=[g] })
 (hW:DataW.Whole enc Tryd.prog f.params.toList s.vars false W args.toList ds gs before) (hb:Below W.heap.size W W') :
 s.post enc Tryd.prog f false true false false W args (.bool true) W':=by
 have hW':=hW
 obtain ⟨p,q,hA,hV,rfl,_,_⟩:=hW
 rw [hvars] at hV
 have vr : ∀ {X : World}, SenAt a X → ∀ sp : Nat → Bool, DataW.TrodVars enc Tryd.prog X sp ["loop.example/g00793/impl.errZeroDivisor"] [tok enc (.iface 105 (.pointer (some a)))] [.cell 0 0] :=
  fun x0 sp=>vars_read1 enc senNamed senType Tryd.underlying72 x0 trivial sp
 obtain ⟨rfl,rfl⟩:=hV.unique (vr hs _)
 have hlt:∀ x ∈ p,x.block < W.heap.size:=fun x hx=>hW'.lt x (by simp [hx])
 refine ⟨ds,_,_,[],p,[.cell 0 0],hW',?_,?_,?_,hb.frame _,fun h=>by cases h⟩
 ·rw [hfn,hty]
  exact trodAll_mk1 (shut_bool htb _)
 ·rw [hfn]
  exact args_below Tryd.laidOut hb hr hA hlt
 ·rw [hfn,hvars]
  exact vr (hs.below hb) _
def putSen (cs:Array Value):Obj→Obj
 | .cells _ t frozen=>.cells cs t frozen
 | o=>o
noncomputable def low:Nat:=(World.holding Tryd.prog default ⟨#[],#[],[]⟩).heap.size
noncomputable def senWorld (os:Os):World :=
 let w0:=World.holding Tryd.prog os ⟨#[.cells #[.string ⟨senText.toArray⟩] 131],#[],[]⟩
 { w0 with heap:=w0.heap.modify 0 (putSen #[.iface 105 (.pointer (some ⟨low,0,none⟩))]) }
theorem law_lifted_sen {H:Type} {enc:TypeId × Value→H} {os:Os} (started:os.Started) {F:Stop.Interp} {f:FuncId} {fn:Func} {s:ChangeSpec} {conds:List PathCond} {tb:TypeId} {laidL:List (String × DataW Unit)}
 (noInit:Tryd.prog.inits.idxOf? f = none) (hfun:Tryd.prog.funcs[f]? = some fn)
 (hr : legible Tryd.prog fn.params.toList = true) (hty : fn.resultTypes = #[tb]) (htb : Tryd.prog.underlying tb = some .bool) (hvars : s.vars = ["loop.example/g00793/impl.errZeroDivisor"])
 (hsen:∀ W,laidMetH Tryd.prog laidL W→∃ a,SenAt a W)
 (witness:∃ (w:World) (tape:Tape) (i:Input),w.os = os∧(w.forCall tape i).Shaped Tryd.checked.prog∧i.vars = []∧Input.okWide Tryd.checked.prog (w.forCall tape i) .any w.heap.size f i ∧
   (OpenSpec.ofChange s).preRow enc Tryd.checked.prog fn conds false laidL (w.forCall tape i).memory i.args∧Assume.holds {} Tryd.checked.prog (lone (Frame.enter Tryd.checked.prog f i.args .normal) [] (w.forCall tape i)))
 (walk:∀ (W:World) (base:Nat) (args:Array Value) (ds:List (DataW H)) (p:List MemPlace),
   (∀ (j:Nat) t v,fn.params[j]? = some t→args[j]? = some v→Value.okWide Tryd.prog W .any base t v) →
   DataW.TrodAll enc Tryd.prog W 0 (fun _=>true) true fn.params.toList args.toList ds p→(∀ x ∈ p,x.block < W.heap.size)→laidMetH Tryd.prog laidL W→Sen W →
   (∀ g,s.fn H (ds ++ [g]) = { results:=[.lit (.bool true)],args:=ds,vars:=[g] })∧Calls Tryd.prog f args W fun e W'=>e = .returned (.bool true)∧Below W.heap.size W W') :
 ReturnsInHanded {} Tryd.checked os f .any ((OpenSpec.ofChange s).preRow enc Tryd.prog fn conds false laidL) (((OpenSpec.ofChange s).at F).post enc Tryd.prog fn false true false false):=by
 refine returnsInHanded_of_row (C:=Tryd.checked) (s:=OpenSpec.ofChange s) Tryd.own started noInit hfun witness ?_
 intro W base args ds gs before hval hW0 _ _ _ hL _ _
 have hW:DataW.Whole enc Tryd.prog fn.params.toList s.vars false W args.toList ds gs before:=hW0
 have hW':=hW
 obtain ⟨p,q,hA,hV,rfl,_,_⟩:=hW
 obtain ⟨a,ha⟩:=hsen W hL
 obtain ⟨hfn,hc⟩:=walk W base args ds p hval hA (fun x hx=>hW'.lt x (by simp [hx])) hL ha.sen
 refine hc.mono fun e W' ⟨he,hb⟩=>?_
 subst he
 exact ⟨_,rfl,law_post1 hr hty htb hvars ha hfn hW' hb⟩
end Go.Proofs.YtipbdpdmefcofaaDoor
namespace Go.Proofs.YtipbdpdmefcofaaDoor
open Go.ChangeShapes Go.WideShapes Go.ChangeAt Go.RowKit
open Go.ChangeMaps (open_string shut_string)
theorem fnExactFairShare_met (os:Os):laidMet Tryd.prog Rows.fnExactFairShareRow.laid ((senWorld os).forCall (fun _ _=>0) ⟨#[],#[.agg #[.bool false,.slice none 0 0],.slice none 0 0,.int .i64 0],[]⟩).memory :=
 laidMet_of_run' 8 (by kernel_rfl) (by kernel_rfl)
theorem fnExactFairShare_reads (os:Os) {H:Type} (enc:TypeId × Value→H):∃ gs places,DataW.whole enc Tryd.prog ((senWorld os).forCall (fun _ _=>0) ⟨#[],#[.agg #[.bool false,.slice none 0 0],.slice none 0 0,.int .i64 0],[]⟩).memory Tryd.f3.params.toList Rows.fnExactFairShareSpec.vars false (#[.agg #[.bool false,.slice none 0 0],.slice none 0 0,.int .i64 0]:Array Value).toList 8 = some ([.agg [.lit (.bool false),.nil],.nil,.lit (.int .i64 0)],gs,places) :=
 ⟨[tok enc (.iface 105 (.pointer (some ⟨low,0,none⟩)))],[.cell 0 0],by kernel_rfl⟩
theorem fnExactFairShare_lifted (os:Os) (started:os.Started) (H:Type) (enc:TypeId × Value→H) (F:Stop.Interp) :
 ReturnsInHanded {} Tryd.checked os 3 .any ((OpenSpec.ofChange Rows.fnExactFairShareSpec).preRow enc Tryd.prog Tryd.f3 Rows.fnExactFairShareRow.domain false Rows.fnExactFairShareRow.laid) (((OpenSpec.ofChange Rows.fnExactFairShareSpec).at F).post enc Tryd.prog Tryd.f3 false true false false):=by
 obtain ⟨gs,places,hx⟩:=fnExactFairShare_reads os enc
 refine law_lifted_sen started (by kernel_rfl) Tryd.func3 (by kernel_rfl) (tb := 4) (by kernel_rfl) Tryd.underlying4 rfl (fun W h => sen_of (show laidMet Tryd.prog [("loop.example/g00793/impl.errZeroDivisor", Rows.laid_loop_example_g00793_impl_errZeroDivisor)] W from h))
  (witness_row_at (enc:=enc) (C:=Tryd.checked) false (senWorld os) #[.agg #[.bool false,.slice none 0 0],.slice none 0 0,.int .i64 0] rfl (by kernel_rfl) (by kernel_rfl) (by kernel_rfl)
    (OpenSpec.preRow_of_cond 8 hx (by kernel_rfl) (fun k hk=>by cases hk) (by kernel_rfl) (fnExactFairShare_met os))) ?_
 intro W base args ds p hval hA _ hL hs
 rw [Tryd.params3] at hA hval
 obtain ⟨v0,v1,v2,d0,d1,d2,p0,p1,p2,rfl,rfl,rfl,h0,h1,h2⟩:=trodAll_three hA
 obtain ⟨x,rx,mx⟩:=arg_signed (hval 0 24 v0 rfl rfl) h0
 unfold maxLen at mx
 have hcx:capS x:=by unfold capS;omega
 obtain ⟨ws,rws,mws,_⟩:=arg_ints Tryd.underlying22 Tryd.underlying3 (by kernel_rfl) (hval 1 22 v1 rfl rfl) h1
 unfold maxLen at mws
 obtain ⟨i,rfl,rfl,rfl,wi⟩:=open_int Tryd.underlying3 (hval 2 3 v2 rfl rfl) h2
 have ji:-9223372036854775808 ≤ i∧i ≤ 9223372036854775807:=by simpa [Lit.wf,IntKind.min,IntKind.max,IntKind.signed,IntKind.bits] using wi
 exact ⟨fun _=>rfl,lawFairShare v0 v1 x ws i W (fun hlx hlw ua uw W hx hw hs=>implFairShare_any ua uw x ws i 0 W.heap.size W (by unfold szS szI at hlx;omega) hlw (Nat.le_refl _) hx (OwnI.row hw) hs) ji.1 ji.2 hcx (by omega) hs rx rws⟩
theorem fnExactFairShare_said:Rows.FnExactFairShareSaid :=
 OpenClaim.holds_of_cond 3 Tryd.f3 rfl rfl rfl rfl rfl rfl rfl ⟨rfl,rfl,rfl,rfl,rfl⟩ rfl rfl rfl rfl rfl (by kernel_rfl) Tryd.func3 (by kernel_rfl)
  (of_decide_eq_true (by kernel_rfl)) (by unfold Func.isWrapper;first | (rw [if_pos (by decide +kernel)];kernel_rfl) | (rw [if_neg (by decide +kernel)];exact ⟨rfl,rfl⟩))
  (fun os started H enc _ F=>by rw [OpenClaim.pre_eq_preRow];exact fnExactFairShare_lifted os started H enc F)
theorem fnExactFairShare_plain (f : FuncId) (fn : Func) (hf : Tryd.pinned.checked.prog.funcNamed "loop.example/g00793/laws.FnExactFairShare" = some f) (hfn : Tryd.pinned.checked.prog.funcs[f]? = some fn) :
 true = Tryd.pinned.checked.prog.looks []∧∀ (j:Nat) t,fn.params[j]? = some t→Tryd.pinned.checked.prog.wantsStandIn t = false:=by
 obtain rfl : f = 3 := Option.some.inj ((show Tryd.prog.funcNamed "loop.example/g00793/laws.FnExactFairShare" = some 3 by kernel_rfl).symm.trans hf) |>.symm
 obtain rfl:fn = Tryd.f3:=(Option.some.inj (Tryd.func3.symm.trans hfn)).symm
 refine ⟨by kernel_rfl,fun j t ht=>?_⟩
 rw [Tryd.params3] at ht
 have ht2:=Array.mem_of_getElem? ht
 simp at ht2
 rcases ht2 with rfl | rfl | rfl
 ·exact (show Tryd.prog.wantsStandIn 24 = false by kernel_rfl)
 ·exact (show Tryd.prog.wantsStandIn 22 = false by kernel_rfl)
 ·exact (show Tryd.prog.wantsStandIn 3 = false by kernel_rfl)
theorem fnExactFairShare_card:Rows.FnExactFairShareCardSaid :=
 Claim7.holds_tied_plain_at .later [] _ _ _ _ fnExactFairShare_said (fun _ h=>by cases h) (by kernel_rfl) (fun _ h=>by cases h) fnExactFairShare_row_tie rfl ⟨rfl,rfl⟩ (by kernel_rfl) rfl fnExactFairShare_plain (by kernel_rfl)
end Go.Proofs.YtipbdpdmefcofaaDoor
