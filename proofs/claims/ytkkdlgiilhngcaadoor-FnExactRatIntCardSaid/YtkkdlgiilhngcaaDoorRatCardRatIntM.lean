/-
  For all arguments the law FnExactRatInt of chapter 6 returns true; no conditions beyond the card's own (the listed variable holds what the program's text lays).
  The law FnExactRatInt of chapter 6, walked: it returns true wherever both packages answer alike.
  What a law needs whose row names one package-level variable, the sentinel impl.errZeroDivisor, and lists it.
  Arguments of type laws.Rat, opened.
-/
import Derived.Test.YtkkdlgiilhngcaaDoorSignedArg
import Derived.Test.YtkkdlgiilhngcaaDoorLoc
import Derived.Test.YtkkdlgiilhngcaaDoorLaw
import Derived.Test.YtkkdlgiilhngcaaDoorCards
import Derived.Test.YtkkdlgiilhngcaaDoorTie
import Derived.Test.YtkkdlgiilhngcaaDoorErrIs
import Derived.Deep.DeepHandedRow
import Derived.Stop.LaidErr
import Derived.Deep.RegionHeld3
import Derived.Deep.DeepCutAuto
import Derived.Test.YtkkdlgiilhngcaaDoorRatSpec4
import Derived.Test.YtkkdlgiilhngcaaDoorRatRest
namespace Go.Proofs.YtkkdlgiilhngcaaDoor
open Go.ChangeShapes Go.WideShapes Go.ChangeAt Go.RowKit Go.Joins

theorem Tryd.cellsRat : Tryd.prog.cellsOf 26 = 3 := by kernel_rfl
set_option maxHeartbeats 400000 in
set_option maxRecDepth 100000 in
theorem arg_rat {H : Type} {enc : TypeId × Value → H} {W : World} {base : Nat} {v : Value} {d : DataW H} {p : List MemPlace}
    (hv : Value.okWide Tryd.prog W .any base 26 v) (h : DataW.Trod enc Tryd.prog W 0 (fun _ => true) true 26 v d p) : ∃ x : QI, RdQ W v x ∧ x.1.2.length ≤ maxLen ∧ x.2.length ≤ maxLen := by
  obtain ⟨cs, rfl, hsz⟩ := okWide_struct Tryd.underlying26 hv
  obtain ⟨c0, c1, c2, rfl⟩ := array3 (hsz.trans Tryd.cellsRat)
  obtain ⟨fuel, hf⟩ := h
  obtain ⟨y0, y1, n, hx, _, h0, h1⟩ := trod_struct2 Tryd.underlying26 hf
  have k0 : Tryd.prog.cellsOf 24 = 2 := Tryd.cellsSigned
  have k1 : Tryd.prog.cellsOf 22 = 1 := by kernel_rfl
  have kb : Tryd.prog.cellsOf 4 = 1 := by kernel_rfl
  simp only [Value.cells, k0, k1, List.drop_zero, List.take_succ_cons, List.take_zero, List.drop_succ_cons] at h0 h1
  obtain ⟨z0, z1, m, _, _, g0, g1⟩ := trod_struct2 Tryd.underlying24 h0
  simp only [kb, k1, List.drop_zero, List.take_succ_cons, List.take_zero, List.drop_succ_cons] at g0 g1
  obtain ⟨b, e0, _⟩ := DataW.trod_bool Tryd.underlying4 g0
  obtain ⟨a1, l1, cc1, e1⟩ := slice_form Tryd.underlying22 g1
  obtain ⟨a2, l2, cc2, e2⟩ := slice_form Tryd.underlying22 h1
  simp at e0 e1 e2
  subst e0 e1 e2
  obtain ⟨xs, hr, hl⟩ := cell_ints Tryd.underlying22 Tryd.underlying3 Tryd.cellsInt1 g1
  obtain ⟨ys, hs, hm⟩ := cell_ints Tryd.underlying22 Tryd.underlying3 Tryd.cellsInt1 h1
  exact ⟨((b, xs), ys), ⟨_, _, rfl, hr, hs⟩, hl, hm⟩
end Go.Proofs.YtkkdlgiilhngcaaDoor

namespace Go.Proofs.YtkkdlgiilhngcaaDoor
open Go.ChangeShapes Go.WideShapes Go.ChangeAt Go.RowKit

theorem senNamed : Tryd.prog.globalNamed "loop.example/g00793/impl.errZeroDivisor" = some 0 := by kernel_rfl
theorem senType : (Tryd.prog.globals[0]?).map (·.type) = some 81 := by kernel_rfl
theorem senCells : Tryd.prog.cellsOf 142 = 1 := by kernel_rfl
theorem strCells : Tryd.prog.cellsOf 9 = 1 := by kernel_rfl
theorem senStar : "*" ++ "errors.errorString" = "*errors.errorString" := by decide
theorem senRow (u : TypeId) (h : Tryd.prog.typeName? 3 u = some "*errors.errorString") : u = 116 :=
  typeName_ptr_named (nm := "errors.errorString") (by rw [senStar]; kernel_rfl) (by kernel_rfl) (by decide) u (by rw [senStar]; exact h)
/-- what the sentinel reads as -/
def senText : List UInt8 := [100, 105, 118, 105, 115, 105, 111, 110, 32, 98, 121, 32, 122, 101, 114, 111]
theorem senData : (Rows.laid_loop_example_g00793_impl_errZeroDivisor : DataW Unit) = .iface "*errors.errorString" (.ptr (.agg [.lit (.string senText)])) := by kernel_rfl
/-- the variable's value -/
def SenAt (a : Addr) (w : World) : Prop := w.var? Tryd.prog "loop.example/g00793/impl.errZeroDivisor" = some #[.iface 116 (.pointer (some a))]
theorem SenAt.sen {a : Addr} {w : World} (h : SenAt a w) : Sen w := ⟨a, by simpa using World.var?_cell senNamed h 0⟩
theorem sen_of {r : List (String × DataW Unit)} {W : World} (h : laidMet Tryd.prog (("loop.example/g00793/impl.errZeroDivisor", Rows.laid_loop_example_g00793_impl_errZeroDivisor) :: r) W) : ∃ a, SenAt a W := by
  rw [senData] at h
  obtain ⟨a, s, hv, _⟩ := laid_sentinel h senNamed senType Tryd.underlying81 senRow Tryd.underlying116 Tryd.underlying142 rfl rfl Tryd.underlying9 senCells strCells
  exact ⟨a, hv⟩
theorem SenAt.below {a : Addr} {w w' : World} (h : SenAt a w) (hb : Below w.heap.size w w') : SenAt a w' := by
  obtain ⟨_, hc⟩ := h.sen
  have hl := cell_lt hc
  unfold SenAt World.var? at h ⊢
  rw [senNamed] at h ⊢
  simp only [Option.bind_some] at h ⊢
  rw [hb.block _ hl]
  exact h

/-- the post of a law that names the sentinel -/
theorem law_post1 {H : Type} {enc : TypeId × Value → H} {f : Func} {s : ChangeSpec} {tb : TypeId} {a : Addr} {W W' : World} {args : Array Value} {ds gs : List (DataW H)} {before : List MemPlace}
    (hr : legible Tryd.prog f.params.toList = true) (hty : f.resultTypes = #[tb]) (htb : Tryd.prog.underlying tb = some .bool) (hvars : s.vars = ["loop.example/g00793/impl.errZeroDivisor"])
    (hs : SenAt a W) (hfn : ∀ g, s.fn H (ds ++ [g]) = { results := [.lit (.bool true)], args := ds, vars := [g] })
    (hW : DataW.Whole enc Tryd.prog f.params.toList s.vars false W args.toList ds gs before) (hb : Below W.heap.size W W') :
    s.post enc Tryd.prog f false true false false W args (.bool true) W' := by
  have hW' := hW
  obtain ⟨p, q, hA, hV, rfl, _, _⟩ := hW
  rw [hvars] at hV
  have vr : ∀ {X : World}, SenAt a X → ∀ sp : Nat → Bool, DataW.TrodVars enc Tryd.prog X sp ["loop.example/g00793/impl.errZeroDivisor"] [tok enc (.iface 116 (.pointer (some a)))] [.cell 0 0] :=
    fun x0 sp => vars_read1 enc senNamed senType Tryd.underlying81 x0 trivial sp
  obtain ⟨rfl, rfl⟩ := hV.unique (vr hs _)
  have hlt : ∀ x ∈ p, x.block < W.heap.size := fun x hx => hW'.lt x (by simp [hx])
  refine ⟨ds, _, _, [], p, [.cell 0 0], hW', ?_, ?_, ?_, hb.frame _, fun h => by cases h⟩
  · rw [hfn, hty]
    exact trodAll_mk1 (shut_bool htb _)
  · rw [hfn]
    exact args_below Tryd.laidOut hb hr hA hlt
  · rw [hfn, hvars]
    exact vr (hs.below hb) _

/-- a world for the witness: the settled one, the listed variable holding what its initialiser lays -/
def putSen (cs : Array Value) : Obj → Obj
  | .cells _ t frozen => .cells cs t frozen
  | o => o
noncomputable def low : Nat := (World.holding Tryd.prog default ⟨#[], #[], []⟩).heap.size
noncomputable def senWorld (os : Os) : World :=
  let w0 := World.holding Tryd.prog os ⟨#[.cells #[.string ⟨senText.toArray⟩] 142], #[], []⟩
  { w0 with heap := w0.heap.modify 0 (putSen #[.iface 116 (.pointer (some ⟨low, 0, none⟩))]) }

set_option maxRecDepth 100000 in
/-- from the walk at every argument, the listed variables at hand, to the lifted row -/
theorem law_lifted_sen {H : Type} {enc : TypeId × Value → H} {os : Os} (started : os.Started) {F : Stop.Interp} {f : FuncId} {fn : Func} {s : ChangeSpec} {conds : List PathCond} {tb : TypeId} {laidL : List (String × DataW Unit)}
    (noInit : Tryd.prog.inits.idxOf? f = none) (hfun : Tryd.prog.funcs[f]? = some fn)
    (hr : legible Tryd.prog fn.params.toList = true) (hty : fn.resultTypes = #[tb]) (htb : Tryd.prog.underlying tb = some .bool) (hvars : s.vars = ["loop.example/g00793/impl.errZeroDivisor"])
    (hsen : ∀ W, laidMetH Tryd.prog laidL W → ∃ a, SenAt a W)
    (witness : ∃ (w : World) (tape : Tape) (i : Input), w.os = os ∧ (w.forCall tape i).Shaped Tryd.checked.prog ∧ i.vars = [] ∧ Input.okWide Tryd.checked.prog (w.forCall tape i) .any w.heap.size f i ∧
      (OpenSpec.ofChange s).preRow enc Tryd.checked.prog fn conds false laidL (w.forCall tape i).memory i.args ∧ Assume.holds {} Tryd.checked.prog (lone (Frame.enter Tryd.checked.prog f i.args .normal) [] (w.forCall tape i)))
    (walk : ∀ (W : World) (base : Nat) (args : Array Value) (ds : List (DataW H)) (p : List MemPlace),
      (∀ (j : Nat) t v, fn.params[j]? = some t → args[j]? = some v → Value.okWide Tryd.prog W .any base t v) →
      DataW.TrodAll enc Tryd.prog W 0 (fun _ => true) true fn.params.toList args.toList ds p → (∀ x ∈ p, x.block < W.heap.size) → laidMetH Tryd.prog laidL W → Sen W →
      (∀ g, s.fn H (ds ++ [g]) = { results := [.lit (.bool true)], args := ds, vars := [g] }) ∧ Calls Tryd.prog f args W fun e W' => e = .returned (.bool true) ∧ Below W.heap.size W W') :
    ReturnsInHanded {} Tryd.checked os f .any ((OpenSpec.ofChange s).preRow enc Tryd.prog fn conds false laidL) (((OpenSpec.ofChange s).at F).post enc Tryd.prog fn false true false false) := by
  refine returnsInHanded_of_row (C := Tryd.checked) (s := OpenSpec.ofChange s) Tryd.own started noInit hfun witness ?_
  intro W base args ds gs before hval hW0 _ _ _ hL _ _
  have hW : DataW.Whole enc Tryd.prog fn.params.toList s.vars false W args.toList ds gs before := hW0
  have hW' := hW
  obtain ⟨p, q, hA, hV, rfl, _, _⟩ := hW
  obtain ⟨a, ha⟩ := hsen W hL
  obtain ⟨hfn, hc⟩ := walk W base args ds p hval hA (fun x hx => hW'.lt x (by simp [hx])) hL ha.sen
  refine hc.mono fun e W' ⟨he, hb⟩ => ?_
  subst he
  exact ⟨_, rfl, law_post1 hr hty htb hvars ha hfn hW' hb⟩
end Go.Proofs.YtkkdlgiilhngcaaDoor

namespace Go.Proofs.YtkkdlgiilhngcaaDoor
open Go.RowKit

set_option maxHeartbeats 4000000 in
set_option maxRecDepth 100000 in
theorem lawRatInt_walk (va : Value) (a : SI) (R0 : QI) (R1 : Bool) (w : World)
    (hS : ∀ (ua : Value) (W : World), OwnS ua a W → Calls Tryd.prog 25 #[ua] W (PostQb R0 R1 W))
    (hI : ∀ (ua : Value) (W : World), OwnS ua a W → Sen W → Calls Tryd.prog 26 #[ua] W (PostQb R0 R1 W))
    (ht0 : Sen w) (hl : szS a ≤ 1048576) (hlR0 : szQ R0 ≤ 1048576) (ra : RdS w va a) :
    Calls Tryd.prog 5 #[va] w fun e w' => e = .returned (.bool true) ∧ Below w.heap.size w w' := by
  have HS := Lib.hid hS
  have HI := Lib.hid hI
  clear hS hI
  have HT0 := Lib.hid ht0
  clear ht0
  have hsa := szS_nonneg a
  have hsR0 := szQ_nonneg R0
  have hza : szS a ≤ 1048576 := by omega
  obtain ⟨Aa, ca, rfl⟩ := rdS_form ra
  have bb0 : Below w.heap.size w (w.alloc (.cells #[.bool a.1, .slice Aa a.2.length ca] 24)) := below_al (Below.refl _ _) _
  have ka := (box_new w #[.bool a.1, .slice Aa a.2.length ca] 24)
  have RFa : Hid (∀ W, Below w.heap.size w W → RdS W (.agg #[.bool a.1, .slice Aa a.2.length ca]) a) := Lib.hid fun W hb => ra.below hb
  go_enter Tryd.func5, Tryd.ntmps5
  have ka_c0 := ka.here.cell 0 _ rfl
  have ka_c1 := ka.here.cell 1 _ rfl
  go_wp2_with fail
  clear ka_c0 ka_c1
  refine (szS_cal _ a (1048576) _ (capS_of hza) (by omega) (by omega) (RFa.out _ bb0)).mono ?_
  rintro e w1 ⟨rfl, b1⟩
  rw [leftI_of (by omega)]
  have bb1 := Below.next bb0 b1
  replace ka := ka.below b1
  have hn : decide (((1048576 : Int) - szS a : Int) < 0) = false := decide_eq_false (by omega)
  have HKa := Lib.hid (ka.lt (w.heap.size) (by simp))
  have ka_c0 := ka.here.cell 0 _ rfl
  have ka_c1 := ka.here.cell 1 _ rfl
  go_upto_region 5 with fail
  go_cut [4, 5] (fun s t1 wx => NewLocV 31 (fun v => OwnQ v R0) w1 s wx ∧ t1 = .bool R1)
  case first =>
    go_wp2_with fail
    refine (toS_new _ a _ hza (RFa.out _ bb1)).mono ?_
    rintro e wt ⟨ut, St, rfl, ot, lt, bt⟩
    obtain ⟨At, ct, rfl⟩ := ownS_form ot.here
    go_wp2_with fail
    refine (HS.out _ _ ot.here).mono ?_
    rintro e wf ⟨uf, Sf, rfl, of, lf, bf⟩
    obtain ⟨Af, cf, Bf, df, rfl⟩ := ownQ_form of.here
    have bwf := Below.next bt bf
    go_wp2_with fail
    go_meet
    exact ⟨newLocV_last of lf bt.size bwf, rfl⟩
  rename World => w2
  clear ka_c0 ka_c1
  obtain ⟨⟨gw0, csw0, Sw0, rfl, kw0, ow0, nw0, lw0, b2⟩, rfl⟩ := hcut
  obtain ⟨Aw0, cw0, Bw0, dw0, ew0⟩ := ownQ_form ow0.here
  injection ew0 with ew0
  subst ew0
  have bb2 := Below.next bb1 b2
  replace ka := ka.below b2
  have ka_c0 := ka.here.cell 0 _ rfl
  have ka_c1 := ka.here.cell 1 _ rfl
  go_upto_region 6 with fail
  go_cut [6] (fun s wx => NewLocV 29 (fun v => OwnS v a) w2 s wx)
  case first =>
    go_wp2_with fail
    refine (toS_new _ a _ hza (RFa.out _ bb2)).mono ?_
    rintro e wt ⟨ut, St, rfl, ot, lt, bt⟩
    obtain ⟨At, ct, rfl⟩ := ownS_form ot.here
    go_wp2_with fail
    go_meet
    exact newLocV_last ot lt (Nat.le_refl _) bt
  rename World => w3
  clear ka_c0 ka_c1
  obtain ⟨gxa, csxa, Sxa, rfl, kxa, oxa, nxa, lxa, b3⟩ := hcut
  obtain ⟨Axa, cxa, exa⟩ := ownS_form oxa.here
  injection exa with exa
  subst exa
  have bb3 := Below.next bb2 b3
  replace ka := ka.below b3
  replace kw0 := kw0.below b3
  replace ow0 := ow0.below b3
  have kxa_c0 := kxa.here.cell 0 _ rfl
  have kxa_c1 := kxa.here.cell 1 _ rfl
  go_upto_region 7 with fail
  go_cut [7, 8] (fun s t1 wx => NewLocV 31 (fun v => OwnQ v R0) w3 s wx ∧ t1 = .bool R1)
  case first =>
    go_wp2_with fail
    refine (HI.out _ _ oxa.here (HT0.out.below bb3)).mono ?_
    rintro e wf ⟨uf, Sf, rfl, of, lf, bf⟩
    obtain ⟨Af, cf, Bf, df, rfl⟩ := ownQ_form of.here
    go_wp2_with fail
    go_meet
    exact ⟨newLocV_last of lf (Nat.le_refl _) bf, rfl⟩
  rename World => w4
  clear kxa_c0 kxa_c1
  obtain ⟨⟨gg0, csg0, Sg0, rfl, kg0, og0, ng0, lg0, b4⟩, rfl⟩ := hcut
  obtain ⟨Ag0, cg0, Bg0, dg0, eg0⟩ := ownQ_form og0.here
  injection eg0 with eg0
  subst eg0
  have bb4 := Below.next bb3 b4
  replace ka := ka.below b4
  replace kw0 := kw0.below b4
  replace ow0 := ow0.below b4
  replace kxa := kxa.below b4
  replace oxa := oxa.below b4
  have kg0_c0 := kg0.here.cell 0 _ rfl
  have kg0_c1 := kg0.here.cell 1 _ rfl
  have kg0_c2 := kg0.here.cell 2 _ rfl
  have kw0_c0 := kw0.here.cell 0 _ rfl
  have kw0_c1 := kw0.here.cell 1 _ rfl
  have kw0_c2 := kw0.here.cell 2 _ rfl
  go_wp2_with fail
  clear kg0_c0 kg0_c1 kg0_c2 kw0_c0 kw0_c1 kw0_c2
  refine (eqQ_cal _ _ R0 R0 _ (capQ_of (by omega)) (OwnQ.rd og0.here) (OwnQ.rd ow0.here)).mono ?_
  rintro e w5 ⟨rfl, b5⟩
  rw [decide_refl]
  have bb5 := Below.next bb4 b5
  replace ka := ka.below b5
  replace kw0 := kw0.below b5
  replace ow0 := ow0.below b5
  replace kxa := kxa.below b5
  replace oxa := oxa.below b5
  replace kg0 := kg0.below b5
  replace og0 := og0.below b5
  have ka_c0 := ka.here.cell 0 _ rfl
  have ka_c1 := ka.here.cell 1 _ rfl
  have kxa_c0 := kxa.here.cell 0 _ rfl
  have kxa_c1 := kxa.here.cell 1 _ rfl
  go_wp2_with fail
  have HB0 := Lib.hid (show Below w5.heap.size w5 w5.drew from (Below.refl _ _).drew)
  have KL := Lib.hid (show ∀ W, Below w5.heap.size w5 W → W.cell? ⟨w.heap.size, 0, none⟩ = some (.bool a.1) ∧ W.cell? ⟨w.heap.size, 1, none⟩ = some (.slice Aa a.2.length ca) ∧ W.cell? ⟨gxa, 0, none⟩ = some (.bool a.1) ∧ W.cell? ⟨gxa, 1, none⟩ = some (.slice Axa a.2.length cxa) ∧ Hid (Below w5.heap.size w5 W) from
    fun W hb => ⟨(ka.below hb).here.cell 0 _ rfl, (ka.below hb).here.cell 1 _ rfl, (kxa.below hb).here.cell 0 _ rfl, (kxa.below hb).here.cell 1 _ rfl, Lib.hid hb⟩)
  have BBF := Lib.hid (show ∀ W, Below w5.heap.size w5 W → Below w.heap.size w W from fun W hb => Below.next bb5 hb)
  have OXF := Lib.hid (show ∀ W, Below w5.heap.size w5 W → OwnS (.agg #[.bool a.1, .slice Axa a.2.length cxa]) a W from fun W hb => (oxa.below hb).here)
  clear ka_c0 ka_c1 kxa_c0 kxa_c1
  go_region_held3 (fun W => W.cell? ⟨w.heap.size, 0, none⟩ = some (.bool a.1) ∧ W.cell? ⟨w.heap.size, 1, none⟩ = some (.slice Aa a.2.length ca) ∧ W.cell? ⟨gxa, 0, none⟩ = some (.bool a.1) ∧ W.cell? ⟨gxa, 1, none⟩ = some (.slice Axa a.2.length cxa) ∧ Hid (Below w5.heap.size w5 W))
    ((refine KL.out _ ?_; (first | exact HBe.out | exact HBt.out | exact HB0.out | fail)))
    (first
      | (go_at_call 19; (have hBB := (‹_ ∧ _ ∧ _ ∧ _ ∧ Hid (Below w5.heap.size w5 _)›).2.2.2.2); (with_reducible refine (toS_new _ a _ hza (RFa.out _ (BBF.out _ hBB.out))).mono ?_); rintro e wt ⟨t, St, rfl, ot, lt, bt⟩; have HBt := Lib.hid (Below.next hBB.out bt); clear hBB)
      | (go_at_call 21; (have hBB := (‹_ ∧ _ ∧ _ ∧ _ ∧ Hid (Below w5.heap.size w5 _)›).2.2.2.2); (with_reducible refine (eqS_cal _ _ a a _ (capS_of hza) (OwnS.rd (OXF.out _ hBB.out)) (OwnS.rd ot.here)).mono ?_); rintro e w6 ⟨rfl, be⟩; rw [decide_refl]; have HBe := Lib.hid (Below.next hBB.out be); clear hBB))
  have b6 := HBe.out
  have bb6 := Below.next bb5 b6
  replace ka := ka.below b6
  replace kw0 := kw0.below b6
  replace ow0 := ow0.below b6
  replace kxa := kxa.below b6
  replace oxa := oxa.below b6
  replace kg0 := kg0.below b6
  replace og0 := og0.below b6
  clear HB0 KL BBF OXF HBt HBe ot lt
  have z1 := b1.size
  have z2 := b2.size
  have z3 := b3.size
  have z4 := b4.size
  have z5 := b5.size
  have z6 := b6.size
  have AP_xa_g0 := Lib.hid (Within.apart lxa lg0 (.inl (by omega)))
  have AP_w0_xa := Lib.hid (Within.apart lw0 lxa (.inl (by omega)))
  have AP_w0_g0 := Lib.hid (Within.apart lw0 lg0 (.inl (by omega)))
  have F_xa := Lib.hid (Within.from (B := w.heap.size) lxa (by have := bb1.size; omega))
  have N_xa := Lib.hid nxa
  have KX_a_xa := Lib.hid (show ∀ i ∈ [w.heap.size], i ∉ gxa :: Sxa from fun i hi hm => by have h1 := (lxa i hm).1; have h2 := HKa.out; simp at hi; omega)
  have F_g0 := Lib.hid (Within.from (B := w.heap.size) lg0 (by have := bb1.size; omega))
  have N_g0 := Lib.hid ng0
  have KX_a_g0 := Lib.hid (show ∀ i ∈ [w.heap.size], i ∉ gg0 :: Sg0 from fun i hi hm => by have h1 := (lg0 i hm).1; have h2 := HKa.out; simp at hi; omega)
  clear z1 z2 z3 z4 z5 z6
  have kxa_c0 := kxa.here.cell 0 _ rfl
  have kxa_c1 := kxa.here.cell 1 _ rfl
  go_wp2_with fail
  clear kxa_c0 kxa_c1
  refine (markS_cal _ a _ (1) _ (by omega) (by omega) oxa).mono ?_
  rintro e w7 ⟨rfl, mkxa, c7⟩
  clear oxa
  have bb7 := below_chg bb6 c7 bb6.size (fun i hi => F_xa.out i (List.mem_cons_of_mem _ hi))
  replace ka := ka.chg c7 (fun i hi hm => KX_a_xa.out i hi (List.mem_cons_of_mem _ hm))
  replace kw0 := kw0.chg c7 (fun i hi hm => AP_w0_xa.out i (by simp at hi; subst hi; exact List.mem_cons_self ..) (List.mem_cons_of_mem _ hm))
  replace ow0 := ow0.chg c7 (fun i hi hm => AP_w0_xa.out i (List.mem_cons_of_mem _ hi) (List.mem_cons_of_mem _ hm))
  replace kxa := kxa.chg c7 (fun i hi hm => by simp at hi; subst hi; exact N_xa.out hm)
  replace kg0 := kg0.chg c7 (fun i hi hm => (apart_symm AP_xa_g0.out) i (by simp at hi; subst hi; exact List.mem_cons_self ..) (List.mem_cons_of_mem _ hm))
  replace og0 := og0.chg c7 (fun i hi hm => (apart_symm AP_xa_g0.out) i (List.mem_cons_of_mem _ hi) (List.mem_cons_of_mem _ hm))
  have hk : decide (((1 + szS a) : Int) < 0) = false := decide_eq_false (by omega)
  have kg0_c0 := kg0.here.cell 0 _ rfl
  have kg0_c1 := kg0.here.cell 1 _ rfl
  have kg0_c2 := kg0.here.cell 2 _ rfl
  have kw0_c0 := kw0.here.cell 0 _ rfl
  have kw0_c1 := kw0.here.cell 1 _ rfl
  have kw0_c2 := kw0.here.cell 2 _ rfl
  go_wp2_with fail
  clear kg0_c0 kg0_c1 kg0_c2 kw0_c0 kw0_c1 kw0_c2
  refine (eqQ_cal _ _ R0 R0 _ (capQ_of (by omega)) (OwnQ.rd og0.here) (OwnQ.rd ow0.here)).mono ?_
  rintro e w8 ⟨rfl, b8⟩
  rw [decide_refl]
  have bb8 := Below.next bb7 b8
  replace ka := ka.below b8
  replace kw0 := kw0.below b8
  replace ow0 := ow0.below b8
  replace kxa := kxa.below b8
  replace kg0 := kg0.below b8
  replace og0 := og0.below b8
  replace mkxa := mkxa.below b8
  clear hk
  have kg0_c0 := kg0.here.cell 0 _ rfl
  have kg0_c1 := kg0.here.cell 1 _ rfl
  have kg0_c2 := kg0.here.cell 2 _ rfl
  go_wp2_with fail
  clear kg0_c0 kg0_c1 kg0_c2
  refine (markQ_cal _ R0 _ (1) _ (by omega) (by omega) og0).mono ?_
  rintro e w9 ⟨rfl, mkg0, c9⟩
  clear og0
  have bb9 := below_chg bb8 c9 bb8.size (fun i hi => F_g0.out i (List.mem_cons_of_mem _ hi))
  replace ka := ka.chg c9 (fun i hi hm => KX_a_g0.out i hi (List.mem_cons_of_mem _ hm))
  replace kw0 := kw0.chg c9 (fun i hi hm => AP_w0_g0.out i (by simp at hi; subst hi; exact List.mem_cons_self ..) (List.mem_cons_of_mem _ hm))
  replace ow0 := ow0.chg c9 (fun i hi hm => AP_w0_g0.out i (List.mem_cons_of_mem _ hi) (List.mem_cons_of_mem _ hm))
  replace kxa := kxa.chg c9 (fun i hi hm => AP_xa_g0.out i (by simp at hi; subst hi; exact List.mem_cons_self ..) (List.mem_cons_of_mem _ hm))
  replace kg0 := kg0.chg c9 (fun i hi hm => by simp at hi; subst hi; exact N_g0.out hm)
  replace mkxa := mkxa.chg c9 (fun i hi hm => AP_xa_g0.out i (List.mem_cons_of_mem _ hi) (List.mem_cons_of_mem _ hm))
  have kg0_c0 := kg0.here.cell 0 _ rfl
  have kg0_c1 := kg0.here.cell 1 _ rfl
  have kg0_c2 := kg0.here.cell 2 _ rfl
  go_wp2_with fail
  clear kg0_c0 kg0_c1 kg0_c2
  refine (heldQ_cal _ R0 (1) _ (by omega) (by omega) mkg0.here).mono ?_
  rintro e w10 ⟨rfl, b10⟩
  have bb10 := Below.next bb9 b10
  replace ka := ka.below b10
  replace kw0 := kw0.below b10
  replace ow0 := ow0.below b10
  replace kxa := kxa.below b10
  replace kg0 := kg0.below b10
  replace mkxa := mkxa.below b10
  replace mkg0 := mkg0.below b10
  have hq10 : decide ((1 : Int) + szQ R0 < 0) = false := decide_eq_false (by omega)
  have ka_c0 := ka.here.cell 0 _ rfl
  have ka_c1 := ka.here.cell 1 _ rfl
  go_upto_region 24 with fail
  go_cut [12, 13] (fun s t1 wx => NewLocV 31 (fun v => OwnQ v R0) w10 s wx ∧ t1 = .bool R1)
  case first =>
    go_wp2_with fail
    refine (toS_new _ a _ hza (RFa.out _ bb10)).mono ?_
    rintro e wt ⟨ut, St, rfl, ot, lt, bt⟩
    obtain ⟨At, ct, rfl⟩ := ownS_form ot.here
    go_wp2_with fail
    have bb_t := Below.next bb10 bt
    refine (HI.out _ _ ot.here (HT0.out.below bb_t)).mono ?_
    rintro e wf ⟨uf, Sf, rfl, of, lf, bf⟩
    obtain ⟨Af, cf, Bf, df, rfl⟩ := ownQ_form of.here
    have bwf := Below.next bt bf
    go_wp2_with fail
    go_meet
    exact ⟨newLocV_last of lf bt.size bwf, rfl⟩
  rename World => w11
  clear ka_c0 ka_c1
  obtain ⟨⟨gh0, csh0, Sh0, rfl, kh0, oh0, nh0, lh0, b11⟩, rfl⟩ := hcut
  obtain ⟨Ah0, ch0, Bh0, dh0, eh0⟩ := ownQ_form oh0.here
  injection eh0 with eh0
  subst eh0
  have bb11 := Below.next bb10 b11
  replace ka := ka.below b11
  replace kw0 := kw0.below b11
  replace ow0 := ow0.below b11
  replace kxa := kxa.below b11
  replace kg0 := kg0.below b11
  replace mkxa := mkxa.below b11
  replace mkg0 := mkg0.below b11
  have kh0_c0 := kh0.here.cell 0 _ rfl
  have kh0_c1 := kh0.here.cell 1 _ rfl
  have kh0_c2 := kh0.here.cell 2 _ rfl
  have kw0_c0 := kw0.here.cell 0 _ rfl
  have kw0_c1 := kw0.here.cell 1 _ rfl
  have kw0_c2 := kw0.here.cell 2 _ rfl
  go_wp2_with fail
  clear kh0_c0 kh0_c1 kh0_c2 kw0_c0 kw0_c1 kw0_c2
  refine (eqQ_cal _ _ R0 R0 _ (capQ_of (by omega)) (OwnQ.rd oh0.here) (OwnQ.rd ow0.here)).mono ?_
  rintro e w12 ⟨rfl, b12⟩
  rw [decide_refl]
  have bb12 := Below.next bb11 b12
  replace ka := ka.below b12
  replace kw0 := kw0.below b12
  replace ow0 := ow0.below b12
  replace kxa := kxa.below b12
  replace kg0 := kg0.below b12
  replace mkxa := mkxa.below b12
  replace mkg0 := mkg0.below b12
  replace kh0 := kh0.below b12
  replace oh0 := oh0.below b12
  have kg0_c0 := kg0.here.cell 0 _ rfl
  have kg0_c1 := kg0.here.cell 1 _ rfl
  have kg0_c2 := kg0.here.cell 2 _ rfl
  go_wp2_with fail
  clear kg0_c0 kg0_c1 kg0_c2
  refine (heldQ_cal _ R0 (1) _ (by omega) (by omega) mkg0.here).mono ?_
  rintro e w13 ⟨rfl, b13⟩
  have bb13 := Below.next bb12 b13
  replace ka := ka.below b13
  replace kw0 := kw0.below b13
  replace ow0 := ow0.below b13
  replace kxa := kxa.below b13
  replace kg0 := kg0.below b13
  replace mkxa := mkxa.below b13
  replace mkg0 := mkg0.below b13
  replace kh0 := kh0.below b13
  replace oh0 := oh0.below b13
  have hq13 : decide ((1 : Int) + szQ R0 < 0) = false := decide_eq_false (by omega)
  go_wp2
  go_ret
  exact ⟨rfl, bb13⟩
end Go.Proofs.YtkkdlgiilhngcaaDoor

namespace Go.Proofs.YtkkdlgiilhngcaaDoor
open Go.ChangeShapes Go.WideShapes Go.ChangeAt Go.RowKit

theorem makeQ_sz (x y : SI) : szQ (makeQ x y).1 ≤ 1048576 := by unfold makeQ; split; exact lowQ_sz _ _ _; decide
set_option maxHeartbeats 1000000 in
set_option maxRecDepth 100000 in
theorem lawRatInt (va : Value) (a : SI) (w : World)
    (hI : szS a ≤ 1048576 → ∀ (ua : Value) (W : World), OwnS ua a W → Sen W → Calls Tryd.prog 26 #[ua] W (PostQb ((makeQ a (ofZ 1)).1) ((makeQ a (ofZ 1)).2) W))
    (hca : capS a) (ht0 : Sen w) (ra : RdS w va a) :
    Calls Tryd.prog 5 #[va] w fun e w' => e = .returned (.bool true) ∧ Below w.heap.size w w' := by
  have hsa := szS_nonneg a
  by_cases hl : szS a ≤ 1048576
  · skip
    have hla : szS a ≤ 1048576 := by omega
    exact lawRatInt_walk va a ((makeQ a (ofZ 1)).1) ((makeQ a (ofZ 1)).2) w (fun ua W ha => specRatInt_any ua a W hla ha) (hI hla) ht0 hl (makeQ_sz a (ofZ 1)) ra
  · skip
    obtain ⟨Aa, ca, rfl⟩ := rdS_form ra
    have bb0 : Below w.heap.size w (w.alloc (.cells #[.bool a.1, .slice Aa a.2.length ca] 24)) := below_al (Below.refl _ _) _
    have ka := (box_new w #[.bool a.1, .slice Aa a.2.length ca] 24)
    go_enter Tryd.func5, Tryd.ntmps5
    have ka_c0 := ka.here.cell 0 _ rfl
    have ka_c1 := ka.here.cell 1 _ rfl
    go_wp2_with fail
    clear ka_c0 ka_c1
    refine (szS_cal _ a (1048576) _ hca (by omega) (by omega) (ra.below bb0)).mono ?_
    rintro e w1 ⟨rfl, b1⟩
    have bb1 := Below.next bb0 b1
    replace ka := ka.below b1
    rw [show leftI (1048576) (szS a) = -1 by unfold leftI; rw [if_pos (by omega)]]
    go_wp2
    go_ret
    exact ⟨rfl, bb1⟩
set_option maxRecDepth 100000 in
theorem fnExactRatInt_met (os : Os) : laidMet Tryd.prog Rows.fnExactRatIntRow.laid ((senWorld os).forCall (fun _ _ => 0) ⟨#[], #[.agg #[.bool false, .slice none 0 0]], []⟩).memory :=
  laidMet_of_run' 8 (by kernel_rfl) (by kernel_rfl)
set_option maxRecDepth 100000 in
theorem fnExactRatInt_reads (os : Os) {H : Type} (enc : TypeId × Value → H) : ∃ gs places, DataW.whole enc Tryd.prog ((senWorld os).forCall (fun _ _ => 0) ⟨#[], #[.agg #[.bool false, .slice none 0 0]], []⟩).memory Tryd.f5.params.toList Rows.fnExactRatIntSpec.vars false (#[.agg #[.bool false, .slice none 0 0]] : Array Value).toList 8 = some ([.agg [.lit (.bool false), .nil]], gs, places) :=
  ⟨[tok enc (.iface 116 (.pointer (some ⟨low, 0, none⟩)))], [.cell 0 0], by kernel_rfl⟩

set_option maxRecDepth 100000 in
theorem fnExactRatInt_lifted (os : Os) (started : os.Started) (H : Type) (enc : TypeId × Value → H) (F : Stop.Interp) :
    ReturnsInHanded {} Tryd.checked os 5 .any ((OpenSpec.ofChange Rows.fnExactRatIntSpec).preRow enc Tryd.prog Tryd.f5 Rows.fnExactRatIntRow.domain false Rows.fnExactRatIntRow.laid) (((OpenSpec.ofChange Rows.fnExactRatIntSpec).at F).post enc Tryd.prog Tryd.f5 false true false false) := by
  obtain ⟨gs, places, hx⟩ := fnExactRatInt_reads os enc
  refine law_lifted_sen started (by kernel_rfl) Tryd.func5 (by kernel_rfl) (tb := 4) (by kernel_rfl) Tryd.underlying4 rfl (fun W h => sen_of (show laidMet Tryd.prog [("loop.example/g00793/impl.errZeroDivisor", Rows.laid_loop_example_g00793_impl_errZeroDivisor)] W from h))
    (witness_row_at (enc := enc) (C := Tryd.checked) false (senWorld os) #[.agg #[.bool false, .slice none 0 0]] rfl (by kernel_rfl) (by kernel_rfl) (by kernel_rfl)
      (OpenSpec.preRow_of_cond 8 hx (by kernel_rfl) (fun k hk => by cases hk) (by kernel_rfl) (fnExactRatInt_met os))) ?_
  intro W base args ds p hval hA _ hL hs
  rw [Tryd.params5] at hA hval
  obtain ⟨v0, d0, rfl, rfl, h0⟩ := trodAll_one hA
  obtain ⟨a, ra, ma⟩ := arg_signed (hval 0 24 v0 rfl rfl) h0
  unfold maxLen at ma
  have hca : capS a := by unfold capS; omega
  exact ⟨fun _ => rfl, lawRatInt v0 a W (fun hla ua W ha hs => implRatInt_any ua a W hla ha hs) hca hs ra⟩

set_option maxRecDepth 100000 in
theorem fnExactRatInt_said : Rows.FnExactRatIntSaid :=
  OpenClaim.holds_of_cond 5 Tryd.f5 rfl rfl rfl rfl rfl rfl rfl ⟨rfl, rfl, rfl, rfl, rfl⟩ rfl rfl rfl rfl rfl (by kernel_rfl) Tryd.func5 (by kernel_rfl)
    (of_decide_eq_true (by kernel_rfl)) (by unfold Func.isWrapper; first | (rw [if_pos (by decide +kernel)]; kernel_rfl) | (rw [if_neg (by decide +kernel)]; exact ⟨rfl, rfl⟩))
    (fun os started H enc _ F => by rw [OpenClaim.pre_eq_preRow]; exact fnExactRatInt_lifted os started H enc F)

theorem fnExactRatInt_plain (f : FuncId) (fn : Func) (hf : Tryd.pinned.checked.prog.funcNamed "loop.example/g00793/laws.FnExactRatInt" = some f) (hfn : Tryd.pinned.checked.prog.funcs[f]? = some fn) :
    true = Tryd.pinned.checked.prog.looks [] ∧ ∀ (j : Nat) t, fn.params[j]? = some t → Tryd.pinned.checked.prog.wantsStandIn t = false := by
  obtain rfl : f = 5 := Option.some.inj ((show Tryd.prog.funcNamed "loop.example/g00793/laws.FnExactRatInt" = some 5 by kernel_rfl).symm.trans hf) |>.symm
  obtain rfl : fn = Tryd.f5 := (Option.some.inj (Tryd.func5.symm.trans hfn)).symm
  refine ⟨by kernel_rfl, fun j t ht => ?_⟩
  rw [Tryd.params5] at ht
  obtain rfl : t = 24 := by simpa using Array.mem_of_getElem? ht
  exact (show Tryd.prog.wantsStandIn 24 = false by kernel_rfl)

set_option maxRecDepth 100000 in
theorem fnExactRatInt_card : Rows.FnExactRatIntCardSaid :=
  Claim7.holds_tied_plain_at .later [] _ _ _ _ fnExactRatInt_said (fun _ h => by cases h) (by kernel_rfl) (fun _ h => by cases h) fnExactRatInt_row_tie rfl ⟨rfl, rfl⟩ (by kernel_rfl) rfl fnExactRatInt_plain (by kernel_rfl)
end Go.Proofs.YtkkdlgiilhngcaaDoor
