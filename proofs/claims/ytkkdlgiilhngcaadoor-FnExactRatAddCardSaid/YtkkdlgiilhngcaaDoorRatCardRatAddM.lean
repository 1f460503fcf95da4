/-
  For all arguments the law FnExactRatAdd of chapter 6 returns true; no conditions beyond the card's own (the listed variable holds what the program's text lays).
  The law FnExactRatAdd of chapter 6, walked: it returns true wherever both packages answer alike.
  What a law needs whose row names one package-level variable, the sentinel impl.errZeroDivisor, and lists it.
  Arguments of type laws.Rat, opened.
-/
import Derived.Test.YtkkdlgiilhngcaaDoorSignedArg
import Derived.Test.YtkkdlgiilhngcaaDoorLoc
import Derived.Test.YtkkdlgiilhngcaaDoorLaw
import Derived.Test.YtkkdlgiilhngcaaDoorCards
import Derived.Test.YtkkdlgiilhngcaaDoorTie
import Derived.Test.YtkkdlgiilhngcaaDoorErrIs
import Derived.Deep.DeepHandedRow
import Derived.Stop.LaidErr
import Derived.Deep.RegionHeld3
import Derived.Deep.DeepCutAuto
import Derived.Test.YtkkdlgiilhngcaaDoorRatSpec3
import Derived.Test.YtkkdlgiilhngcaaDoorRatOps
namespace Go.Proofs.YtkkdlgiilhngcaaDoor
open Go.ChangeShapes Go.WideShapes Go.ChangeAt Go.RowKit Go.Joins

theorem Tryd.cellsRat : Tryd.prog.cellsOf 26 = 3 := by kernel_rfl
set_option maxHeartbeats 400000 in
set_option maxRecDepth 100000 in
theorem arg_rat {H : Type} {enc : TypeId × Value → H} {W : World} {base : Nat} {v : Value} {d : DataW H} {p : List MemPlace}
    (hv : Value.okWide Tryd.prog W .any base 26 v) (h : DataW.Trod enc Tryd.prog W 0 (fun _ => true) true 26 v d p) : ∃ x : QI, RdQ W v x ∧ x.1.2.length ≤ maxLen ∧ x.2.length ≤ maxLen := by
  obtain ⟨cs, rfl, hsz⟩ := okWide_struct Tryd.underlying26 hv
  obtain ⟨c0, c1, c2, rfl⟩ := array3 (hsz.trans Tryd.cellsRat)
  obtain ⟨fuel, hf⟩ := h
  obtain ⟨y0, y1, n, hx, _, h0, h1⟩ := trod_struct2 Tryd.underlying26 hf
  have k0 : Tryd.prog.cellsOf 24 = 2 := Tryd.cellsSigned
  have k1 : Tryd.prog.cellsOf 22 = 1 := by kernel_rfl
  have kb : Tryd.prog.cellsOf 4 = 1 := by kernel_rfl
  simp only [Value.cells, k0, k1, List.drop_zero, List.take_succ_cons, List.take_zero, List.drop_succ_cons] at h0 h1
  obtain ⟨z0, z1, m, _, _, g0, g1⟩ := trod_struct2 Tryd.underlying24 h0
  simp only [kb, k1, List.drop_zero, List.take_succ_cons, List.take_zero, List.drop_succ_cons] at g0 g1
  obtain ⟨b, e0, _⟩ := DataW.trod_bool Tryd.underlying4 g0
  obtain ⟨a1, l1, cc1, e1⟩ := slice_form Tryd.underlying22 g1
  obtain ⟨a2, l2, cc2, e2⟩ := slice_form Tryd.underlying22 h1
  simp at e0 e1 e2
  subst e0 e1 e2
  obtain ⟨xs, hr, hl⟩ := cell_ints Tryd.underlying22 Tryd.underlying3 Tryd.cellsInt1 g1
  obtain ⟨ys, hs, hm⟩ := cell_ints Tryd.underlying22 Tryd.underlying3 Tryd.cellsInt1 h1
  exact ⟨((b, xs), ys), ⟨_, _, rfl, hr, hs⟩, hl, hm⟩
end Go.Proofs.YtkkdlgiilhngcaaDoor

namespace Go.Proofs.YtkkdlgiilhngcaaDoor
open Go.ChangeShapes Go.WideShapes Go.ChangeAt Go.RowKit

theorem senNamed : Tryd.prog.globalNamed "loop.example/g00793/impl.errZeroDivisor" = some 0 := by kernel_rfl
theorem senType : (Tryd.prog.globals[0]?).map (·.type) = some 81 := by kernel_rfl
theorem senCells : Tryd.prog.cellsOf 142 = 1 := by kernel_rfl
theorem strCells : Tryd.prog.cellsOf 9 = 1 := by kernel_rfl
theorem senStar : "*" ++ "errors.errorString" = "*errors.errorString" := by decide
theorem senRow (u : TypeId) (h : Tryd.prog.typeName? 3 u = some "*errors.errorString") : u = 116 :=
  typeName_ptr_named (nm := "errors.errorString") (by rw [senStar]; kernel_rfl) (by kernel_rfl) (by decide) u (by rw [senStar]; exact h)
/-- what the sentinel reads as -/
def senText : List UInt8 := [100, 105, 118, 105, 115, 105, 111, 110, 32, 98, 121, 32, 122, 101, 114, 111]
theorem senData : (Rows.laid_loop_example_g00793_impl_errZeroDivisor : DataW Unit) = .iface "*errors.errorString" (.ptr (.agg [.lit (.string senText)])) := by kernel_rfl
/-- the variable's value -/
def SenAt (a : Addr) (w : World) : Prop := w.var? Tryd.prog "loop.example/g00793/impl.errZeroDivisor" = some #[.iface 116 (.pointer (some a))]
theorem SenAt.sen {a : Addr} {w : World} (h : SenAt a w) : Sen w := ⟨a, by simpa using World.var?_cell senNamed h 0⟩
theorem sen_of {r : List (String × DataW Unit)} {W : World} (h : laidMet Tryd.prog (("loop.example/g00793/impl.errZeroDivisor", Rows.laid_loop_example_g00793_impl_errZeroDivisor) :: r) W) : ∃ a, SenAt a W := by
  rw [senData] at h
  obtain ⟨a, s, hv, _⟩ := laid_sentinel h senNamed senType Tryd.underlying81 senRow Tryd.underlying116 Tryd.underlying142 rfl rfl Tryd.underlying9 senCells strCells
  exact ⟨a, hv⟩
theorem SenAt.below {a : Addr} {w w' : World} (h : SenAt a w) (hb : Below w.heap.size w w') : SenAt a w' := by
  obtain ⟨_, hc⟩ := h.sen
  have hl := cell_lt hc
  unfold SenAt World.var? at h ⊢
  rw [senNamed] at h ⊢
  simp only [Option.bind_some] at h ⊢
  rw [hb.block _ hl]
  exact h

/-- the post of a law that names the sentinel -/
theorem law_post1 {H : Type} {enc : TypeId × Value → H} {f : Func} {s : ChangeSpec} {tb : TypeId} {a : Addr} {W W' : World} {args : Array Value} {ds gs : List (DataW H)} {before : List MemPlace}
    (hr : legible Tryd.prog f.params.toList = true) (hty : f.resultTypes = #[tb]) (htb : Tryd.prog.underlying tb = some .bool) (hvars : s.vars = ["loop.example/g00793/impl.errZeroDivisor"])
    (hs : SenAt a W) (hfn : ∀ g, s.fn H (ds ++ [g]) = { results := [.lit (.bool true)], args := ds, vars := [g] })
    (hW : DataW.Whole enc Tryd.prog f.params.toList s.vars false W args.toList ds gs before) (hb : Below W.heap.size W W') :
    s.post enc Tryd.prog f false true false false W args (.bool true) W' := by
  have hW' := hW
  obtain ⟨p, q, hA, hV, rfl, _, _⟩ := hW
  rw [hvars] at hV
  have vr : ∀ {X : World}, SenAt a X → ∀ sp : Nat → Bool, DataW.TrodVars enc Tryd.prog X sp ["loop.example/g00793/impl.errZeroDivisor"] [tok enc (.iface 116 (.pointer (some a)))] [.cell 0 0] :=
    fun x0 sp => vars_read1 enc senNamed senType Tryd.underlying81 x0 trivial sp
  obtain ⟨rfl, rfl⟩ := hV.unique (vr hs _)
  have hlt : ∀ x ∈ p, x.block < W.heap.size := fun x hx => hW'.lt x (by simp [hx])
  refine ⟨ds, _, _, [], p, [.cell 0 0], hW', ?_, ?_, ?_, hb.frame _, fun h => by cases h⟩
  · rw [hfn, hty]
    exact trodAll_mk1 (shut_bool htb _)
  · rw [hfn]
    exact args_below Tryd.laidOut hb hr hA hlt
  · rw [hfn, hvars]
    exact vr (hs.below hb) _

/-- a world for the witness: the settled one, the listed variable holding what its initialiser lays -/
def putSen (cs : Array Value) : Obj → Obj
  | .cells _ t frozen => .cells cs t frozen
  | o => o
noncomputable def low : Nat := (World.holding Tryd.prog default ⟨#[], #[], []⟩).heap.size
noncomputable def senWorld (os : Os) : World :=
  let w0 := World.holding Tryd.prog os ⟨#[.cells #[.string ⟨senText.toArray⟩] 142], #[], []⟩
  { w0 with heap := w0.heap.modify 0 (putSen #[.iface 116 (.pointer (some ⟨low, 0, none⟩))]) }

set_option maxRecDepth 100000 in
/-- from the walk at every argument, the listed variables at hand, to the lifted row -/
theorem law_lifted_sen {H : Type} {enc : TypeId × Value → H} {os : Os} (started : os.Started) {F : Stop.Interp} {f : FuncId} {fn : Func} {s : ChangeSpec} {conds : List PathCond} {tb : TypeId} {laidL : List (String × DataW Unit)}
    (noInit : Tryd.prog.inits.idxOf? f = none) (hfun : Tryd.prog.funcs[f]? = some fn)
    (hr : legible Tryd.prog fn.params.toList = true) (hty : fn.resultTypes = #[tb]) (htb : Tryd.prog.underlying tb = some .bool) (hvars : s.vars = ["loop.example/g00793/impl.errZeroDivisor"])
    (hsen : ∀ W, laidMetH Tryd.prog laidL W → ∃ a, SenAt a W)
    (witness : ∃ (w : World) (tape : Tape) (i : Input), w.os = os ∧ (w.forCall tape i).Shaped Tryd.checked.prog ∧ i.vars = [] ∧ Input.okWide Tryd.checked.prog (w.forCall tape i) .any w.heap.size f i ∧
      (OpenSpec.ofChange s).preRow enc Tryd.checked.prog fn conds false laidL (w.forCall tape i).memory i.args ∧ Assume.holds {} Tryd.checked.prog (lone (Frame.enter Tryd.checked.prog f i.args .normal) [] (w.forCall tape i)))
    (walk : ∀ (W : World) (base : Nat) (args : Array Value) (ds : List (DataW H)) (p : List MemPlace),
      (∀ (j : Nat) t v, fn.params[j]? = some t → args[j]? = some v → Value.okWide Tryd.prog W .any base t v) →
      DataW.TrodAll enc Tryd.prog W 0 (fun _ => true) true fn.params.toList args.toList ds p → (∀ x ∈ p, x.block < W.heap.size) → laidMetH Tryd.prog laidL W → Sen W →
      (∀ g, s.fn H (ds ++ [g]) = { results := [.lit (.bool true)], args := ds, vars := [g] }) ∧ Calls Tryd.prog f args W fun e W' => e = .returned (.bool true) ∧ Below W.heap.size W W') :
    ReturnsInHanded {} Tryd.checked os f .any ((OpenSpec.ofChange s).preRow enc Tryd.prog fn conds false laidL) (((OpenSpec.ofChange s).at F).post enc Tryd.prog fn false true false false) := by
  refine returnsInHanded_of_row (C := Tryd.checked) (s := OpenSpec.ofChange s) Tryd.own started noInit hfun witness ?_
  intro W base args ds gs before hval hW0 _ _ _ hL _ _
  have hW : DataW.Whole enc Tryd.prog fn.params.toList s.vars false W args.toList ds gs before := hW0
  have hW' := hW
  obtain ⟨p, q, hA, hV, rfl, _, _⟩ := hW
  obtain ⟨a, ha⟩ := hsen W hL
  obtain ⟨hfn, hc⟩ := walk W base args ds p hval hA (fun x hx => hW'.lt x (by simp [hx])) hL ha.sen
  refine hc.mono fun e W' ⟨he, hb⟩ => ?_
  subst he
  exact ⟨_, rfl, law_post1 hr hty htb hvars ha hfn hW' hb⟩
end Go.Proofs.YtkkdlgiilhngcaaDoor

namespace Go.Proofs.YtkkdlgiilhngcaaDoor
open Go.RowKit

set_option maxHeartbeats 4000000 in
set_option maxRecDepth 100000 in
theorem lawRatAdd_walk (va : Value) (vb : Value) (a : QI) (b : QI) (R0 : QI) (R1 : Bool) (w : World)
    (hS : ∀ (ua : Value) (ub : Value) (W : World), OwnQ ua a W → OwnQ ub b W → Calls Tryd.prog 27 #[ua, ub] W (PostQb R0 R1 W))
    (hI : ∀ (ua : Value) (ub : Value) (W : World), OwnQ ua a W → OwnQ ub b W → Sen W → Calls Tryd.prog 28 #[ua, ub] W (PostQb R0 R1 W))
    (ht0 : Sen w) (hl : szQ a + szQ b ≤ 1048576) (hlR0 : szQ R0 ≤ 1048576) (ra : RdQ w va a) (rb : RdQ w vb b) :
    Calls Tryd.prog 6 #[va, vb] w fun e w' => e = .returned (.bool true) ∧ Below w.heap.size w w' := by
  have HS := Lib.hid hS
  have HI := Lib.hid hI
  clear hS hI
  have HT0 := Lib.hid ht0
  clear ht0
  have hsa := szQ_nonneg a
  have hsb := szQ_nonneg b
  have hsR0 := szQ_nonneg R0
  have hza : szQ a ≤ 1048576 := by omega
  obtain ⟨Aa, ca, Ba, da, rfl⟩ := rdQ_form ra
  have hzb : szQ b ≤ 1048576 := by omega
  obtain ⟨Ab, cb, Bb, db, rfl⟩ := rdQ_form rb
  have bb0 : Below w.heap.size w ((w.alloc (.cells #[.bool a.1.1, .slice Aa a.1.2.length ca, .slice Ba a.2.length da] 26)).alloc (.cells #[.bool b.1.1, .slice Ab b.1.2.length cb, .slice Bb b.2.length db] 26)) := below_al (below_al (Below.refl _ _) _) _
  have ka := (box_new w #[.bool a.1.1, .slice Aa a.1.2.length ca, .slice Ba a.2.length da] 26).below (below_al (Below.refl _ _) (.cells #[.bool b.1.1, .slice Ab b.1.2.length cb, .slice Bb b.2.length db] 26))
  have kb := (box_new (w.alloc (.cells #[.bool a.1.1, .slice Aa a.1.2.length ca, .slice Ba a.2.length da] 26)) #[.bool b.1.1, .slice Ab b.1.2.length cb, .slice Bb b.2.length db] 26)
  rw [show (w.alloc (.cells #[.bool a.1.1, .slice Aa a.1.2.length ca, .slice Ba a.2.length da] 26)).heap.size = w.heap.size + 1 by simp] at kb
  have RFa : Hid (∀ W, Below w.heap.size w W → RdQ W (.agg #[.bool a.1.1, .slice Aa a.1.2.length ca, .slice Ba a.2.length da]) a) := Lib.hid fun W hb => ra.below hb
  have RFb : Hid (∀ W, Below w.heap.size w W → RdQ W (.agg #[.bool b.1.1, .slice Ab b.1.2.length cb, .slice Bb b.2.length db]) b) := Lib.hid fun W hb => rb.below hb
  go_enter Tryd.func6, Tryd.ntmps6
  have ka_c0 := ka.here.cell 0 _ rfl
  have ka_c1 := ka.here.cell 1 _ rfl
  have ka_c2 := ka.here.cell 2 _ rfl
  go_wp2_with fail
  clear ka_c0 ka_c1 ka_c2
  refine (szQ_cal _ a (1048576) _ (capQ_of hza) (by omega) (by omega) (RFa.out _ bb0)).mono ?_
  rintro e w1 ⟨rfl, b1⟩
  rw [leftI_of (by omega)]
  have bb1 := Below.next bb0 b1
  replace ka := ka.below b1
  replace kb := kb.below b1
  have hn : decide (((1048576 : Int) - szQ a : Int) < 0) = false := decide_eq_false (by omega)
  have kb_c0 := kb.here.cell 0 _ rfl
  have kb_c1 := kb.here.cell 1 _ rfl
  have kb_c2 := kb.here.cell 2 _ rfl
  go_wp2_with fail
  clear kb_c0 kb_c1 kb_c2
  refine (szQ_cal _ b (1048576 - szQ a) _ (capQ_of hzb) (by omega) (by omega) (RFb.out _ bb1)).mono ?_
  rintro e w2 ⟨rfl, b2⟩
  rw [leftI_of (by omega)]
  have bb2 := Below.next bb1 b2
  replace ka := ka.below b2
  replace kb := kb.below b2
  clear hn
  have hn : decide (((1048576 : Int) - szQ a - szQ b : Int) < 0) = false := decide_eq_false (by omega)
  have HKa := Lib.hid (ka.lt (w.heap.size) (by simp))
  have HKb := Lib.hid (kb.lt (w.heap.size + 1) (by simp))
  have ka_c0 := ka.here.cell 0 _ rfl
  have ka_c1 := ka.here.cell 1 _ rfl
  have ka_c2 := ka.here.cell 2 _ rfl
  have kb_c0 := kb.here.cell 0 _ rfl
  have kb_c1 := kb.here.cell 1 _ rfl
  have kb_c2 := kb.here.cell 2 _ rfl
  go_upto_region 8 with fail
  go_cut [6, 7] (fun s t1 wx => NewLocV 31 (fun v => OwnQ v R0) w2 s wx ∧ t1 = .bool R1)
  case first =>
    have HB0 := Lib.hid (show Below w2.heap.size w2 w2.drew from (Below.refl _ _).drew)
    have KL := Lib.hid (show ∀ W, Below w2.heap.size w2 W → W.cell? ⟨w.heap.size, 0, none⟩ = some (.bool a.1.1) ∧ W.cell? ⟨w.heap.size, 1, none⟩ = some (.slice Aa a.1.2.length ca) ∧ W.cell? ⟨w.heap.size, 2, none⟩ = some (.slice Ba a.2.length da) ∧ W.cell? ⟨w.heap.size + 1, 0, none⟩ = some (.bool b.1.1) ∧ W.cell? ⟨w.heap.size + 1, 1, none⟩ = some (.slice Ab b.1.2.length cb) ∧ W.cell? ⟨w.heap.size + 1, 2, none⟩ = some (.slice Bb b.2.length db) ∧ Hid (Below w2.heap.size w2 W) from
      fun W hb => ⟨(ka.below hb).here.cell 0 _ rfl, (ka.below hb).here.cell 1 _ rfl, (ka.below hb).here.cell 2 _ rfl, (kb.below hb).here.cell 0 _ rfl, (kb.below hb).here.cell 1 _ rfl, (kb.below hb).here.cell 2 _ rfl, Lib.hid hb⟩)
    have BBF := Lib.hid (show ∀ W, Below w2.heap.size w2 W → Below w.heap.size w W from fun W hb => Below.next bb2 hb)
    clear ka_c0 ka_c1 ka_c2 kb_c0 kb_c1 kb_c2
    go_region_held3 (fun W => W.cell? ⟨w.heap.size, 0, none⟩ = some (.bool a.1.1) ∧ W.cell? ⟨w.heap.size, 1, none⟩ = some (.slice Aa a.1.2.length ca) ∧ W.cell? ⟨w.heap.size, 2, none⟩ = some (.slice Ba a.2.length da) ∧ W.cell? ⟨w.heap.size + 1, 0, none⟩ = some (.bool b.1.1) ∧ W.cell? ⟨w.heap.size + 1, 1, none⟩ = some (.slice Ab b.1.2.length cb) ∧ W.cell? ⟨w.heap.size + 1, 2, none⟩ = some (.slice Bb b.2.length db) ∧ Hid (Below w2.heap.size w2 W))
      ((refine KL.out _ ?_; (first | exact HBf.out | exact HBtb.out | exact HBta.out | exact HB0.out | exact below_al HBf.out _ | exact below_al HBtb.out _ | exact below_al HBta.out _ | exact below_al HB0.out _ | exact below_set3 HBf.out (by first | exact HBtb.out.size | exact HBta.out.size | exact HB0.out.size) | fail)))
      (first
        | (go_at_call 14; (have hBB := (‹_ ∧ _ ∧ _ ∧ _ ∧ _ ∧ _ ∧ Hid (Below w2.heap.size w2 _)›).2.2.2.2.2.2); (with_reducible refine (toQ_new _ a _ hza (RFa.out _ (BBF.out _ hBB.out))).mono ?_); rintro e wta ⟨ta, Sta, rfl, ota, lta, bta⟩; have HBta := Lib.hid (Below.next hBB.out bta); (try have hbxa : At [w2.heap.size] (BoxAt w2.heap.size #[.bool false, .slice none 0 0, .slice none 0 0] 31) wta := At.below (box_new w2.drew _ _) bta); clear hBB)
        | (go_at_call 14; (have hBB := (‹_ ∧ _ ∧ _ ∧ _ ∧ _ ∧ _ ∧ Hid (Below w2.heap.size w2 _)›).2.2.2.2.2.2); (with_reducible refine (toQ_new _ b _ hzb (RFb.out _ (BBF.out _ hBB.out))).mono ?_); rintro e wtb ⟨tb, Stb, rfl, otb, ltb, btb⟩; have HBtb := Lib.hid (Below.next hBB.out btb); (have otab := At.below (by first | exact ota | exact At.below ota (below_al (Below.refl _ _) _)) btb); (first | have hbxb := At.below (box_new _ _ _) btb | have hbxb := At.below hbxa btb | skip); clear hBB)
        | (go_at_call 27; (have hBB := (‹_ ∧ _ ∧ _ ∧ _ ∧ _ ∧ _ ∧ Hid (Below w2.heap.size w2 _)›).2.2.2.2.2.2); (with_reducible refine (HS.out _ _ _ (At.here (by first | exact otab | exact At.below otab (below_al (Below.refl _ _) _))) (At.here (by first | exact otb | exact At.below otb (below_al (Below.refl _ _) _)))).mono ?_); rintro e wf ⟨uf, Sf, rfl, of, lf, bf⟩; have HBf := Lib.hid (Below.next hBB.out bf); have HBS := Lib.hid hBB.out.size; (first | have hbxg := At.below_lt (box_new _ _ _) bf | have hbxg := At.below_lt hbxb bf | skip); (try (have hbxf := hbxg.1; have HGB := Lib.hid hbxg.2; clear hbxg)); obtain ⟨Af, cf, Bf, df, rfl⟩ := ownQ_form of.here; (try (have cz0 := hbxf.here.cell 0 _ rfl; have cz1 := hbxf.here.cell 1 _ rfl; have cz2 := hbxf.here.cell 2 _ rfl; have fz0 := Lib.frozen_of_heap hbxf.here 0; have fz1 := Lib.frozen_of_heap hbxf.here 1; have fz2 := Lib.frozen_of_heap hbxf.here 2)); clear hBB))
    all_goals (go_wp2_with fail; go_meet; first | exact ⟨newLocV_last of lf HBS.out HBf.out, rfl⟩ | exact ⟨newLocV_early3 hbxf.here of lf (by first | exact HBtb.out.size | exact HBta.out.size | exact HB0.out.size) HGB.out HBf.out, rfl⟩)
  rename World => w3
  clear ka_c0 ka_c1 ka_c2 kb_c0 kb_c1 kb_c2
  obtain ⟨⟨gw0, csw0, Sw0, rfl, kw0, ow0, nw0, lw0, b3⟩, rfl⟩ := hcut
  obtain ⟨Aw0, cw0, Bw0, dw0, ew0⟩ := ownQ_form ow0.here
  injection ew0 with ew0
  subst ew0
  have bb3 := Below.next bb2 b3
  replace ka := ka.below b3
  replace kb := kb.below b3
  have ka_c0 := ka.here.cell 0 _ rfl
  have ka_c1 := ka.here.cell 1 _ rfl
  have ka_c2 := ka.here.cell 2 _ rfl
  go_upto_region 9 with fail
  go_cut [8] (fun s wx => NewLocV 31 (fun v => OwnQ v a) w3 s wx)
  case first =>
    go_wp2_with fail
    refine (toQ_new _ a _ hza (RFa.out _ bb3)).mono ?_
    rintro e wt ⟨ut, St, rfl, ot, lt, bt⟩
    obtain ⟨At, ct, Bt, dt, rfl⟩ := ownQ_form ot.here
    go_wp2_with fail
    go_meet
    exact newLocV_last ot lt (Nat.le_refl _) bt
  rename World => w4
  clear ka_c0 ka_c1 ka_c2
  obtain ⟨gxa, csxa, Sxa, rfl, kxa, oxa, nxa, lxa, b4⟩ := hcut
  obtain ⟨Axa, cxa, Bxa, dxa, exa⟩ := ownQ_form oxa.here
  injection exa with exa
  subst exa
  have bb4 := Below.next bb3 b4
  replace ka := ka.below b4
  replace kb := kb.below b4
  replace kw0 := kw0.below b4
  replace ow0 := ow0.below b4
  have kb_c0 := kb.here.cell 0 _ rfl
  have kb_c1 := kb.here.cell 1 _ rfl
  have kb_c2 := kb.here.cell 2 _ rfl
  go_upto_region 10 with fail
  go_cut [9] (fun s wx => NewLocV 31 (fun v => OwnQ v b) w4 s wx)
  case first =>
    go_wp2_with fail
    refine (toQ_new _ b _ hzb (RFb.out _ bb4)).mono ?_
    rintro e wt ⟨ut, St, rfl, ot, lt, bt⟩
    obtain ⟨At, ct, Bt, dt, rfl⟩ := ownQ_form ot.here
    go_wp2_with fail
    go_meet
    exact newLocV_last ot lt (Nat.le_refl _) bt
  rename World => w5
  clear kb_c0 kb_c1 kb_c2
  obtain ⟨gxb, csxb, Sxb, rfl, kxb, oxb, nxb, lxb, b5⟩ := hcut
  obtain ⟨Axb, cxb, Bxb, dxb, exb⟩ := ownQ_form oxb.here
  injection exb with exb
  subst exb
  have bb5 := Below.next bb4 b5
  replace ka := ka.below b5
  replace kb := kb.below b5
  replace kw0 := kw0.below b5
  replace ow0 := ow0.below b5
  replace kxa := kxa.below b5
  replace oxa := oxa.below b5
  have kxa_c0 := kxa.here.cell 0 _ rfl
  have kxa_c1 := kxa.here.cell 1 _ rfl
  have kxa_c2 := kxa.here.cell 2 _ rfl
  have kxb_c0 := kxb.here.cell 0 _ rfl
  have kxb_c1 := kxb.here.cell 1 _ rfl
  have kxb_c2 := kxb.here.cell 2 _ rfl
  go_upto_region 11 with fail
  go_cut [10, 11] (fun s t1 wx => NewLocV 31 (fun v => OwnQ v R0) w5 s wx ∧ t1 = .bool R1)
  case first =>
    go_wp2_with fail
    refine (HI.out _ _ _ oxa.here oxb.here (HT0.out.below bb5)).mono ?_
    rintro e wf ⟨uf, Sf, rfl, of, lf, bf⟩
    obtain ⟨Af, cf, Bf, df, rfl⟩ := ownQ_form of.here
    go_wp2_with fail
    go_meet
    exact ⟨newLocV_last of lf (Nat.le_refl _) bf, rfl⟩
  rename World => w6
  clear kxa_c0 kxa_c1 kxa_c2 kxb_c0 kxb_c1 kxb_c2
  obtain ⟨⟨gg0, csg0, Sg0, rfl, kg0, og0, ng0, lg0, b6⟩, rfl⟩ := hcut
  obtain ⟨Ag0, cg0, Bg0, dg0, eg0⟩ := ownQ_form og0.here
  injection eg0 with eg0
  subst eg0
  have bb6 := Below.next bb5 b6
  replace ka := ka.below b6
  replace kb := kb.below b6
  replace kw0 := kw0.below b6
  replace ow0 := ow0.below b6
  replace kxa := kxa.below b6
  replace oxa := oxa.below b6
  replace kxb := kxb.below b6
  replace oxb := oxb.below b6
  have kg0_c0 := kg0.here.cell 0 _ rfl
  have kg0_c1 := kg0.here.cell 1 _ rfl
  have kg0_c2 := kg0.here.cell 2 _ rfl
  have kw0_c0 := kw0.here.cell 0 _ rfl
  have kw0_c1 := kw0.here.cell 1 _ rfl
  have kw0_c2 := kw0.here.cell 2 _ rfl
  go_wp2_with fail
  clear kg0_c0 kg0_c1 kg0_c2 kw0_c0 kw0_c1 kw0_c2
  refine (eqQ_cal _ _ R0 R0 _ (capQ_of (by omega)) (OwnQ.rd og0.here) (OwnQ.rd ow0.here)).mono ?_
  rintro e w7 ⟨rfl, b7⟩
  rw [decide_refl]
  have bb7 := Below.next bb6 b7
  replace ka := ka.below b7
  replace kb := kb.below b7
  replace kw0 := kw0.below b7
  replace ow0 := ow0.below b7
  replace kxa := kxa.below b7
  replace oxa := oxa.below b7
  replace kxb := kxb.below b7
  replace oxb := oxb.below b7
  replace kg0 := kg0.below b7
  replace og0 := og0.below b7
  have ka_c0 := ka.here.cell 0 _ rfl
  have ka_c1 := ka.here.cell 1 _ rfl
  have ka_c2 := ka.here.cell 2 _ rfl
  have kxa_c0 := kxa.here.cell 0 _ rfl
  have kxa_c1 := kxa.here.cell 1 _ rfl
  have kxa_c2 := kxa.here.cell 2 _ rfl
  go_wp2_with fail
  have HB0 := Lib.hid (show Below w7.heap.size w7 w7.drew from (Below.refl _ _).drew)
  have KL := Lib.hid (show ∀ W, Below w7.heap.size w7 W → W.cell? ⟨w.heap.size, 0, none⟩ = some (.bool a.1.1) ∧ W.cell? ⟨w.heap.size, 1, none⟩ = some (.slice Aa a.1.2.length ca) ∧ W.cell? ⟨w.heap.size, 2, none⟩ = some (.slice Ba a.2.length da) ∧ W.cell? ⟨gxa, 0, none⟩ = some (.bool a.1.1) ∧ W.cell? ⟨gxa, 1, none⟩ = some (.slice Axa a.1.2.length cxa) ∧ W.cell? ⟨gxa, 2, none⟩ = some (.slice Bxa a.2.length dxa) ∧ Hid (Below w7.heap.size w7 W) from
    fun W hb => ⟨(ka.below hb).here.cell 0 _ rfl, (ka.below hb).here.cell 1 _ rfl, (ka.below hb).here.cell 2 _ rfl, (kxa.below hb).here.cell 0 _ rfl, (kxa.below hb).here.cell 1 _ rfl, (kxa.below hb).here.cell 2 _ rfl, Lib.hid hb⟩)
  have BBF := Lib.hid (show ∀ W, Below w7.heap.size w7 W → Below w.heap.size w W from fun W hb => Below.next bb7 hb)
  have OXF := Lib.hid (show ∀ W, Below w7.heap.size w7 W → OwnQ (.agg #[.bool a.1.1, .slice Axa a.1.2.length cxa, .slice Bxa a.2.length dxa]) a W from fun W hb => (oxa.below hb).here)
  clear ka_c0 ka_c1 ka_c2 kxa_c0 kxa_c1 kxa_c2
  go_region_held3 (fun W => W.cell? ⟨w.heap.size, 0, none⟩ = some (.bool a.1.1) ∧ W.cell? ⟨w.heap.size, 1, none⟩ = some (.slice Aa a.1.2.length ca) ∧ W.cell? ⟨w.heap.size, 2, none⟩ = some (.slice Ba a.2.length da) ∧ W.cell? ⟨gxa, 0, none⟩ = some (.bool a.1.1) ∧ W.cell? ⟨gxa, 1, none⟩ = some (.slice Axa a.1.2.length cxa) ∧ W.cell? ⟨gxa, 2, none⟩ = some (.slice Bxa a.2.length dxa) ∧ Hid (Below w7.heap.size w7 W))
    ((refine KL.out _ ?_; (first | exact HBe.out | exact HBt.out | exact HB0.out | fail)))
    (first
      | (go_at_call 14; (have hBB := (‹_ ∧ _ ∧ _ ∧ _ ∧ _ ∧ _ ∧ Hid (Below w7.heap.size w7 _)›).2.2.2.2.2.2); (with_reducible refine (toQ_new _ a _ hza (RFa.out _ (BBF.out _ hBB.out))).mono ?_); rintro e wt ⟨t, St, rfl, ot, lt, bt⟩; have HBt := Lib.hid (Below.next hBB.out bt); clear hBB)
      | (go_at_call 16; (have hBB := (‹_ ∧ _ ∧ _ ∧ _ ∧ _ ∧ _ ∧ Hid (Below w7.heap.size w7 _)›).2.2.2.2.2.2); (with_reducible refine (eqQ_cal _ _ a a _ (capQ_of hza) (OwnQ.rd (OXF.out _ hBB.out)) (OwnQ.rd ot.here)).mono ?_); rintro e w8 ⟨rfl, be⟩; rw [decide_refl]; have HBe := Lib.hid (Below.next hBB.out be); clear hBB))
  have b8 := HBe.out
  have bb8 := Below.next bb7 b8
  replace ka := ka.below b8
  replace kb := kb.below b8
  replace kw0 := kw0.below b8
  replace ow0 := ow0.below b8
  replace kxa := kxa.below b8
  replace oxa := oxa.below b8
  replace kxb := kxb.below b8
  replace oxb := oxb.below b8
  replace kg0 := kg0.below b8
  replace og0 := og0.below b8
  clear HB0 KL BBF OXF HBt HBe ot lt
  have kb_c0 := kb.here.cell 0 _ rfl
  have kb_c1 := kb.here.cell 1 _ rfl
  have kb_c2 := kb.here.cell 2 _ rfl
  have kxb_c0 := kxb.here.cell 0 _ rfl
  have kxb_c1 := kxb.here.cell 1 _ rfl
  have kxb_c2 := kxb.here.cell 2 _ rfl
  go_wp2_with fail
  have HB0 := Lib.hid (show Below w8.heap.size w8 w8.drew from (Below.refl _ _).drew)
  have KL := Lib.hid (show ∀ W, Below w8.heap.size w8 W → W.cell? ⟨w.heap.size + 1, 0, none⟩ = some (.bool b.1.1) ∧ W.cell? ⟨w.heap.size + 1, 1, none⟩ = some (.slice Ab b.1.2.length cb) ∧ W.cell? ⟨w.heap.size + 1, 2, none⟩ = some (.slice Bb b.2.length db) ∧ W.cell? ⟨gxb, 0, none⟩ = some (.bool b.1.1) ∧ W.cell? ⟨gxb, 1, none⟩ = some (.slice Axb b.1.2.length cxb) ∧ W.cell? ⟨gxb, 2, none⟩ = some (.slice Bxb b.2.length dxb) ∧ Hid (Below w8.heap.size w8 W) from
    fun W hb => ⟨(kb.below hb).here.cell 0 _ rfl, (kb.below hb).here.cell 1 _ rfl, (kb.below hb).here.cell 2 _ rfl, (kxb.below hb).here.cell 0 _ rfl, (kxb.below hb).here.cell 1 _ rfl, (kxb.below hb).here.cell 2 _ rfl, Lib.hid hb⟩)
  have BBF := Lib.hid (show ∀ W, Below w8.heap.size w8 W → Below w.heap.size w W from fun W hb => Below.next bb8 hb)
  have OXF := Lib.hid (show ∀ W, Below w8.heap.size w8 W → OwnQ (.agg #[.bool b.1.1, .slice Axb b.1.2.length cxb, .slice Bxb b.2.length dxb]) b W from fun W hb => (oxb.below hb).here)
  clear kb_c0 kb_c1 kb_c2 kxb_c0 kxb_c1 kxb_c2
  go_region_held3 (fun W => W.cell? ⟨w.heap.size + 1, 0, none⟩ = some (.bool b.1.1) ∧ W.cell? ⟨w.heap.size + 1, 1, none⟩ = some (.slice Ab b.1.2.length cb) ∧ W.cell? ⟨w.heap.size + 1, 2, none⟩ = some (.slice Bb b.2.length db) ∧ W.cell? ⟨gxb, 0, none⟩ = some (.bool b.1.1) ∧ W.cell? ⟨gxb, 1, none⟩ = some (.slice Axb b.1.2.length cxb) ∧ W.cell? ⟨gxb, 2, none⟩ = some (.slice Bxb b.2.length dxb) ∧ Hid (Below w8.heap.size w8 W))
    ((refine KL.out _ ?_; (first | exact HBe.out | exact HBt.out | exact HB0.out | fail)))
    (first
      | (go_at_call 14; (have hBB := (‹_ ∧ _ ∧ _ ∧ _ ∧ _ ∧ _ ∧ Hid (Below w8.heap.size w8 _)›).2.2.2.2.2.2); (with_reducible refine (toQ_new _ b _ hzb (RFb.out _ (BBF.out _ hBB.out))).mono ?_); rintro e wt ⟨t, St, rfl, ot, lt, bt⟩; have HBt := Lib.hid (Below.next hBB.out bt); clear hBB)
      | (go_at_call 16; (have hBB := (‹_ ∧ _ ∧ _ ∧ _ ∧ _ ∧ _ ∧ Hid (Below w8.heap.size w8 _)›).2.2.2.2.2.2); (with_reducible refine (eqQ_cal _ _ b b _ (capQ_of hzb) (OwnQ.rd (OXF.out _ hBB.out)) (OwnQ.rd ot.here)).mono ?_); rintro e w9 ⟨rfl, be⟩; rw [decide_refl]; have HBe := Lib.hid (Below.next hBB.out be); clear hBB))
  have b9 := HBe.out
  have bb9 := Below.next bb8 b9
  replace ka := ka.below b9
  replace kb := kb.below b9
  replace kw0 := kw0.below b9
  replace ow0 := ow0.below b9
  replace kxa := kxa.below b9
  replace oxa := oxa.below b9
  replace kxb := kxb.below b9
  replace oxb := oxb.below b9
  replace kg0 := kg0.below b9
  replace og0 := og0.below b9
  clear HB0 KL BBF OXF HBt HBe ot lt
  have z1 := b1.size
  have z2 := b2.size
  have z3 := b3.size
  have z4 := b4.size
  have z5 := b5.size
  have z6 := b6.size
  have z7 := b7.size
  have z8 := b8.size
  have z9 := b9.size
  have AP_xa_xb := Lib.hid (Within.apart lxa lxb (.inl (by omega)))
  have AP_xa_g0 := Lib.hid (Within.apart lxa lg0 (.inl (by omega)))
  have AP_xb_g0 := Lib.hid (Within.apart lxb lg0 (.inl (by omega)))
  have AP_w0_xa := Lib.hid (Within.apart lw0 lxa (.inl (by omega)))
  have AP_w0_xb := Lib.hid (Within.apart lw0 lxb (.inl (by omega)))
  have AP_w0_g0 := Lib.hid (Within.apart lw0 lg0 (.inl (by omega)))
  have F_xa := Lib.hid (Within.from (B := w.heap.size) lxa (by have := bb2.size; omega))
  have N_xa := Lib.hid nxa
  have KX_a_xa := Lib.hid (show ∀ i ∈ [w.heap.size], i ∉ gxa :: Sxa from fun i hi hm => by have h1 := (lxa i hm).1; have h2 := HKa.out; simp at hi; omega)
  have KX_b_xa := Lib.hid (show ∀ i ∈ [w.heap.size + 1], i ∉ gxa :: Sxa from fun i hi hm => by have h1 := (lxa i hm).1; have h2 := HKb.out; simp at hi; omega)
  have F_xb := Lib.hid (Within.from (B := w.heap.size) lxb (by have := bb2.size; omega))
  have N_xb := Lib.hid nxb
  have KX_a_xb := Lib.hid (show ∀ i ∈ [w.heap.size], i ∉ gxb :: Sxb from fun i hi hm => by have h1 := (lxb i hm).1; have h2 := HKa.out; simp at hi; omega)
  have KX_b_xb := Lib.hid (show ∀ i ∈ [w.heap.size + 1], i ∉ gxb :: Sxb from fun i hi hm => by have h1 := (lxb i hm).1; have h2 := HKb.out; simp at hi; omega)
  have F_g0 := Lib.hid (Within.from (B := w.heap.size) lg0 (by have := bb2.size; omega))
  have N_g0 := Lib.hid ng0
  have KX_a_g0 := Lib.hid (show ∀ i ∈ [w.heap.size], i ∉ gg0 :: Sg0 from fun i hi hm => by have h1 := (lg0 i hm).1; have h2 := HKa.out; simp at hi; omega)
  have KX_b_g0 := Lib.hid (show ∀ i ∈ [w.heap.size + 1], i ∉ gg0 :: Sg0 from fun i hi hm => by have h1 := (lg0 i hm).1; have h2 := HKb.out; simp at hi; omega)
  clear z1 z2 z3 z4 z5 z6 z7 z8 z9
  have kxa_c0 := kxa.here.cell 0 _ rfl
  have kxa_c1 := kxa.here.cell 1 _ rfl
  have kxa_c2 := kxa.here.cell 2 _ rfl
  go_wp2_with fail
  clear kxa_c0 kxa_c1 kxa_c2
  refine (markQ_cal _ a _ (1) _ (by omega) (by omega) oxa).mono ?_
  rintro e w10 ⟨rfl, mkxa, c10⟩
  clear oxa
  have bb10 := below_chg bb9 c10 bb9.size (fun i hi => F_xa.out i (List.mem_cons_of_mem _ hi))
  replace ka := ka.chg c10 (fun i hi hm => KX_a_xa.out i hi (List.mem_cons_of_mem _ hm))
  replace kb := kb.chg c10 (fun i hi hm => KX_b_xa.out i hi (List.mem_cons_of_mem _ hm))
  replace kw0 := kw0.chg c10 (fun i hi hm => AP_w0_xa.out i (by simp at hi; subst hi; exact List.mem_cons_self ..) (List.mem_cons_of_mem _ hm))
  replace ow0 := ow0.chg c10 (fun i hi hm => AP_w0_xa.out i (List.mem_cons_of_mem _ hi) (List.mem_cons_of_mem _ hm))
  replace kxa := kxa.chg c10 (fun i hi hm => by simp at hi; subst hi; exact N_xa.out hm)
  replace kxb := kxb.chg c10 (fun i hi hm => (apart_symm AP_xa_xb.out) i (by simp at hi; subst hi; exact List.mem_cons_self ..) (List.mem_cons_of_mem _ hm))
  replace oxb := oxb.chg c10 (fun i hi hm => (apart_symm AP_xa_xb.out) i (List.mem_cons_of_mem _ hi) (List.mem_cons_of_mem _ hm))
  replace kg0 := kg0.chg c10 (fun i hi hm => (apart_symm AP_xa_g0.out) i (by simp at hi; subst hi; exact List.mem_cons_self ..) (List.mem_cons_of_mem _ hm))
  replace og0 := og0.chg c10 (fun i hi hm => (apart_symm AP_xa_g0.out) i (List.mem_cons_of_mem _ hi) (List.mem_cons_of_mem _ hm))
  have kxb_c0 := kxb.here.cell 0 _ rfl
  have kxb_c1 := kxb.here.cell 1 _ rfl
  have kxb_c2 := kxb.here.cell 2 _ rfl
  go_wp2_with fail
  clear kxb_c0 kxb_c1 kxb_c2
  refine (markQ_cal _ b _ (1 + szQ a) _ (by omega) (by omega) oxb).mono ?_
  rintro e w11 ⟨rfl, mkxb, c11⟩
  clear oxb
  have bb11 := below_chg bb10 c11 bb10.size (fun i hi => F_xb.out i (List.mem_cons_of_mem _ hi))
  replace ka := ka.chg c11 (fun i hi hm => KX_a_xb.out i hi (List.mem_cons_of_mem _ hm))
  replace kb := kb.chg c11 (fun i hi hm => KX_b_xb.out i hi (List.mem_cons_of_mem _ hm))
  replace kw0 := kw0.chg c11 (fun i hi hm => AP_w0_xb.out i (by simp at hi; subst hi; exact List.mem_cons_self ..) (List.mem_cons_of_mem _ hm))
  replace ow0 := ow0.chg c11 (fun i hi hm => AP_w0_xb.out i (List.mem_cons_of_mem _ hi) (List.mem_cons_of_mem _ hm))
  replace kxa := kxa.chg c11 (fun i hi hm => AP_xa_xb.out i (by simp at hi; subst hi; exact List.mem_cons_self ..) (List.mem_cons_of_mem _ hm))
  replace kxb := kxb.chg c11 (fun i hi hm => by simp at hi; subst hi; exact N_xb.out hm)
  replace kg0 := kg0.chg c11 (fun i hi hm => (apart_symm AP_xb_g0.out) i (by simp at hi; subst hi; exact List.mem_cons_self ..) (List.mem_cons_of_mem _ hm))
  replace og0 := og0.chg c11 (fun i hi hm => (apart_symm AP_xb_g0.out) i (List.mem_cons_of_mem _ hi) (List.mem_cons_of_mem _ hm))
  replace mkxa := mkxa.chg c11 (fun i hi hm => AP_xa_xb.out i (List.mem_cons_of_mem _ hi) (List.mem_cons_of_mem _ hm))
  have hk : decide (((1 + szQ a + szQ b) : Int) < 0) = false := decide_eq_false (by omega)
  have kg0_c0 := kg0.here.cell 0 _ rfl
  have kg0_c1 := kg0.here.cell 1 _ rfl
  have kg0_c2 := kg0.here.cell 2 _ rfl
  have kw0_c0 := kw0.here.cell 0 _ rfl
  have kw0_c1 := kw0.here.cell 1 _ rfl
  have kw0_c2 := kw0.here.cell 2 _ rfl
  go_wp2_with fail
  clear kg0_c0 kg0_c1 kg0_c2 kw0_c0 kw0_c1 kw0_c2
  refine (eqQ_cal _ _ R0 R0 _ (capQ_of (by omega)) (OwnQ.rd og0.here) (OwnQ.rd ow0.here)).mono ?_
  rintro e w12 ⟨rfl, b12⟩
  rw [decide_refl]
  have bb12 := Below.next bb11 b12
  replace ka := ka.below b12
  replace kb := kb.below b12
  replace kw0 := kw0.below b12
  replace ow0 := ow0.below b12
  replace kxa := kxa.below b12
  replace kxb := kxb.below b12
  replace kg0 := kg0.below b12
  replace og0 := og0.below b12
  replace mkxa := mkxa.below b12
  replace mkxb := mkxb.below b12
  clear hk
  have kg0_c0 := kg0.here.cell 0 _ rfl
  have kg0_c1 := kg0.here.cell 1 _ rfl
  have kg0_c2 := kg0.here.cell 2 _ rfl
  go_wp2_with fail
  clear kg0_c0 kg0_c1 kg0_c2
  refine (markQ_cal _ R0 _ (1) _ (by omega) (by omega) og0).mono ?_
  rintro e w13 ⟨rfl, mkg0, c13⟩
  clear og0
  have bb13 := below_chg bb12 c13 bb12.size (fun i hi => F_g0.out i (List.mem_cons_of_mem _ hi))
  replace ka := ka.chg c13 (fun i hi hm => KX_a_g0.out i hi (List.mem_cons_of_mem _ hm))
  replace kb := kb.chg c13 (fun i hi hm => KX_b_g0.out i hi (List.mem_cons_of_mem _ hm))
  replace kw0 := kw0.chg c13 (fun i hi hm => AP_w0_g0.out i (by simp at hi; subst hi; exact List.mem_cons_self ..) (List.mem_cons_of_mem _ hm))
  replace ow0 := ow0.chg c13 (fun i hi hm => AP_w0_g0.out i (List.mem_cons_of_mem _ hi) (List.mem_cons_of_mem _ hm))
  replace kxa := kxa.chg c13 (fun i hi hm => AP_xa_g0.out i (by simp at hi; subst hi; exact List.mem_cons_self ..) (List.mem_cons_of_mem _ hm))
  replace kxb := kxb.chg c13 (fun i hi hm => AP_xb_g0.out i (by simp at hi; subst hi; exact List.mem_cons_self ..) (List.mem_cons_of_mem _ hm))
  replace kg0 := kg0.chg c13 (fun i hi hm => by simp at hi; subst hi; exact N_g0.out hm)
  replace mkxa := mkxa.chg c13 (fun i hi hm => AP_xa_g0.out i (List.mem_cons_of_mem _ hi) (List.mem_cons_of_mem _ hm))
  replace mkxb := mkxb.chg c13 (fun i hi hm => AP_xb_g0.out i (List.mem_cons_of_mem _ hi) (List.mem_cons_of_mem _ hm))
  have kg0_c0 := kg0.here.cell 0 _ rfl
  have kg0_c1 := kg0.here.cell 1 _ rfl
  have kg0_c2 := kg0.here.cell 2 _ rfl
  go_wp2_with fail
  clear kg0_c0 kg0_c1 kg0_c2
  refine (heldQ_cal _ R0 (1) _ (by omega) (by omega) mkg0.here).mono ?_
  rintro e w14 ⟨rfl, b14⟩
  have bb14 := Below.next bb13 b14
  replace ka := ka.below b14
  replace kb := kb.below b14
  replace kw0 := kw0.below b14
  replace ow0 := ow0.below b14
  replace kxa := kxa.below b14
  replace kxb := kxb.below b14
  replace kg0 := kg0.below b14
  replace mkxa := mkxa.below b14
  replace mkxb := mkxb.below b14
  replace mkg0 := mkg0.below b14
  have hq14 : decide ((1 : Int) + szQ R0 < 0) = false := decide_eq_false (by omega)
  have ka_c0 := ka.here.cell 0 _ rfl
  have ka_c1 := ka.here.cell 1 _ rfl
  have ka_c2 := ka.here.cell 2 _ rfl
  have kb_c0 := kb.here.cell 0 _ rfl
  have kb_c1 := kb.here.cell 1 _ rfl
  have kb_c2 := kb.here.cell 2 _ rfl
  go_upto_region 31 with fail
  go_cut [15, 16] (fun s t1 wx => NewLocV 31 (fun v => OwnQ v R0) w14 s wx ∧ t1 = .bool R1)
  case first =>
    have HB0 := Lib.hid (show Below w14.heap.size w14 w14.drew from (Below.refl _ _).drew)
    have KL := Lib.hid (show ∀ W, Below w14.heap.size w14 W → W.cell? ⟨w.heap.size, 0, none⟩ = some (.bool a.1.1) ∧ W.cell? ⟨w.heap.size, 1, none⟩ = some (.slice Aa a.1.2.length ca) ∧ W.cell? ⟨w.heap.size, 2, none⟩ = some (.slice Ba a.2.length da) ∧ W.cell? ⟨w.heap.size + 1, 0, none⟩ = some (.bool b.1.1) ∧ W.cell? ⟨w.heap.size + 1, 1, none⟩ = some (.slice Ab b.1.2.length cb) ∧ W.cell? ⟨w.heap.size + 1, 2, none⟩ = some (.slice Bb b.2.length db) ∧ Hid (Below w14.heap.size w14 W) from
      fun W hb => ⟨(ka.below hb).here.cell 0 _ rfl, (ka.below hb).here.cell 1 _ rfl, (ka.below hb).here.cell 2 _ rfl, (kb.below hb).here.cell 0 _ rfl, (kb.below hb).here.cell 1 _ rfl, (kb.below hb).here.cell 2 _ rfl, Lib.hid hb⟩)
    have BBF := Lib.hid (show ∀ W, Below w14.heap.size w14 W → Below w.heap.size w W from fun W hb => Below.next bb14 hb)
    clear ka_c0 ka_c1 ka_c2 kb_c0 kb_c1 kb_c2
    go_region_held3 (fun W => W.cell? ⟨w.heap.size, 0, none⟩ = some (.bool a.1.1) ∧ W.cell? ⟨w.heap.size, 1, none⟩ = some (.slice Aa a.1.2.length ca) ∧ W.cell? ⟨w.heap.size, 2, none⟩ = some (.slice Ba a.2.length da) ∧ W.cell? ⟨w.heap.size + 1, 0, none⟩ = some (.bool b.1.1) ∧ W.cell? ⟨w.heap.size + 1, 1, none⟩ = some (.slice Ab b.1.2.length cb) ∧ W.cell? ⟨w.heap.size + 1, 2, none⟩ = some (.slice Bb b.2.length db) ∧ Hid (Below w14.heap.size w14 W))
      ((refine KL.out _ ?_; (first | exact HBf.out | exact HBtb.out | exact HBta.out | exact HB0.out | exact below_al HBf.out _ | exact below_al HBtb.out _ | exact below_al HBta.out _ | exact below_al HB0.out _ | exact below_set3 HBf.out (by first | exact HBtb.out.size | exact HBta.out.size | exact HB0.out.size) | fail)))
      (first
        | (go_at_call 14; (have hBB := (‹_ ∧ _ ∧ _ ∧ _ ∧ _ ∧ _ ∧ Hid (Below w14.heap.size w14 _)›).2.2.2.2.2.2); (with_reducible refine (toQ_new _ a _ hza (RFa.out _ (BBF.out _ hBB.out))).mono ?_); rintro e wta ⟨ta, Sta, rfl, ota, lta, bta⟩; have HBta := Lib.hid (Below.next hBB.out bta); (try have hbxa : At [w14.heap.size] (BoxAt w14.heap.size #[.bool false, .slice none 0 0, .slice none 0 0] 31) wta := At.below (box_new w14.drew _ _) bta); clear hBB)
        | (go_at_call 14; (have hBB := (‹_ ∧ _ ∧ _ ∧ _ ∧ _ ∧ _ ∧ Hid (Below w14.heap.size w14 _)›).2.2.2.2.2.2); (with_reducible refine (toQ_new _ b _ hzb (RFb.out _ (BBF.out _ hBB.out))).mono ?_); rintro e wtb ⟨tb, Stb, rfl, otb, ltb, btb⟩; have HBtb := Lib.hid (Below.next hBB.out btb); (have otab := At.below (by first | exact ota | exact At.below ota (below_al (Below.refl _ _) _)) btb); (first | have hbxb := At.below (box_new _ _ _) btb | have hbxb := At.below hbxa btb | skip); clear hBB)
        | (go_at_call 28; (have hBB := (‹_ ∧ _ ∧ _ ∧ _ ∧ _ ∧ _ ∧ Hid (Below w14.heap.size w14 _)›).2.2.2.2.2.2); (with_reducible refine (HI.out _ _ _ (At.here (by first | exact otab | exact At.below otab (below_al (Below.refl _ _) _))) (At.here (by first | exact otb | exact At.below otb (below_al (Below.refl _ _) _))) (HT0.out.below (BBF.out _ hBB.out))).mono ?_); rintro e wf ⟨uf, Sf, rfl, of, lf, bf⟩; have HBf := Lib.hid (Below.next hBB.out bf); have HBS := Lib.hid hBB.out.size; (first | have hbxg := At.below_lt (box_new _ _ _) bf | have hbxg := At.below_lt hbxb bf | skip); (try (have hbxf := hbxg.1; have HGB := Lib.hid hbxg.2; clear hbxg)); obtain ⟨Af, cf, Bf, df, rfl⟩ := ownQ_form of.here; (try (have cz0 := hbxf.here.cell 0 _ rfl; have cz1 := hbxf.here.cell 1 _ rfl; have cz2 := hbxf.here.cell 2 _ rfl; have fz0 := Lib.frozen_of_heap hbxf.here 0; have fz1 := Lib.frozen_of_heap hbxf.here 1; have fz2 := Lib.frozen_of_heap hbxf.here 2)); clear hBB))
    all_goals (go_wp2_with fail; go_meet; first | exact ⟨newLocV_last of lf HBS.out HBf.out, rfl⟩ | exact ⟨newLocV_early3 hbxf.here of lf (by first | exact HBtb.out.size | exact HBta.out.size | exact HB0.out.size) HGB.out HBf.out, rfl⟩)
  rename World => w15
  clear ka_c0 ka_c1 ka_c2 kb_c0 kb_c1 kb_c2
  obtain ⟨⟨gh0, csh0, Sh0, rfl, kh0, oh0, nh0, lh0, b15⟩, rfl⟩ := hcut
  obtain ⟨Ah0, ch0, Bh0, dh0, eh0⟩ := ownQ_form oh0.here
  injection eh0 with eh0
  subst eh0
  have bb15 := Below.next bb14 b15
  replace ka := ka.below b15
  replace kb := kb.below b15
  replace kw0 := kw0.below b15
  replace ow0 := ow0.below b15
  replace kxa := kxa.below b15
  replace kxb := kxb.below b15
  replace kg0 := kg0.below b15
  replace mkxa := mkxa.below b15
  replace mkxb := mkxb.below b15
  replace mkg0 := mkg0.below b15
  have kh0_c0 := kh0.here.cell 0 _ rfl
  have kh0_c1 := kh0.here.cell 1 _ rfl
  have kh0_c2 := kh0.here.cell 2 _ rfl
  have kw0_c0 := kw0.here.cell 0 _ rfl
  have kw0_c1 := kw0.here.cell 1 _ rfl
  have kw0_c2 := kw0.here.cell 2 _ rfl
  go_wp2_with fail
  clear kh0_c0 kh0_c1 kh0_c2 kw0_c0 kw0_c1 kw0_c2
  refine (eqQ_cal _ _ R0 R0 _ (capQ_of (by omega)) (OwnQ.rd oh0.here) (OwnQ.rd ow0.here)).mono ?_
  rintro e w16 ⟨rfl, b16⟩
  rw [decide_refl]
  have bb16 := Below.next bb15 b16
  replace ka := ka.below b16
  replace kb := kb.below b16
  replace kw0 := kw0.below b16
  replace ow0 := ow0.below b16
  replace kxa := kxa.below b16
  replace kxb := kxb.below b16
  replace kg0 := kg0.below b16
  replace mkxa := mkxa.below b16
  replace mkxb := mkxb.below b16
  replace mkg0 := mkg0.below b16
  replace kh0 := kh0.below b16
  replace oh0 := oh0.below b16
  have kg0_c0 := kg0.here.cell 0 _ rfl
  have kg0_c1 := kg0.here.cell 1 _ rfl
  have kg0_c2 := kg0.here.cell 2 _ rfl
  go_wp2_with fail
  clear kg0_c0 kg0_c1 kg0_c2
  refine (heldQ_cal _ R0 (1) _ (by omega) (by omega) mkg0.here).mono ?_
  rintro e w17 ⟨rfl, b17⟩
  have bb17 := Below.next bb16 b17
  replace ka := ka.below b17
  replace kb := kb.below b17
  replace kw0 := kw0.below b17
  replace ow0 := ow0.below b17
  replace kxa := kxa.below b17
  replace kxb := kxb.below b17
  replace kg0 := kg0.below b17
  replace mkxa := mkxa.below b17
  replace mkxb := mkxb.below b17
  replace mkg0 := mkg0.below b17
  replace kh0 := kh0.below b17
  replace oh0 := oh0.below b17
  have hq17 : decide ((1 : Int) + szQ R0 < 0) = false := decide_eq_false (by omega)
  go_wp2
  go_ret
  exact ⟨rfl, bb17⟩
end Go.Proofs.YtkkdlgiilhngcaaDoor

namespace Go.Proofs.YtkkdlgiilhngcaaDoor
open Go.ChangeShapes Go.WideShapes Go.ChangeAt Go.RowKit

theorem addQ_sz (x y : QI) : szQ (addQ x y).1 ≤ 1048576 := by unfold addQ; split; exact lowQ_sz _ _ _; decide
set_option maxHeartbeats 1000000 in
set_option maxRecDepth 100000 in
theorem lawRatAdd (va : Value) (vb : Value) (a : QI) (b : QI) (w : World)
    (hI : szQ a ≤ 1048576 → szQ b ≤ 1048576 → ∀ (ua : Value) (ub : Value) (W : World), OwnQ ua a W → OwnQ ub b W → Sen W → Calls Tryd.prog 28 #[ua, ub] W (PostQb ((addQ a b).1) ((addQ a b).2) W))
    (hca : capQ a) (hcb : capQ b) (ht0 : Sen w) (ra : RdQ w va a) (rb : RdQ w vb b) :
    Calls Tryd.prog 6 #[va, vb] w fun e w' => e = .returned (.bool true) ∧ Below w.heap.size w w' := by
  have hsa := szQ_nonneg a
  have hsb := szQ_nonneg b
  by_cases hl_0 : szQ a ≤ 1048576
  · skip
    by_cases hl : szQ a + szQ b ≤ 1048576
    · skip
      have hla : szQ a ≤ 1048576 := by omega
      have hlb : szQ b ≤ 1048576 := by omega
      exact lawRatAdd_walk va vb a b ((addQ a b).1) ((addQ a b).2) w (fun ua ub W ha hb => specRatAdd_any ua ub a b W hla hlb ha hb) (hI hla hlb) ht0 hl (addQ_sz a b) ra rb
    · skip
      obtain ⟨Aa, ca, Ba, da, rfl⟩ := rdQ_form ra
      obtain ⟨Ab, cb, Bb, db, rfl⟩ := rdQ_form rb
      have bb0 : Below w.heap.size w ((w.alloc (.cells #[.bool a.1.1, .slice Aa a.1.2.length ca, .slice Ba a.2.length da] 26)).alloc (.cells #[.bool b.1.1, .slice Ab b.1.2.length cb, .slice Bb b.2.length db] 26)) := below_al (below_al (Below.refl _ _) _) _
      have ka := (box_new w #[.bool a.1.1, .slice Aa a.1.2.length ca, .slice Ba a.2.length da] 26).below (below_al (Below.refl _ _) (.cells #[.bool b.1.1, .slice Ab b.1.2.length cb, .slice Bb b.2.length db] 26))
      have kb := (box_new (w.alloc (.cells #[.bool a.1.1, .slice Aa a.1.2.length ca, .slice Ba a.2.length da] 26)) #[.bool b.1.1, .slice Ab b.1.2.length cb, .slice Bb b.2.length db] 26)
      rw [show (w.alloc (.cells #[.bool a.1.1, .slice Aa a.1.2.length ca, .slice Ba a.2.length da] 26)).heap.size = w.heap.size + 1 by simp] at kb
      go_enter Tryd.func6, Tryd.ntmps6
      have ka_c0 := ka.here.cell 0 _ rfl
      have ka_c1 := ka.here.cell 1 _ rfl
      have ka_c2 := ka.here.cell 2 _ rfl
      go_wp2_with fail
      clear ka_c0 ka_c1 ka_c2
      refine (szQ_cal _ a (1048576) _ hca (by omega) (by omega) (ra.below bb0)).mono ?_
      rintro e w1 ⟨rfl, b1⟩
      have bb1 := Below.next bb0 b1
      replace ka := ka.below b1
      replace kb := kb.below b1
      rw [leftI_of (by omega)]
      have hn : decide (((1048576 : Int) - szQ a : Int) < 0) = false := decide_eq_false (by omega)
      have kb_c0 := kb.here.cell 0 _ rfl
      have kb_c1 := kb.here.cell 1 _ rfl
      have kb_c2 := kb.here.cell 2 _ rfl
      go_wp2_with fail
      clear kb_c0 kb_c1 kb_c2
      clear hn
      refine (szQ_cal _ b (1048576 - szQ a) _ hcb (by omega) (by omega) (rb.below bb1)).mono ?_
      rintro e w2 ⟨rfl, b2⟩
      have bb2 := Below.next bb1 b2
      replace ka := ka.below b2
      replace kb := kb.below b2
      rw [show leftI (1048576 - szQ a) (szQ b) = -1 by unfold leftI; rw [if_pos (by omega)]]
      go_wp2
      go_ret
      exact ⟨rfl, bb2⟩
  · skip
    obtain ⟨Aa, ca, Ba, da, rfl⟩ := rdQ_form ra
    obtain ⟨Ab, cb, Bb, db, rfl⟩ := rdQ_form rb
    have bb0 : Below w.heap.size w ((w.alloc (.cells #[.bool a.1.1, .slice Aa a.1.2.length ca, .slice Ba a.2.length da] 26)).alloc (.cells #[.bool b.1.1, .slice Ab b.1.2.length cb, .slice Bb b.2.length db] 26)) := below_al (below_al (Below.refl _ _) _) _
    have ka := (box_new w #[.bool a.1.1, .slice Aa a.1.2.length ca, .slice Ba a.2.length da] 26).below (below_al (Below.refl _ _) (.cells #[.bool b.1.1, .slice Ab b.1.2.length cb, .slice Bb b.2.length db] 26))
    go_enter Tryd.func6, Tryd.ntmps6
    have ka_c0 := ka.here.cell 0 _ rfl
    have ka_c1 := ka.here.cell 1 _ rfl
    have ka_c2 := ka.here.cell 2 _ rfl
    go_wp2_with fail
    clear ka_c0 ka_c1 ka_c2
    refine (szQ_cal _ a (1048576) _ hca (by omega) (by omega) (ra.below bb0)).mono ?_
    rintro e w1 ⟨rfl, b1⟩
    have bb1 := Below.next bb0 b1
    replace ka := ka.below b1
    rw [show leftI (1048576) (szQ a) = -1 by unfold leftI; rw [if_pos (by omega)]]
    go_wp2
    go_ret
    exact ⟨rfl, bb1⟩
set_option maxRecDepth 100000 in
theorem fnExactRatAdd_met (os : Os) : laidMet Tryd.prog Rows.fnExactRatAddRow.laid ((senWorld os).forCall (fun _ _ => 0) ⟨#[], #[.agg #[.bool false, .slice none 0 0, .slice none 0 0], .agg #[.bool false, .slice none 0 0, .slice none 0 0]], []⟩).memory :=
  laidMet_of_run' 8 (by kernel_rfl) (by kernel_rfl)
set_option maxRecDepth 100000 in
theorem fnExactRatAdd_reads (os : Os) {H : Type} (enc : TypeId × Value → H) : ∃ gs places, DataW.whole enc Tryd.prog ((senWorld os).forCall (fun _ _ => 0) ⟨#[], #[.agg #[.bool false, .slice none 0 0, .slice none 0 0], .agg #[.bool false, .slice none 0 0, .slice none 0 0]], []⟩).memory Tryd.f6.params.toList Rows.fnExactRatAddSpec.vars false (#[.agg #[.bool false, .slice none 0 0, .slice none 0 0], .agg #[.bool false, .slice none 0 0, .slice none 0 0]] : Array Value).toList 8 = some ([.agg [.agg [.lit (.bool false), .nil], .nil], .agg [.agg [.lit (.bool false), .nil], .nil]], gs, places) :=
  ⟨[tok enc (.iface 116 (.pointer (some ⟨low, 0, none⟩)))], [.cell 0 0], by kernel_rfl⟩

set_option maxRecDepth 100000 in
theorem fnExactRatAdd_lifted (os : Os) (started : os.Started) (H : Type) (enc : TypeId × Value → H) (F : Stop.Interp) :
    ReturnsInHanded {} Tryd.checked os 6 .any ((OpenSpec.ofChange Rows.fnExactRatAddSpec).preRow enc Tryd.prog Tryd.f6 Rows.fnExactRatAddRow.domain false Rows.fnExactRatAddRow.laid) (((OpenSpec.ofChange Rows.fnExactRatAddSpec).at F).post enc Tryd.prog Tryd.f6 false true false false) := by
  obtain ⟨gs, places, hx⟩ := fnExactRatAdd_reads os enc
  refine law_lifted_sen started (by kernel_rfl) Tryd.func6 (by kernel_rfl) (tb := 4) (by kernel_rfl) Tryd.underlying4 rfl (fun W h => sen_of (show laidMet Tryd.prog [("loop.example/g00793/impl.errZeroDivisor", Rows.laid_loop_example_g00793_impl_errZeroDivisor)] W from h))
    (witness_row_at (enc := enc) (C := Tryd.checked) false (senWorld os) #[.agg #[.bool false, .slice none 0 0, .slice none 0 0], .agg #[.bool false, .slice none 0 0, .slice none 0 0]] rfl (by kernel_rfl) (by kernel_rfl) (by kernel_rfl)
      (OpenSpec.preRow_of_cond 8 hx (by kernel_rfl) (fun k hk => by cases hk) (by kernel_rfl) (fnExactRatAdd_met os))) ?_
  intro W base args ds p hval hA _ hL hs
  rw [Tryd.params6] at hA hval
  obtain ⟨v0, v1, d0, d1, p0, p1, rfl, rfl, rfl, h0, h1⟩ := trodAll_two hA
  obtain ⟨a, ra, ma, ma2⟩ := arg_rat (hval 0 26 v0 rfl rfl) h0
  unfold maxLen at ma ma2
  have hca : capQ a := by unfold capQ; omega
  obtain ⟨b, rb, mb, mb2⟩ := arg_rat (hval 1 26 v1 rfl rfl) h1
  unfold maxLen at mb mb2
  have hcb : capQ b := by unfold capQ; omega
  exact ⟨fun _ => rfl, lawRatAdd v0 v1 a b W (fun hla hlb ua ub W ha hb hs => implRatAdd_any ua ub a b W hla hlb ha hb hs) hca hcb hs ra rb⟩

set_option maxRecDepth 100000 in
theorem fnExactRatAdd_said : Rows.FnExactRatAddSaid :=
  OpenClaim.holds_of_cond 6 Tryd.f6 rfl rfl rfl rfl rfl rfl rfl ⟨rfl, rfl, rfl, rfl, rfl⟩ rfl rfl rfl rfl rfl (by kernel_rfl) Tryd.func6 (by kernel_rfl)
    (of_decide_eq_true (by kernel_rfl)) (by unfold Func.isWrapper; first | (rw [if_pos (by decide +kernel)]; kernel_rfl) | (rw [if_neg (by decide +kernel)]; exact ⟨rfl, rfl⟩))
    (fun os started H enc _ F => by rw [OpenClaim.pre_eq_preRow]; exact fnExactRatAdd_lifted os started H enc F)

theorem fnExactRatAdd_plain (f : FuncId) (fn : Func) (hf : Tryd.pinned.checked.prog.funcNamed "loop.example/g00793/laws.FnExactRatAdd" = some f) (hfn : Tryd.pinned.checked.prog.funcs[f]? = some fn) :
    true = Tryd.pinned.checked.prog.looks [] ∧ ∀ (j : Nat) t, fn.params[j]? = some t → Tryd.pinned.checked.prog.wantsStandIn t = false := by
  obtain rfl : f = 6 := Option.some.inj ((show Tryd.prog.funcNamed "loop.example/g00793/laws.FnExactRatAdd" = some 6 by kernel_rfl).symm.trans hf) |>.symm
  obtain rfl : fn = Tryd.f6 := (Option.some.inj (Tryd.func6.symm.trans hfn)).symm
  refine ⟨by kernel_rfl, fun j t ht => ?_⟩
  rw [Tryd.params6] at ht
  obtain rfl : t = 26 := by simpa using Array.mem_of_getElem? ht
  exact (show Tryd.prog.wantsStandIn 26 = false by kernel_rfl)

set_option maxRecDepth 100000 in
theorem fnExactRatAdd_card : Rows.FnExactRatAddCardSaid :=
  Claim7.holds_tied_plain_at .later [] _ _ _ _ fnExactRatAdd_said (fun _ h => by cases h) (by kernel_rfl) (fun _ h => by cases h) fnExactRatAdd_row_tie rfl ⟨rfl, rfl⟩ (by kernel_rfl) rfl fnExactRatAdd_plain (by kernel_rfl)
end Go.Proofs.YtkkdlgiilhngcaaDoor
