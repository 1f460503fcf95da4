/-
  LaidLaw, SenLaw, PctLawTextPercent, DecTextRead, TextPctS, TextPctI
-/
import Derived.Test.YtofehcpapdlcnaaGreatDoorCards
import Derived.Test.YtofehcpapdlcnaaGreatDoorTie
import Derived.Deep.DeepHandedRow
import Derived.Lib.LaidTab
import Derived.Stop.LaidErr
import Derived.Deep.RegionHeld3
import Derived.Deep.DeepCutAuto
import Derived.Test.YtofehcpapdlcnaaGreatDoorJP7
namespace Go.Proofs.YtofehcpapdlcnaaGreatDoor
open Go.ChangeShapes Go.WideShapes Go.ChangeAt Go.RowKit

theorem powType : (Tryz.prog.globals[5]?).map (·.type) = some 248 := by kernel_rfl
theorem powCells : Tryz.prog.cellsOf 248 = 20 := by kernel_rfl
theorem u64Cells : Tryz.prog.cellsOf 209 = 1 := by kernel_rfl
theorem powData : (Rows.laid_internal_strconv_uint64pow10 : DataW Unit) = Lib.tabData .u64 Lib.pow10Tab := by kernel_rfl

/-- a world for the witness: the settled one, the tables holding what their initialisers lay -/
def tabCells (k : IntKind) : List (DataW Unit) → List Value
  | .lit (.int _ z) :: r => .int k z :: tabCells k r
  | _ => []
def aggOf : DataW Unit → List (DataW Unit)
  | .agg l => l
  | _ => []
def putCells (cs : Array Value) : Obj → Obj
  | .cells _ t frozen => .cells cs t frozen
  | o => o
end Go.Proofs.YtofehcpapdlcnaaGreatDoor

namespace Go.Proofs.YtofehcpapdlcnaaGreatDoor
open Go.ChangeShapes Go.WideShapes Go.ChangeAt Go.RowKit

theorem senNamed : Tryz.prog.globalNamed "loop.example/g00793/impl.errZeroDivisor" = some 0 := by kernel_rfl
theorem senType : (Tryz.prog.globals[0]?).map (·.type) = some 144 := by kernel_rfl
theorem senCells : Tryz.prog.cellsOf 276 = 1 := by kernel_rfl
theorem strCells : Tryz.prog.cellsOf 9 = 1 := by kernel_rfl
theorem senStar : "*" ++ "errors.errorString" = "*errors.errorString" := by decide
theorem senRow (u : TypeId) (h : Tryz.prog.typeName? 3 u = some "*errors.errorString") : u = 254 :=
  typeName_ptr_named (nm := "errors.errorString") (by rw [senStar]; kernel_rfl) (by kernel_rfl) (by decide) u (by rw [senStar]; exact h)
/-- what the sentinel reads as -/
def senText : List UInt8 := [100, 105, 118, 105, 115, 105, 111, 110, 32, 98, 121, 32, 122, 101, 114, 111]
theorem senData : (Rows.laid_loop_example_g00793_impl_errZeroDivisor : DataW Unit) = .iface "*errors.errorString" (.ptr (.agg [.lit (.string senText)])) := by kernel_rfl
/-- the variable's value -/
def SenAt (a : Addr) (w : World) : Prop := w.var? Tryz.prog "loop.example/g00793/impl.errZeroDivisor" = some #[.iface 254 (.pointer (some a))]
theorem SenAt.sen {a : Addr} {w : World} (h : SenAt a w) : Sen w := ⟨a, by simpa using World.var?_cell senNamed h 0⟩
theorem sen_of {r : List (String × DataW Unit)} {W : World} (h : laidMet Tryz.prog (("loop.example/g00793/impl.errZeroDivisor", Rows.laid_loop_example_g00793_impl_errZeroDivisor) :: r) W) : ∃ a, SenAt a W := by
  rw [senData] at h
  obtain ⟨a, s, hv, _⟩ := laid_sentinel h senNamed senType Tryz.underlying144 senRow Tryz.underlying254 Tryz.underlying276 rfl rfl Tryz.underlying9 senCells strCells
  exact ⟨a, hv⟩
theorem SenAt.below {a : Addr} {w w' : World} (h : SenAt a w) (hb : Below w.heap.size w w') : SenAt a w' := by
  obtain ⟨_, hc⟩ := h.sen
  have hl := cell_lt hc
  unfold SenAt World.var? at h ⊢
  rw [senNamed] at h ⊢
  simp only [Option.bind_some] at h ⊢
  rw [hb.block _ hl]
  exact h

/-- the post of a law that names the sentinel -/
theorem law_post1 {H : Type} {enc : TypeId × Value → H} {f : Func} {s : ChangeSpec} {tb : TypeId} {a : Addr} {W W' : World} {args : Array Value} {ds gs : List (DataW H)} {before : List MemPlace}
    (hr : legible Tryz.prog f.params.toList = true) (hty : f.resultTypes = #[tb]) (htb : Tryz.prog.underlying tb = some .bool) (hvars : s.vars = ["loop.example/g00793/impl.errZeroDivisor"])
    (hs : SenAt a W) (hfn : ∀ g, s.fn H (ds ++ [g]) = { results := [.lit (.bool true)], args := ds, vars := [g] })
    (hW : DataW.Whole enc Tryz.prog f.params.toList s.vars false W args.toList ds gs before) (hb : Below W.heap.size W W') :
    s.post enc Tryz.prog f false true false false W args (.bool true) W' := by
  have hW' := hW
  obtain ⟨p, q, hA, hV, rfl, _, _⟩ := hW
  rw [hvars] at hV
  have vr : ∀ {X : World}, SenAt a X → ∀ sp : Nat → Bool, DataW.TrodVars enc Tryz.prog X sp ["loop.example/g00793/impl.errZeroDivisor"] [tok enc (.iface 254 (.pointer (some a)))] [.cell 0 0] :=
    fun x0 sp => vars_read1 enc senNamed senType Tryz.underlying144 x0 trivial sp
  obtain ⟨rfl, rfl⟩ := hV.unique (vr hs _)
  have hlt : ∀ x ∈ p, x.block < W.heap.size := fun x hx => hW'.lt x (by simp [hx])
  refine ⟨ds, _, _, [], p, [.cell 0 0], hW', ?_, ?_, ?_, hb.frame _, fun h => by cases h⟩
  · rw [hfn, hty]
    exact trodAll_mk1 (shut_bool htb _)
  · rw [hfn]
    exact args_below Tryz.laidOut hb hr hA hlt
  · rw [hfn, hvars]
    exact vr (hs.below hb) _

/-- a world for the witness: the settled one, the listed variables holding what their initialisers lay -/
noncomputable def low : Nat := (World.holding Tryz.prog default ⟨#[], #[], []⟩).heap.size
noncomputable def senWorld (os : Os) : World :=
  let w0 := World.holding Tryz.prog os ⟨#[.cells #[.string ⟨senText.toArray⟩] 276], #[], []⟩
  { w0 with heap := (((w0.heap.modify 0 (putCells #[.iface 254 (.pointer (some ⟨low, 0, none⟩))]))
      |>.modify 8 (putCells (tabCells .u8 (aggOf Rows.laid_math_bits_deBruijn32tab)).toArray)).modify 9 (putCells (tabCells .u8 (aggOf Rows.laid_math_bits_deBruijn64tab)).toArray)).modify 5 (putCells (tabCells .u64 (aggOf Rows.laid_internal_strconv_uint64pow10)).toArray) }

set_option maxRecDepth 100000 in
/-- from the walk at every argument, the listed variables at hand, to the lifted row -/
theorem law_lifted_sen {H : Type} {enc : TypeId × Value → H} {os : Os} (started : os.Started) {F : Stop.Interp} {f : FuncId} {fn : Func} {s : ChangeSpec} {conds : List PathCond} {tb : TypeId} {laidL : List (String × DataW Unit)}
    (noInit : Tryz.prog.inits.idxOf? f = none) (hfun : Tryz.prog.funcs[f]? = some fn)
    (hr : legible Tryz.prog fn.params.toList = true) (hty : fn.resultTypes = #[tb]) (htb : Tryz.prog.underlying tb = some .bool) (hvars : s.vars = ["loop.example/g00793/impl.errZeroDivisor"])
    (hsen : ∀ W, laidMetH Tryz.prog laidL W → ∃ a, SenAt a W)
    (witness : ∃ (w : World) (tape : Tape) (i : Input), w.os = os ∧ (w.forCall tape i).Shaped Tryz.checked.prog ∧ i.vars = [] ∧ Input.okWide Tryz.checked.prog (w.forCall tape i) .any w.heap.size f i ∧
      (OpenSpec.ofChange s).preRow enc Tryz.checked.prog fn conds false laidL (w.forCall tape i).memory i.args ∧ Assume.holds {} Tryz.checked.prog (lone (Frame.enter Tryz.checked.prog f i.args .normal) [] (w.forCall tape i)))
    (walk : ∀ (W : World) (base : Nat) (args : Array Value) (ds : List (DataW H)) (p : List MemPlace),
      (∀ (j : Nat) t v, fn.params[j]? = some t → args[j]? = some v → Value.okWide Tryz.prog W .any base t v) →
      DataW.TrodAll enc Tryz.prog W 0 (fun _ => true) true fn.params.toList args.toList ds p → (∀ x ∈ p, x.block < W.heap.size) → laidMetH Tryz.prog laidL W → Sen W →
      (∀ g, s.fn H (ds ++ [g]) = { results := [.lit (.bool true)], args := ds, vars := [g] }) ∧ Calls Tryz.prog f args W fun e W' => e = .returned (.bool true) ∧ Below W.heap.size W W') :
    ReturnsInHanded {} Tryz.checked os f .any ((OpenSpec.ofChange s).preRow enc Tryz.prog fn conds false laidL) (((OpenSpec.ofChange s).at F).post enc Tryz.prog fn false true false false) := by
  refine returnsInHanded_of_row (C := Tryz.checked) (s := OpenSpec.ofChange s) Tryz.own started noInit hfun witness ?_
  intro W base args ds gs before hval hW0 _ _ _ hL _ _
  have hW : DataW.Whole enc Tryz.prog fn.params.toList s.vars false W args.toList ds gs before := hW0
  have hW' := hW
  obtain ⟨p, q, hA, hV, rfl, _, _⟩ := hW
  obtain ⟨a, ha⟩ := hsen W hL
  obtain ⟨hfn, hc⟩ := walk W base args ds p hval hA (fun x hx => hW'.lt x (by simp [hx])) hL ha.sen
  refine hc.mono fun e W' ⟨he, hb⟩ => ?_
  subst he
  exact ⟨_, rfl, law_post1 hr hty htb hvars ha hfn hW' hb⟩
end Go.Proofs.YtofehcpapdlcnaaGreatDoor

namespace Go.Proofs.YtofehcpapdlcnaaGreatDoor
open Go.RowKit

set_option maxHeartbeats 4000000 in
set_option maxRecDepth 100000 in
theorem lawTextPercent_walk (a : ByteArray) (R0 : DI) (R1 : Bool) (w : World)
    (hS : ∀ (W : World), Calls Tryz.prog 25 #[.string a] W (PostDb R0 R1 W))
    (hI : ∀ (W : World), Tab W → Sen W → Calls Tryz.prog 26 #[.string a] W (PostDb R0 R1 W))
    (ht0 : Tab w) (ht1 : Sen w) (hla : a.size ≤ 1048576) (hlR0 : szD R0 ≤ 1048576)  :
    Calls Tryz.prog 6 #[.string a] w fun e w' => e = .returned (.bool true) ∧ Below w.heap.size w w' := by
  have HS := Lib.hid hS
  have HI := Lib.hid hI
  clear hS hI
  have HT0 := Lib.hid ht0
  clear ht0
  have HT1 := Lib.hid ht1
  clear ht1
  have hsR0 := szD_nonneg R0
  have bb0 : Below w.heap.size w w := Below.refl _ _
  go_enter Tryz.func6, Tryz.ntmps6
  go_upto_region 3 with fail
  go_cut [3, 4] (fun s t1 wx => NewLocV 40 (fun v => OwnD v R0) w s wx ∧ t1 = .bool R1)
  case first =>
    go_wp2_with fail
    refine (HS.out  _ ).mono ?_
    rintro e wf ⟨uf, Sf, rfl, of, lf, bf⟩
    obtain ⟨Af, cf, rfl⟩ := ownD_form of.here
    have bwf := bf
    go_wp2_with fail
    go_meet
    exact ⟨newLocV_last of lf (Nat.le_refl _) bwf, rfl⟩
  rename World => w1
  obtain ⟨⟨gw0, csw0, Sw0, rfl, kw0, ow0, nw0, lw0, b1⟩, rfl⟩ := hcut
  obtain ⟨Aw0, cw0, ew0⟩ := ownD_form ow0.here
  injection ew0 with ew0
  subst ew0
  have bb1 := Below.next bb0 b1
  go_upto_region 4 with fail
  go_cut [5, 6] (fun s t1 wx => NewLocV 40 (fun v => OwnD v R0) w1 s wx ∧ t1 = .bool R1)
  case first =>
    go_wp2_with fail
    refine (HI.out  _  (HT0.out.below bb1) (HT1.out.below bb1)).mono ?_
    rintro e wf ⟨uf, Sf, rfl, of, lf, bf⟩
    obtain ⟨Af, cf, rfl⟩ := ownD_form of.here
    go_wp2_with fail
    go_meet
    exact ⟨newLocV_last of lf (Nat.le_refl _) bf, rfl⟩
  rename World => w2
  obtain ⟨⟨gg0, csg0, Sg0, rfl, kg0, og0, ng0, lg0, b2⟩, rfl⟩ := hcut
  obtain ⟨Ag0, cg0, eg0⟩ := ownD_form og0.here
  injection eg0 with eg0
  subst eg0
  have bb2 := Below.next bb1 b2
  replace kw0 := kw0.below b2
  replace ow0 := ow0.below b2
  have kg0_c0 := kg0.here.cell 0 _ rfl
  have kg0_c1 := kg0.here.cell 1 _ rfl
  have kg0_c2 := kg0.here.cell 2 _ rfl
  have kw0_c0 := kw0.here.cell 0 _ rfl
  have kw0_c1 := kw0.here.cell 1 _ rfl
  have kw0_c2 := kw0.here.cell 2 _ rfl
  go_wp2_with fail
  clear kg0_c0 kg0_c1 kg0_c2 kw0_c0 kw0_c1 kw0_c2
  refine (eqD_cal _ _ R0 R0 _ (capD_of (by omega)) (OwnD.rd og0.here) (OwnD.rd ow0.here)).mono ?_
  rintro e w3 ⟨rfl, b3⟩
  rw [decide_refl]
  have bb3 := Below.next bb2 b3
  replace kw0 := kw0.below b3
  replace ow0 := ow0.below b3
  replace kg0 := kg0.below b3
  replace og0 := og0.below b3
  have z1 := b1.size
  have z2 := b2.size
  have z3 := b3.size
  have AP_w0_g0 := Lib.hid (Within.apart lw0 lg0 (.inl (by omega)))
  have F_g0 := Lib.hid (Within.from (B := w.heap.size) lg0 (by have := bb0.size; omega))
  have N_g0 := Lib.hid ng0
  clear z1 z2 z3
  have kg0_c0 := kg0.here.cell 0 _ rfl
  have kg0_c1 := kg0.here.cell 1 _ rfl
  have kg0_c2 := kg0.here.cell 2 _ rfl
  go_wp2_with fail
  clear kg0_c0 kg0_c1 kg0_c2
  refine (markD_cal _ R0 _ (1) _ (by omega) (by omega) og0).mono ?_
  rintro e w4 ⟨rfl, mkg0, c4⟩
  clear og0
  have bb4 := below_chg bb3 c4 bb3.size (fun i hi => F_g0.out i (List.mem_cons_of_mem _ hi))
  replace kw0 := kw0.chg c4 (fun i hi hm => AP_w0_g0.out i (by simp at hi; subst hi; exact List.mem_cons_self ..) (List.mem_cons_of_mem _ hm))
  replace ow0 := ow0.chg c4 (fun i hi hm => AP_w0_g0.out i (List.mem_cons_of_mem _ hi) (List.mem_cons_of_mem _ hm))
  replace kg0 := kg0.chg c4 (fun i hi hm => by simp at hi; subst hi; exact N_g0.out hm)
  have kg0_c0 := kg0.here.cell 0 _ rfl
  have kg0_c1 := kg0.here.cell 1 _ rfl
  have kg0_c2 := kg0.here.cell 2 _ rfl
  go_wp2_with fail
  clear kg0_c0 kg0_c1 kg0_c2
  refine (heldD_cal _ R0 (1) _ (by omega) (by omega) mkg0.here).mono ?_
  rintro e w5 ⟨rfl, b5⟩
  have bb5 := Below.next bb4 b5
  replace kw0 := kw0.below b5
  replace ow0 := ow0.below b5
  replace kg0 := kg0.below b5
  replace mkg0 := mkg0.below b5
  have hq5 : decide ((1 : Int) + szD R0 < 0) = false := decide_eq_false (by omega)
  go_upto_region 15 with fail
  go_cut [9, 10] (fun s t1 wx => NewLocV 40 (fun v => OwnD v R0) w5 s wx ∧ t1 = .bool R1)
  case first =>
    go_wp2_with fail
    refine (HI.out  _  (HT0.out.below bb5) (HT1.out.below bb5)).mono ?_
    rintro e wf ⟨uf, Sf, rfl, of, lf, bf⟩
    obtain ⟨Af, cf, rfl⟩ := ownD_form of.here
    have bwf := bf
    go_wp2_with fail
    go_meet
    exact ⟨newLocV_last of lf (Nat.le_refl _) bwf, rfl⟩
  rename World => w6
  obtain ⟨⟨gh0, csh0, Sh0, rfl, kh0, oh0, nh0, lh0, b6⟩, rfl⟩ := hcut
  obtain ⟨Ah0, ch0, eh0⟩ := ownD_form oh0.here
  injection eh0 with eh0
  subst eh0
  have bb6 := Below.next bb5 b6
  replace kw0 := kw0.below b6
  replace ow0 := ow0.below b6
  replace kg0 := kg0.below b6
  replace mkg0 := mkg0.below b6
  have kh0_c0 := kh0.here.cell 0 _ rfl
  have kh0_c1 := kh0.here.cell 1 _ rfl
  have kh0_c2 := kh0.here.cell 2 _ rfl
  have kw0_c0 := kw0.here.cell 0 _ rfl
  have kw0_c1 := kw0.here.cell 1 _ rfl
  have kw0_c2 := kw0.here.cell 2 _ rfl
  go_wp2_with fail
  clear kh0_c0 kh0_c1 kh0_c2 kw0_c0 kw0_c1 kw0_c2
  refine (eqD_cal _ _ R0 R0 _ (capD_of (by omega)) (OwnD.rd oh0.here) (OwnD.rd ow0.here)).mono ?_
  rintro e w7 ⟨rfl, b7⟩
  rw [decide_refl]
  have bb7 := Below.next bb6 b7
  replace kw0 := kw0.below b7
  replace ow0 := ow0.below b7
  replace kg0 := kg0.below b7
  replace mkg0 := mkg0.below b7
  replace kh0 := kh0.below b7
  replace oh0 := oh0.below b7
  have kg0_c0 := kg0.here.cell 0 _ rfl
  have kg0_c1 := kg0.here.cell 1 _ rfl
  have kg0_c2 := kg0.here.cell 2 _ rfl
  go_wp2_with fail
  clear kg0_c0 kg0_c1 kg0_c2
  refine (heldD_cal _ R0 (1) _ (by omega) (by omega) mkg0.here).mono ?_
  rintro e w8 ⟨rfl, b8⟩
  have bb8 := Below.next bb7 b8
  replace kw0 := kw0.below b8
  replace ow0 := ow0.below b8
  replace kg0 := kg0.below b8
  replace mkg0 := mkg0.below b8
  replace kh0 := kh0.below b8
  replace oh0 := oh0.below b8
  have hq8 : decide ((1 : Int) + szD R0 < 0) = false := decide_eq_false (by omega)
  go_wp2
  go_ret
  exact ⟨rfl, bb8⟩
end Go.Proofs.YtofehcpapdlcnaaGreatDoor

namespace Go.Proofs.YtofehcpapdlcnaaGreatDoor
open Go.RowKit

theorem raw_step (l : List UInt8) (k : Nat) (h : k < l.length) : rawL (l.take (k + 1)) = rawL (l.take k) ++ (if l[k] != 46 && l[k] != 45 then [l[k]] else []) := by
  rw [List.take_succ_eq_append_getElem h, raw_app]
  congr 1
  unfold rawL
  rw [List.filter_cons]
  rfl
theorem at_list (s : ByteArray) (k : Nat) (h : k < s.size) : s.data.toList[k]'h = s[k] := Array.getElem_toList ..
theorem eq_nat {c : UInt8} {n : Nat} (hn : n < 256) (h : c.toNat = n) : c = UInt8.ofNat n := UInt8.toNat_inj.1 (by rw [h, UInt8.toNat_ofNat']; omega)
theorem raw_skip (s : ByteArray) (k : Nat) (h : k < s.size) (hc : s[k].toNat = 46 ∨ s[k].toNat = 45) : rawL (s.data.toList.take (k + 1)) = rawL (s.data.toList.take k) := by
  rw [raw_step _ k h, at_list]
  rcases hc with hc | hc
  · rw [show s[k] = 46 from eq_nat (by decide) hc]; exact List.append_nil _
  · rw [show s[k] = 45 from eq_nat (by decide) hc]; exact List.append_nil _
theorem raw_more (s : ByteArray) (k : Nat) (h : k < s.size) (h1 : ¬ s[k].toNat = 46) (h2 : ¬ s[k].toNat = 45) {G : ByteArray} (hG : G.data.toList = rawL (s.data.toList.take k)) : (G ++ s.extract k (k + 1)).data.toList = rawL (s.data.toList.take (k + 1)) := by
  have hk : k < s.data.toList.length := h
  have e : (s.extract k (k + 1)).data.toList = [s[k]] := by
    rw [extract_listD, List.take_succ_eq_append_getElem hk, List.drop_append_of_le_length (by rw [List.length_take]; omega), List.drop_of_length_le (by rw [List.length_take]; omega), at_list]
    rfl
  rw [ByteArray.data_append, Array.toList_append, hG, e, raw_step _ k h, at_list]
  have b1 : (s[k] != 46) = true := by rw [bne_iff_ne]; intro e; exact h1 (by rw [e]; rfl)
  have b2 : (s[k] != 45) = true := by rw [bne_iff_ne]; intro e; exact h2 (by rw [e]; rfl)
  rw [b1, b2]
  rfl
theorem scale_dot (s : ByteArray) (k : Nat) (h : k < s.size) (hc : s[k].toNat = 46) : scaleF s.data.toList (k + 1) = (s.size : Int) - 1 - k := by
  have e : s.data.toList.getD k 0 = 46 := getD_of (by rw [List.getElem?_eq_getElem h, at_list]; exact congrArg some (eq_nat (by decide) hc))
  exact scale_hit e
theorem scale_keep (s : ByteArray) (k : Nat) (h : k < s.size) (hc : ¬ s[k].toNat = 46) : scaleF s.data.toList (k + 1) = scaleF s.data.toList k := by
  have e : s.data.toList.getD k 0 = s[k] := getD_of (by rw [List.getElem?_eq_getElem h, at_list])
  show (if s.data.toList.getD k 0 = 46 then _ else _) = _
  rw [e, if_neg]
  intro e2
  exact hc (by rw [e2]; rfl)
theorem scale_bound (l : List UInt8) : ∀ k, k ≤ l.length → 0 ≤ scaleF l k ∧ scaleF l k ≤ l.length
  | 0, _ => ⟨Int.le_refl _, by show (0 : Int) ≤ _; omega⟩
  | k + 1, h => by
    show 0 ≤ (if l.getD k 0 = 46 then _ else _) ∧ (if l.getD k 0 = 46 then _ else _) ≤ _
    split
    · omega
    · exact scale_bound l k (by omega)
theorem two_cons (G : ByteArray) (h1 : 1 < G.size) : ∃ c e r, G.data.toList = c :: e :: r ∧ G[0] = c := by
  have h := listB_len G
  have e0 := at_list G 0 (by omega)
  cases hl : G.data.toList with
  | nil => rw [hl] at h; simp at h; omega
  | cons c r =>
    cases r with
    | nil => rw [hl] at h; simp at h; omega
    | cons e r =>
      refine ⟨c, e, r, rfl, ?_⟩
      rw [← e0]
      simp [hl]
theorem strip_step (G : ByteArray) (h1 : 1 < G.size) (h48 : G[0].toNat = 48) : stripL (G.extract 1 G.size).data.toList = stripL G.data.toList := by
  obtain ⟨c, e, r, hl, h0⟩ := two_cons G h1
  rw [extract_listD, List.take_of_length_le (Nat.le_of_eq (listB_len G)), hl]
  have hc : c = 48 := by rw [← h0]; exact eq_nat (by decide) h48
  rw [hc]
  rfl
theorem strip_stay (G : ByteArray) (h1 : 1 < G.size) (h48 : ¬ G[0].toNat = 48) : stripL G.data.toList = G.data.toList := by
  obtain ⟨c, e, r, hl, h0⟩ := two_cons G h1
  rw [hl]
  show (if c = 48 then _ else _) = _
  rw [if_neg]
  intro hc
  exact h48 (by rw [h0, hc]; rfl)
theorem strip_short (G : ByteArray) (h1 : ¬ 1 < G.size) : stripL G.data.toList = G.data.toList := by
  have h := listB_len G
  cases hl : G.data.toList with
  | nil => rfl
  | cons c r =>
    cases r with
    | nil => rfl
    | cons e r => rw [hl] at h; simp at h; omega
theorem raw_end {s G : ByteArray} (h : stripL G.data.toList = G.data.toList) (e : stripL G.data.toList = stripL (rawL s.data.toList)) : G = rawB s := listB (by rw [← h, e]; rfl)
theorem head_no {s : ByteArray} (h : ¬ 0 < s.size) : decide (s.data.toList.headD 0 = 45) = false := by
  have hl := listB_len s
  cases he : s.data.toList with
  | nil => rfl
  | cons c r => rw [he] at hl; simp at hl; omega
theorem head_yes {s : ByteArray} (h : 0 < s.size) : decide (s.data.toList.headD 0 = 45) = ((s[0].toNat : Int) == 45) := by
  rw [head_get s h]
  by_cases e : s[0].toNat = 45
  · rw [decide_eq_true (show s[0] = 45 from eq_nat (by decide) e)]
    exact (beq_iff_eq.2 (by omega)).symm
  · rw [decide_eq_false (fun h => e (by rw [h]; rfl))]
    exact (beq_eq_false_iff_ne.2 (by omega)).symm
/-- the answer by what the two readings say -/
theorem trD_bad1 {s : ByteArray} (h : decOk (rawB s) = false) : trD s = (zeroD, false) := by unfold trD readD; rw [h]; rfl
theorem trD_bad2 {s : ByteArray} (h : okD (parseD s) = false) : trD s = (zeroD, false) := by
  unfold trD
  rw [if_neg]
  unfold readD
  rw [h, Bool.false_and, Bool.and_false]
  decide
theorem trD_bad3 {s : ByteArray} (h : ¬ textD (parseD s) = s) : trD s = (zeroD, false) := by
  unfold trD
  rw [if_neg]
  unfold readD
  rw [decide_eq_false h, Bool.and_false, Bool.and_false]
  decide
theorem trD_good {s : ByteArray} (h1 : decOk (rawB s) = true) (h2 : okD (parseD s) = true) (h3 : textD (parseD s) = s) : trD s = (parseD s, true) := by
  unfold trD
  rw [if_pos]
  unfold readD
  rw [h1, h2, decide_eq_true h3]
  rfl
set_option maxHeartbeats 4000000 in
set_option maxRecDepth 100000 in
theorem specTextDec_any (s : ByteArray) (w : World) (hs : s.size ≤ 1048576) :
    Calls Tryz.prog 63 #[.string s] w (PostDb (trD s).1 (trD s).2 w) := by
  have bb0 : Below w.heap.size w (w.alloc (.cells #[.bool false, .slice none 0 0, .int .i64 0] 40)) := below_al (Below.refl _ _) _
  have ko := (box_new w #[.bool false, .slice none 0 0, .int .i64 0] 40)
  obtain ⟨P, hP⟩ : ∃ P, trD s = P := ⟨_, rfl⟩
  have EP := Lib.hid hP
  rw [hP]
  clear hP
  obtain ⟨W0, hW0⟩ : ∃ W0, W0 = (w.alloc (.cells #[.bool false, .slice none 0 0, .int .i64 0] 40)) := ⟨_, rfl⟩
  rw [← hW0] at bb0 ko 
  have HW0 := Lib.hid hW0
  clear hW0
  go_enter Tryz.func63, Tryz.ntmps63
  go_wp2_with fail
  rw [← HW0.out]
  go_loopw [4, 5, 6] (fun g c i wx => ∃ (k : Nat) (G : ByteArray), k ≤ s.size ∧ G.size ≤ k ∧ i = .int .i64 k ∧ g = .string G ∧ c = .int .i64 (scaleF s.data.toList k) ∧ Hid (G.data.toList = rawL (s.data.toList.take k)) ∧ At [w.heap.size] (BoxAt w.heap.size #[.bool false, .slice none 0 0, .int .i64 0] 40) wx ∧ Below w.heap.size w wx) (fun _ _ i _ => s.size - (intOf i).toNat)
  case atStart => exact ⟨0, ⟨#[]⟩, Nat.zero_le _, Nat.le_refl _, rfl, rfl, rfl, Lib.hid rfl, ko, bb0⟩
  case round =>
    clear ko bb0
    obtain ⟨k, G, hk, hGk, rfl, rfl, rfl, HG, ko, bbr⟩ := hrel
    by_cases hlt : k < s.size
    · by_cases h46 : s[k].toNat = 46
      · have HR := Lib.hid (raw_skip s k hlt (.inl h46))
        have HS := Lib.hid (scale_dot s k hlt h46)
        have b46 : ((s[k].toNat : Int) == 46) = true := by rw [beq_iff_eq]; omega
        clear h46
        go_wp2
        go_roundw
        case rel => exact ⟨k + 1, G, by omega, by omega, by go_num, rfl, by (rw [HS.out]; try go_num), Lib.hid (HG.out.trans HR.out.symm), ko, bbr⟩
        case measure => simp [intOf]; omega
      · have HS := Lib.hid (scale_keep s k hlt h46)
        have b46 : ((s[k].toNat : Int) == 46) = false := by rw [beq_eq_false_iff_ne]; omega
        by_cases h45 : s[k].toNat = 45
        · have HR := Lib.hid (raw_skip s k hlt (.inr h45))
          have b45 : ((s[k].toNat : Int) == 45) = true := by rw [beq_iff_eq]; omega
          have b45n : ((s[k].toNat : Int) != 45) = false := by rw [bne, b45]; rfl
          clear h45 h46
          go_wp2
          go_roundw
          case rel => exact ⟨k + 1, G, by omega, by omega, by go_num, rfl, by rw [HS.out], Lib.hid (HG.out.trans HR.out.symm), ko, bbr⟩
          case measure => simp [intOf]; omega
        · have HR := Lib.hid (raw_more s k hlt h46 h45 HG.out)
          have b45 : ((s[k].toNat : Int) == 45) = false := by rw [beq_eq_false_iff_ne]; omega
          have b45n : ((s[k].toNat : Int) != 45) = true := by rw [bne, b45]; rfl
          clear h45 h46
          have h1s : (s.extract k (k + 1)).size = 1 := by rw [ByteArray.size_extract]; omega
          have hq1 : ¬ (9223372036854775807 < G.size + (s.extract k (k + 1)).size) := by omega
          have c0 : (0 : Int) ≤ (k : Int) := by omega
          have c1 : (k : Int) ≤ (k : Int) + 1 := by omega
          have c2 : (k : Int) + 1 ≤ (s.size : Int) := by omega
          go_wp2
          go_roundw
          case rel => exact ⟨k + 1, _, by omega, by rw [ByteArray.size_append]; omega, by go_num, rfl, by rw [HS.out], Lib.hid HR.out, ko, bbr⟩
          case measure => simp [intOf]; omega
    · obtain rfl : k = s.size := by omega
      have HG2 := Lib.hid (show stripL G.data.toList = stripL (rawL s.data.toList) by rw [HG.out, take_full])
      clear HG
      have hsc := scale_bound s.data.toList s.size (Nat.le_refl _)
      have hs1 := hsc.1
      have hs2 := hsc.2
      clear hsc
      rw [listB_len] at hs2
      obtain ⟨K, hK⟩ : ∃ K, scaleF s.data.toList s.size = K := ⟨_, rfl⟩
      have EK := Lib.hid hK
      rw [hK] at hs1 hs2 ⊢
      clear hK hlt hk
      go_wp2
      go_loopw [4] (fun g wx => ∃ G : ByteArray, G.size ≤ s.size ∧ g = .string G ∧ Hid (stripL G.data.toList = stripL (rawL s.data.toList)) ∧ At [w.heap.size] (BoxAt w.heap.size #[.bool false, .slice none 0 0, .int .i64 0] 40) wx ∧ Below w.heap.size w wx) (fun g _ => strSize g)
      case atStart => exact ⟨G, hGk, rfl, HG2, ko, bbr⟩
      case round =>
        clear ko bbr HG2 hGk
        obtain ⟨G, hGk, rfl, HG, ko, bbr⟩ := hrel
        by_cases h1 : 1 < G.size
        · have h1i : (1 : Int) < (G.size : Int) := by omega
          by_cases h48 : G[0].toNat = 48
          · have b48 : ((G[0].toNat : Int) == 48) = true := by rw [beq_iff_eq]; omega
            have HS := Lib.hid (strip_step G h1 h48)
            clear h48
            have hxs : (G.extract 1 G.size).size = G.size - 1 := by rw [ByteArray.size_extract]; omega
            go_wp2
            go_roundw
            case rel => exact ⟨_, by rw [hxs]; omega, rfl, Lib.hid (HS.out.trans HG.out), ko, bbr⟩
            case measure => simp only [strSize, hxs]; omega
          · have b48 : ((G[0].toNat : Int) == 48) = false := by rw [beq_eq_false_iff_ne]; omega
            have hG := raw_end (strip_stay G h1 h48) HG.out
            clear h48
            have HGE := Lib.hid hG
            clear hG HG
            have HK := Lib.hid (ko.lt w.heap.size (by simp))
            obtain ⟨N, hN⟩ : ∃ N, decide (s.data.toList.headD 0 = 45) = N := ⟨_, rfl⟩
            obtain ⟨xs, hxs⟩ : ∃ xs, tnR G = xs := ⟨_, rfl⟩
            obtain ⟨oky, hoky⟩ : ∃ o, decOk G = o := ⟨_, rfl⟩
            have hxl : xs.length ≤ 1048576 := by rw [← hxs]; have := tnR_len G; omega
            have HX := Lib.hid (show parseD s = ((N, xs), K) by rw [← hN, ← hxs, HGE.out, ← EK.out]; rfl)
            have HB1 := Lib.hid (fun h : oky = false => (show P = (zeroD, false) by rw [← EP.out]; exact trD_bad1 (by rw [← HGE.out, hoky]; exact h)))
            have HB2 := Lib.hid (fun h : okD ((N, xs), K) = false => (show P = (zeroD, false) by rw [← EP.out]; exact trD_bad2 (by rw [HX.out]; exact h)))
            have HB3 := Lib.hid (fun h : ¬ textD ((N, xs), K) = s => (show P = (zeroD, false) by rw [← EP.out]; exact trD_bad3 (by rw [HX.out]; exact h)))
            have HGD := Lib.hid (fun (h1 : oky = true) (h2 : okD ((N, xs), K) = true) (h3 : textD ((N, xs), K) = s) => (show P = (((N, xs), K), true) by rw [← EP.out, ← HX.out]; exact trD_good (by rw [← HGE.out, hoky]; exact h1) (by rw [HX.out]; exact h2) (by rw [HX.out]; exact h3)))
            have ET0 := Lib.hid hxs
            have ET1 := Lib.hid hoky
            have HNN := Lib.hid hN
            clear hN hxs hoky
            go_wp2_with fail
            refine (((specTextNat_any G _ (by omega)).mono fun _ _ h => h.new)).mono ?_
            rintro e w1 ⟨vq, rfl, oq0, b1⟩
            rw [ET0.out] at oq0
            rw [ET1.out]
            obtain ⟨Aq, cq, rfl⟩ := own_len oq0
            have oq := own_at' oq0
            have lq := own_within oq0
            clear oq0
            have bb1 := Below.next bbr b1
            replace ko := ko.below b1
            have os := oq.imp (fun _ h => (OwnS.mk (x := (N, xs)) h : OwnS (.agg #[.bool N, .slice Aq xs.length cq]) (N, xs) _))
            clear oq
            by_cases h0 : 0 < s.size
            · have h0i : (0 : Int) < (s.size : Int) := by omega
              have hn : ((s[0].toNat : Int) == 45) = N := (head_yes h0).symm.trans HNN.out
              by_cases ok : okD ((N, xs), K) = true
              · have EV := Lib.hid (show decD (N, xs) K = (((N, xs), K), true) by unfold decD; rw [if_pos ok])
                have HO := Lib.hid ok
                clear ok
                go_wp2_with fail
                go_wp2_with fail
                refine ((l07Dec_any _ (N, xs) K _ _ hxl os).mono fun _ _ h => keptD_eq EV.out h).mono ?_
                rintro e w2 ⟨uf, Sf, rfl, of, sf, b2⟩
                obtain ⟨Af, cf, rfl⟩ := ownD_form of.here
                have bb2 := Below.next bb1 b2
                replace ko := ko.below b2
                replace os := os.below b2
                have lf : ∀ i ∈ Sf, w.heap.size < i := fun i hi => by have h1 := lq i (sf i hi); have h2 := HK.out; have h3 := h1.1; omega
                clear os
                obtain ⟨Y, hY⟩ : ∃ Y : DI, (((N, xs), K) : DI) = Y := ⟨_, rfl⟩
                have EY := Lib.hid hY
                rw [hY] at of ⊢
                clear hY
                have kd := box_new (w2) #[.bool Y.1.1, .slice Af Y.1.2.length cf, .int .i64 Y.2] 40
                have ald := below_al (Below.refl (w2).heap.size (w2)) (.cells #[.bool Y.1.1, .slice Af Y.1.2.length cf, .int .i64 Y.2] 40)
                have bbd := Below.next bb2 ald
                replace ko := ko.below ald
                replace of := of.below ald
                cases oky with
                | false =>
                  have HV0 := Lib.hid (HB1.out rfl)
                  clear kd of
                  have cz0 := ko.here.cell 0 _ rfl
                  have fz0 := Lib.frozen_of_heap ko.here 0
                  have cz1 := ko.here.cell 1 _ rfl
                  have fz1 := Lib.frozen_of_heap ko.here 1
                  have cz2 := ko.here.cell 2 _ rfl
                  have fz2 := Lib.frozen_of_heap ko.here 2
                  go_wp2
                  refine bodyPost_ret (v := .tuple #[.agg #[.bool false, .slice none 0 0, .int .i64 0], .bool false]) (by simp [results, Tryz.results63, go_sem, cz0, cz1, cz2]) rfl ?_
                  rw [HV0.out]
                  first | exact newDb_zero _ bbd | exact newDb_zero _ (below_set3 bbd (by omega))
                | true =>
                  obtain ⟨T, hT⟩ : ∃ T, textD Y = T := ⟨_, rfl⟩
                  have ET := Lib.hid hT
                  have hX1 : Y.1.2.length ≤ 1048576 := by rw [← EY.out]; exact hxl
                  clear hT
                  have kd_c0 := kd.here.cell 0 _ rfl
                  have kd_c1 := kd.here.cell 1 _ rfl
                  have kd_c2 := kd.here.cell 2 _ rfl
                  go_wp2_with fail
                  clear kd_c0 kd_c1 kd_c2
                  refine ((specDecText_any _ Y _ hX1 of.here).mono fun _ _ h => postT_isD ET.out h).mono ?_
                  rintro e w3 ⟨rfl, b3⟩
                  have bb3 := Below.next bbd b3
                  replace ko := ko.below b3
                  replace of := of.below b3
                  replace kd := kd.below b3
                  by_cases hx : T = s
                  · have HV := Lib.hid (show P = (Y, true) by rw [← EY.out]; exact HGD.out (by simp) HO.out (by rw [EY.out, ET.out]; exact hx))
                    have hse := bytes_eqP hx
                    clear hx
                    have HW := Lib.hid (postDb_chg (b := true) (T := [w.heap.size]) of (fun i hi hm => by have := lf i hi; simp at hm; omega) (fun i hi => by simp at hi; omega) (fun i hi => by have := lf i hi; omega) bb3)
                    have kd_c0 := kd.here.cell 0 _ rfl
                    have kd_c1 := kd.here.cell 1 _ rfl
                    have kd_c2 := kd.here.cell 2 _ rfl
                    have cz0 := ko.here.cell 0 _ rfl
                    have fz0 := Lib.frozen_of_heap ko.here 0
                    have cz1 := ko.here.cell 1 _ rfl
                    have fz1 := Lib.frozen_of_heap ko.here 1
                    have cz2 := ko.here.cell 2 _ rfl
                    have fz2 := Lib.frozen_of_heap ko.here 2
                    clear of kd ko
                    go_wp2
                    refine bodyPost_ret (v := .tuple #[.agg #[.bool Y.1.1, .slice Af Y.1.2.length cf, .int .i64 Y.2], .bool true]) (by simp [results, Tryz.results63, go_sem, cz0, cz1, cz2]) rfl ?_
                    rw [HV.out]
                    refine HW.out _ ?_
                    repeat (first | exact Chg.refl _ _ | refine Chg.setCell ?_ (by simp) _)
                  · have HV := Lib.hid (HB3.out (by rw [EY.out, ET.out]; exact hx))
                    have hse := bytes_neP hx
                    clear hx of kd
                    have cz0 := ko.here.cell 0 _ rfl
                    have fz0 := Lib.frozen_of_heap ko.here 0
                    have cz1 := ko.here.cell 1 _ rfl
                    have fz1 := Lib.frozen_of_heap ko.here 1
                    have cz2 := ko.here.cell 2 _ rfl
                    have fz2 := Lib.frozen_of_heap ko.here 2
                    go_wp2
                    refine bodyPost_ret (v := .tuple #[.agg #[.bool false, .slice none 0 0, .int .i64 0], .bool false]) (by simp [results, Tryz.results63, go_sem, cz0, cz1, cz2]) rfl ?_
                    rw [HV.out]
                    first | exact newDb_zero _ bb3 | exact newDb_zero _ (below_set3 bb3 (by omega))
              · have EV := Lib.hid (show decD (N, xs) K = (zeroD, false) by unfold decD; rw [if_neg ok])
                have HV := Lib.hid (HB2.out (by simpa using ok))
                clear ok
                go_wp2_with fail
                go_wp2_with fail
                refine ((l07Dec_any _ (N, xs) K _ _ hxl os).mono fun _ _ h => keptD_eq EV.out h).mono ?_
                rintro e w2 ⟨uf, Sf, rfl, of, sf, b2⟩
                obtain ⟨Af, cf, rfl⟩ := ownD_form of.here
                have bb2 := Below.next bb1 b2
                replace ko := ko.below b2
                replace os := os.below b2
                have lf : ∀ i ∈ Sf, w.heap.size < i := fun i hi => by have h1 := lq i (sf i hi); have h2 := HK.out; have h3 := h1.1; omega
                clear os
                obtain ⟨Y, hY⟩ : ∃ Y : DI, (zeroD : DI) = Y := ⟨_, rfl⟩
                have EY := Lib.hid hY
                rw [hY] at of ⊢
                clear hY
                have kd := box_new (w2) #[.bool Y.1.1, .slice Af Y.1.2.length cf, .int .i64 Y.2] 40
                have ald := below_al (Below.refl (w2).heap.size (w2)) (.cells #[.bool Y.1.1, .slice Af Y.1.2.length cf, .int .i64 Y.2] 40)
                have bbd := Below.next bb2 ald
                replace ko := ko.below ald
                replace of := of.below ald
                cases oky with
                | false =>
                  have HV0 := Lib.hid (HB1.out rfl)
                  clear kd of
                  have cz0 := ko.here.cell 0 _ rfl
                  have fz0 := Lib.frozen_of_heap ko.here 0
                  have cz1 := ko.here.cell 1 _ rfl
                  have fz1 := Lib.frozen_of_heap ko.here 1
                  have cz2 := ko.here.cell 2 _ rfl
                  have fz2 := Lib.frozen_of_heap ko.here 2
                  go_wp2
                  refine bodyPost_ret (v := .tuple #[.agg #[.bool false, .slice none 0 0, .int .i64 0], .bool false]) (by simp [results, Tryz.results63, go_sem, cz0, cz1, cz2]) rfl ?_
                  rw [HV0.out]
                  first | exact newDb_zero _ bbd | exact newDb_zero _ (below_set3 bbd (by omega))
                | true =>
                  clear kd of
                  have cz0 := ko.here.cell 0 _ rfl
                  have fz0 := Lib.frozen_of_heap ko.here 0
                  have cz1 := ko.here.cell 1 _ rfl
                  have fz1 := Lib.frozen_of_heap ko.here 1
                  have cz2 := ko.here.cell 2 _ rfl
                  have fz2 := Lib.frozen_of_heap ko.here 2
                  go_wp2
                  refine bodyPost_ret (v := .tuple #[.agg #[.bool false, .slice none 0 0, .int .i64 0], .bool false]) (by simp [results, Tryz.results63, go_sem, cz0, cz1, cz2]) rfl ?_
                  rw [HV.out]
                  first | exact newDb_zero _ bbd | exact newDb_zero _ (below_set3 bbd (by omega))
            · exfalso; omega
        · have h1i : ¬ (1 : Int) < (G.size : Int) := by omega
          have hG := raw_end (strip_short G h1) HG.out
          have HGE := Lib.hid hG
          clear hG HG
          have HK := Lib.hid (ko.lt w.heap.size (by simp))
          obtain ⟨N, hN⟩ : ∃ N, decide (s.data.toList.headD 0 = 45) = N := ⟨_, rfl⟩
          obtain ⟨xs, hxs⟩ : ∃ xs, tnR G = xs := ⟨_, rfl⟩
          obtain ⟨oky, hoky⟩ : ∃ o, decOk G = o := ⟨_, rfl⟩
          have hxl : xs.length ≤ 1048576 := by rw [← hxs]; have := tnR_len G; omega
          have HX := Lib.hid (show parseD s = ((N, xs), K) by rw [← hN, ← hxs, HGE.out, ← EK.out]; rfl)
          have HB1 := Lib.hid (fun h : oky = false => (show P = (zeroD, false) by rw [← EP.out]; exact trD_bad1 (by rw [← HGE.out, hoky]; exact h)))
          have HB2 := Lib.hid (fun h : okD ((N, xs), K) = false => (show P = (zeroD, false) by rw [← EP.out]; exact trD_bad2 (by rw [HX.out]; exact h)))
          have HB3 := Lib.hid (fun h : ¬ textD ((N, xs), K) = s => (show P = (zeroD, false) by rw [← EP.out]; exact trD_bad3 (by rw [HX.out]; exact h)))
          have HGD := Lib.hid (fun (h1 : oky = true) (h2 : okD ((N, xs), K) = true) (h3 : textD ((N, xs), K) = s) => (show P = (((N, xs), K), true) by rw [← EP.out, ← HX.out]; exact trD_good (by rw [← HGE.out, hoky]; exact h1) (by rw [HX.out]; exact h2) (by rw [HX.out]; exact h3)))
          have ET0 := Lib.hid hxs
          have ET1 := Lib.hid hoky
          have HNN := Lib.hid hN
          clear hN hxs hoky
          go_wp2_with fail
          refine (((specTextNat_any G _ (by omega)).mono fun _ _ h => h.new)).mono ?_
          rintro e w1 ⟨vq, rfl, oq0, b1⟩
          rw [ET0.out] at oq0
          rw [ET1.out]
          obtain ⟨Aq, cq, rfl⟩ := own_len oq0
          have oq := own_at' oq0
          have lq := own_within oq0
          clear oq0
          have bb1 := Below.next bbr b1
          replace ko := ko.below b1
          have os := oq.imp (fun _ h => (OwnS.mk (x := (N, xs)) h : OwnS (.agg #[.bool N, .slice Aq xs.length cq]) (N, xs) _))
          clear oq
          by_cases h0 : 0 < s.size
          · have h0i : (0 : Int) < (s.size : Int) := by omega
            have hn : ((s[0].toNat : Int) == 45) = N := (head_yes h0).symm.trans HNN.out
            by_cases ok : okD ((N, xs), K) = true
            · have EV := Lib.hid (show decD (N, xs) K = (((N, xs), K), true) by unfold decD; rw [if_pos ok])
              have HO := Lib.hid ok
              clear ok
              go_wp2_with fail
              go_wp2_with fail
              refine ((l07Dec_any _ (N, xs) K _ _ hxl os).mono fun _ _ h => keptD_eq EV.out h).mono ?_
              rintro e w2 ⟨uf, Sf, rfl, of, sf, b2⟩
              obtain ⟨Af, cf, rfl⟩ := ownD_form of.here
              have bb2 := Below.next bb1 b2
              replace ko := ko.below b2
              replace os := os.below b2
              have lf : ∀ i ∈ Sf, w.heap.size < i := fun i hi => by have h1 := lq i (sf i hi); have h2 := HK.out; have h3 := h1.1; omega
              clear os
              obtain ⟨Y, hY⟩ : ∃ Y : DI, (((N, xs), K) : DI) = Y := ⟨_, rfl⟩
              have EY := Lib.hid hY
              rw [hY] at of ⊢
              clear hY
              have kd := box_new (w2) #[.bool Y.1.1, .slice Af Y.1.2.length cf, .int .i64 Y.2] 40
              have ald := below_al (Below.refl (w2).heap.size (w2)) (.cells #[.bool Y.1.1, .slice Af Y.1.2.length cf, .int .i64 Y.2] 40)
              have bbd := Below.next bb2 ald
              replace ko := ko.below ald
              replace of := of.below ald
              cases oky with
              | false =>
                have HV0 := Lib.hid (HB1.out rfl)
                clear kd of
                have cz0 := ko.here.cell 0 _ rfl
                have fz0 := Lib.frozen_of_heap ko.here 0
                have cz1 := ko.here.cell 1 _ rfl
                have fz1 := Lib.frozen_of_heap ko.here 1
                have cz2 := ko.here.cell 2 _ rfl
                have fz2 := Lib.frozen_of_heap ko.here 2
                go_wp2
                refine bodyPost_ret (v := .tuple #[.agg #[.bool false, .slice none 0 0, .int .i64 0], .bool false]) (by simp [results, Tryz.results63, go_sem, cz0, cz1, cz2]) rfl ?_
                rw [HV0.out]
                first | exact newDb_zero _ bbd | exact newDb_zero _ (below_set3 bbd (by omega))
              | true =>
                obtain ⟨T, hT⟩ : ∃ T, textD Y = T := ⟨_, rfl⟩
                have ET := Lib.hid hT
                have hX1 : Y.1.2.length ≤ 1048576 := by rw [← EY.out]; exact hxl
                clear hT
                have kd_c0 := kd.here.cell 0 _ rfl
                have kd_c1 := kd.here.cell 1 _ rfl
                have kd_c2 := kd.here.cell 2 _ rfl
                go_wp2_with fail
                clear kd_c0 kd_c1 kd_c2
                refine ((specDecText_any _ Y _ hX1 of.here).mono fun _ _ h => postT_isD ET.out h).mono ?_
                rintro e w3 ⟨rfl, b3⟩
                have bb3 := Below.next bbd b3
                replace ko := ko.below b3
                replace of := of.below b3
                replace kd := kd.below b3
                by_cases hx : T = s
                · have HV := Lib.hid (show P = (Y, true) by rw [← EY.out]; exact HGD.out (by simp) HO.out (by rw [EY.out, ET.out]; exact hx))
                  have hse := bytes_eqP hx
                  clear hx
                  have HW := Lib.hid (postDb_chg (b := true) (T := [w.heap.size]) of (fun i hi hm => by have := lf i hi; simp at hm; omega) (fun i hi => by simp at hi; omega) (fun i hi => by have := lf i hi; omega) bb3)
                  have kd_c0 := kd.here.cell 0 _ rfl
                  have kd_c1 := kd.here.cell 1 _ rfl
                  have kd_c2 := kd.here.cell 2 _ rfl
                  have cz0 := ko.here.cell 0 _ rfl
                  have fz0 := Lib.frozen_of_heap ko.here 0
                  have cz1 := ko.here.cell 1 _ rfl
                  have fz1 := Lib.frozen_of_heap ko.here 1
                  have cz2 := ko.here.cell 2 _ rfl
                  have fz2 := Lib.frozen_of_heap ko.here 2
                  clear of kd ko
                  go_wp2
                  refine bodyPost_ret (v := .tuple #[.agg #[.bool Y.1.1, .slice Af Y.1.2.length cf, .int .i64 Y.2], .bool true]) (by simp [results, Tryz.results63, go_sem, cz0, cz1, cz2]) rfl ?_
                  rw [HV.out]
                  refine HW.out _ ?_
                  repeat (first | exact Chg.refl _ _ | refine Chg.setCell ?_ (by simp) _)
                · have HV := Lib.hid (HB3.out (by rw [EY.out, ET.out]; exact hx))
                  have hse := bytes_neP hx
                  clear hx of kd
                  have cz0 := ko.here.cell 0 _ rfl
                  have fz0 := Lib.frozen_of_heap ko.here 0
                  have cz1 := ko.here.cell 1 _ rfl
                  have fz1 := Lib.frozen_of_heap ko.here 1
                  have cz2 := ko.here.cell 2 _ rfl
                  have fz2 := Lib.frozen_of_heap ko.here 2
                  go_wp2
                  refine bodyPost_ret (v := .tuple #[.agg #[.bool false, .slice none 0 0, .int .i64 0], .bool false]) (by simp [results, Tryz.results63, go_sem, cz0, cz1, cz2]) rfl ?_
                  rw [HV.out]
                  first | exact newDb_zero _ bb3 | exact newDb_zero _ (below_set3 bb3 (by omega))
            · have EV := Lib.hid (show decD (N, xs) K = (zeroD, false) by unfold decD; rw [if_neg ok])
              have HV := Lib.hid (HB2.out (by simpa using ok))
              clear ok
              go_wp2_with fail
              go_wp2_with fail
              refine ((l07Dec_any _ (N, xs) K _ _ hxl os).mono fun _ _ h => keptD_eq EV.out h).mono ?_
              rintro e w2 ⟨uf, Sf, rfl, of, sf, b2⟩
              obtain ⟨Af, cf, rfl⟩ := ownD_form of.here
              have bb2 := Below.next bb1 b2
              replace ko := ko.below b2
              replace os := os.below b2
              have lf : ∀ i ∈ Sf, w.heap.size < i := fun i hi => by have h1 := lq i (sf i hi); have h2 := HK.out; have h3 := h1.1; omega
              clear os
              obtain ⟨Y, hY⟩ : ∃ Y : DI, (zeroD : DI) = Y := ⟨_, rfl⟩
              have EY := Lib.hid hY
              rw [hY] at of ⊢
              clear hY
              have kd := box_new (w2) #[.bool Y.1.1, .slice Af Y.1.2.length cf, .int .i64 Y.2] 40
              have ald := below_al (Below.refl (w2).heap.size (w2)) (.cells #[.bool Y.1.1, .slice Af Y.1.2.length cf, .int .i64 Y.2] 40)
              have bbd := Below.next bb2 ald
              replace ko := ko.below ald
              replace of := of.below ald
              cases oky with
              | false =>
                have HV0 := Lib.hid (HB1.out rfl)
                clear kd of
                have cz0 := ko.here.cell 0 _ rfl
                have fz0 := Lib.frozen_of_heap ko.here 0
                have cz1 := ko.here.cell 1 _ rfl
                have fz1 := Lib.frozen_of_heap ko.here 1
                have cz2 := ko.here.cell 2 _ rfl
                have fz2 := Lib.frozen_of_heap ko.here 2
                go_wp2
                refine bodyPost_ret (v := .tuple #[.agg #[.bool false, .slice none 0 0, .int .i64 0], .bool false]) (by simp [results, Tryz.results63, go_sem, cz0, cz1, cz2]) rfl ?_
                rw [HV0.out]
                first | exact newDb_zero _ bbd | exact newDb_zero _ (below_set3 bbd (by omega))
              | true =>
                clear kd of
                have cz0 := ko.here.cell 0 _ rfl
                have fz0 := Lib.frozen_of_heap ko.here 0
                have cz1 := ko.here.cell 1 _ rfl
                have fz1 := Lib.frozen_of_heap ko.here 1
                have cz2 := ko.here.cell 2 _ rfl
                have fz2 := Lib.frozen_of_heap ko.here 2
                go_wp2
                refine bodyPost_ret (v := .tuple #[.agg #[.bool false, .slice none 0 0, .int .i64 0], .bool false]) (by simp [results, Tryz.results63, go_sem, cz0, cz1, cz2]) rfl ?_
                rw [HV.out]
                first | exact newDb_zero _ bbd | exact newDb_zero _ (below_set3 bbd (by omega))
          · have h0i : ¬ (0 : Int) < (s.size : Int) := by omega
            have hn : false = N := (head_no h0).symm.trans HNN.out
            subst hn
            by_cases ok : okD ((false, xs), K) = true
            · have EV := Lib.hid (show decD (false, xs) K = (((false, xs), K), true) by unfold decD; rw [if_pos ok])
              have HO := Lib.hid ok
              clear ok
              go_wp2_with fail
              go_wp2_with fail
              refine ((l07Dec_any _ (false, xs) K _ _ hxl os).mono fun _ _ h => keptD_eq EV.out h).mono ?_
              rintro e w2 ⟨uf, Sf, rfl, of, sf, b2⟩
              obtain ⟨Af, cf, rfl⟩ := ownD_form of.here
              have bb2 := Below.next bb1 b2
              replace ko := ko.below b2
              replace os := os.below b2
              have lf : ∀ i ∈ Sf, w.heap.size < i := fun i hi => by have h1 := lq i (sf i hi); have h2 := HK.out; have h3 := h1.1; omega
              clear os
              obtain ⟨Y, hY⟩ : ∃ Y : DI, (((false, xs), K) : DI) = Y := ⟨_, rfl⟩
              have EY := Lib.hid hY
              rw [hY] at of ⊢
              clear hY
              have kd := box_new (w2) #[.bool Y.1.1, .slice Af Y.1.2.length cf, .int .i64 Y.2] 40
              have ald := below_al (Below.refl (w2).heap.size (w2)) (.cells #[.bool Y.1.1, .slice Af Y.1.2.length cf, .int .i64 Y.2] 40)
              have bbd := Below.next bb2 ald
              replace ko := ko.below ald
              replace of := of.below ald
              cases oky with
              | false =>
                have HV0 := Lib.hid (HB1.out rfl)
                clear kd of
                have cz0 := ko.here.cell 0 _ rfl
                have fz0 := Lib.frozen_of_heap ko.here 0
                have cz1 := ko.here.cell 1 _ rfl
                have fz1 := Lib.frozen_of_heap ko.here 1
                have cz2 := ko.here.cell 2 _ rfl
                have fz2 := Lib.frozen_of_heap ko.here 2
                go_wp2
                refine bodyPost_ret (v := .tuple #[.agg #[.bool false, .slice none 0 0, .int .i64 0], .bool false]) (by simp [results, Tryz.results63, go_sem, cz0, cz1, cz2]) rfl ?_
                rw [HV0.out]
                first | exact newDb_zero _ bbd | exact newDb_zero _ (below_set3 bbd (by omega))
              | true =>
                obtain ⟨T, hT⟩ : ∃ T, textD Y = T := ⟨_, rfl⟩
                have ET := Lib.hid hT
                have hX1 : Y.1.2.length ≤ 1048576 := by rw [← EY.out]; exact hxl
                clear hT
                have kd_c0 := kd.here.cell 0 _ rfl
                have kd_c1 := kd.here.cell 1 _ rfl
                have kd_c2 := kd.here.cell 2 _ rfl
                go_wp2_with fail
                clear kd_c0 kd_c1 kd_c2
                refine ((specDecText_any _ Y _ hX1 of.here).mono fun _ _ h => postT_isD ET.out h).mono ?_
                rintro e w3 ⟨rfl, b3⟩
                have bb3 := Below.next bbd b3
                replace ko := ko.below b3
                replace of := of.below b3
                replace kd := kd.below b3
                by_cases hx : T = s
                · have HV := Lib.hid (show P = (Y, true) by rw [← EY.out]; exact HGD.out (by simp) HO.out (by rw [EY.out, ET.out]; exact hx))
                  have hse := bytes_eqP hx
                  clear hx
                  have HW := Lib.hid (postDb_chg (b := true) (T := [w.heap.size]) of (fun i hi hm => by have := lf i hi; simp at hm; omega) (fun i hi => by simp at hi; omega) (fun i hi => by have := lf i hi; omega) bb3)
                  have kd_c0 := kd.here.cell 0 _ rfl
                  have kd_c1 := kd.here.cell 1 _ rfl
                  have kd_c2 := kd.here.cell 2 _ rfl
                  have cz0 := ko.here.cell 0 _ rfl
                  have fz0 := Lib.frozen_of_heap ko.here 0
                  have cz1 := ko.here.cell 1 _ rfl
                  have fz1 := Lib.frozen_of_heap ko.here 1
                  have cz2 := ko.here.cell 2 _ rfl
                  have fz2 := Lib.frozen_of_heap ko.here 2
                  clear of kd ko
                  go_wp2
                  refine bodyPost_ret (v := .tuple #[.agg #[.bool Y.1.1, .slice Af Y.1.2.length cf, .int .i64 Y.2], .bool true]) (by simp [results, Tryz.results63, go_sem, cz0, cz1, cz2]) rfl ?_
                  rw [HV.out]
                  refine HW.out _ ?_
                  repeat (first | exact Chg.refl _ _ | refine Chg.setCell ?_ (by simp) _)
                · have HV := Lib.hid (HB3.out (by rw [EY.out, ET.out]; exact hx))
                  have hse := bytes_neP hx
                  clear hx of kd
                  have cz0 := ko.here.cell 0 _ rfl
                  have fz0 := Lib.frozen_of_heap ko.here 0
                  have cz1 := ko.here.cell 1 _ rfl
                  have fz1 := Lib.frozen_of_heap ko.here 1
                  have cz2 := ko.here.cell 2 _ rfl
                  have fz2 := Lib.frozen_of_heap ko.here 2
                  go_wp2
                  refine bodyPost_ret (v := .tuple #[.agg #[.bool false, .slice none 0 0, .int .i64 0], .bool false]) (by simp [results, Tryz.results63, go_sem, cz0, cz1, cz2]) rfl ?_
                  rw [HV.out]
                  first | exact newDb_zero _ bb3 | exact newDb_zero _ (below_set3 bb3 (by omega))
            · have EV := Lib.hid (show decD (false, xs) K = (zeroD, false) by unfold decD; rw [if_neg ok])
              have HV := Lib.hid (HB2.out (by simpa using ok))
              clear ok
              go_wp2_with fail
              go_wp2_with fail
              refine ((l07Dec_any _ (false, xs) K _ _ hxl os).mono fun _ _ h => keptD_eq EV.out h).mono ?_
              rintro e w2 ⟨uf, Sf, rfl, of, sf, b2⟩
              obtain ⟨Af, cf, rfl⟩ := ownD_form of.here
              have bb2 := Below.next bb1 b2
              replace ko := ko.below b2
              replace os := os.below b2
              have lf : ∀ i ∈ Sf, w.heap.size < i := fun i hi => by have h1 := lq i (sf i hi); have h2 := HK.out; have h3 := h1.1; omega
              clear os
              obtain ⟨Y, hY⟩ : ∃ Y : DI, (zeroD : DI) = Y := ⟨_, rfl⟩
              have EY := Lib.hid hY
              rw [hY] at of ⊢
              clear hY
              have kd := box_new (w2) #[.bool Y.1.1, .slice Af Y.1.2.length cf, .int .i64 Y.2] 40
              have ald := below_al (Below.refl (w2).heap.size (w2)) (.cells #[.bool Y.1.1, .slice Af Y.1.2.length cf, .int .i64 Y.2] 40)
              have bbd := Below.next bb2 ald
              replace ko := ko.below ald
              replace of := of.below ald
              cases oky with
              | false =>
                have HV0 := Lib.hid (HB1.out rfl)
                clear kd of
                have cz0 := ko.here.cell 0 _ rfl
                have fz0 := Lib.frozen_of_heap ko.here 0
                have cz1 := ko.here.cell 1 _ rfl
                have fz1 := Lib.frozen_of_heap ko.here 1
                have cz2 := ko.here.cell 2 _ rfl
                have fz2 := Lib.frozen_of_heap ko.here 2
                go_wp2
                refine bodyPost_ret (v := .tuple #[.agg #[.bool false, .slice none 0 0, .int .i64 0], .bool false]) (by simp [results, Tryz.results63, go_sem, cz0, cz1, cz2]) rfl ?_
                rw [HV0.out]
                first | exact newDb_zero _ bbd | exact newDb_zero _ (below_set3 bbd (by omega))
              | true =>
                clear kd of
                have cz0 := ko.here.cell 0 _ rfl
                have fz0 := Lib.frozen_of_heap ko.here 0
                have cz1 := ko.here.cell 1 _ rfl
                have fz1 := Lib.frozen_of_heap ko.here 1
                have cz2 := ko.here.cell 2 _ rfl
                have fz2 := Lib.frozen_of_heap ko.here 2
                go_wp2
                refine bodyPost_ret (v := .tuple #[.agg #[.bool false, .slice none 0 0, .int .i64 0], .bool false]) (by simp [results, Tryz.results63, go_sem, cz0, cz1, cz2]) rfl ?_
                rw [HV.out]
                first | exact newDb_zero _ bbd | exact newDb_zero _ (below_set3 bbd (by omega))
end Go.Proofs.YtofehcpapdlcnaaGreatDoor

namespace Go.Proofs.YtofehcpapdlcnaaGreatDoor
open Go.RowKit

set_option maxHeartbeats 4000000 in
set_option maxRecDepth 100000 in
theorem specTextPercent_any (s : ByteArray) (w : World) (hs : s.size ≤ 1048576) :
    Calls Tryz.prog 25 #[.string s] w (PostDb (trP s).1 (trP s).2 w) := by
  have bb0 : Below w.heap.size w (w.alloc (.cells #[.bool false, .slice none 0 0, .int .i64 0] 40)) := below_al (Below.refl _ _) _
  have ko := (box_new w #[.bool false, .slice none 0 0, .int .i64 0] 40)
  have HKO := Lib.hid (ko.lt w.heap.size (by simp))
  by_cases hz : s.size = 0
  · have HV := Lib.hid (trP_unsigned (suf_empty hz))
    have hzi : ((s.size : Int) == 0) = true := by simp [hz]
    go_enter Tryz.func25, Tryz.ntmps25
    have cz0 := ko.here.cell 0 _ rfl
    have fz0 := Lib.frozen_of_heap ko.here 0
    have cz1 := ko.here.cell 1 _ rfl
    have fz1 := Lib.frozen_of_heap ko.here 1
    have cz2 := ko.here.cell 2 _ rfl
    have fz2 := Lib.frozen_of_heap ko.here 2
    clear ko
    go_wp2
    refine bodyPost_ret (v := .tuple #[.agg #[.bool false, .slice none 0 0, .int .i64 0], .bool false]) (by simp [results, Tryz.results25, go_sem, cz0, cz1, cz2]) rfl ?_
    rw [HV.out]
    first | exact newDb_zero _ bb0 | exact newDb_zero _ (below_set3 bb0 (Nat.le_refl _))
  · have hzi : ((s.size : Int) == 0) = false := by simp [hz]
    obtain ⟨m, hm⟩ : ∃ m, s.size = m + 1 := ⟨s.size - 1, by omega⟩
    have hml : m < s.size := by omega
    have hmi : (s.size : Int) - 1 = (m : Int) := by omega
    have HSF := Lib.hid (suf_last hm)
    by_cases hc : s[m].toNat = 37
    · have HNB := Lib.hid (pctNum_take hm hc)
      have hcb : ((s[m].toNat : Int) != 37) = false := by simp [hc]
      have hnz : (pctNum s).size ≤ 1048576 := pctNum_size hs
      have htz := szD_len (trD_sz (pctNum s))
      have EU := Lib.hid (show (trD (pctNum s)).2 = false → trP s = (zeroD, false) from trP_unread)
      have EYP := Lib.hid (show pctT (lowP s) = s → trP s = (lowP s, true) from trP_yes)
      have ENP := Lib.hid (show ¬ pctT (lowP s) = s → trP s = (zeroD, false) from trP_no)
      obtain ⟨X, hX⟩ : ∃ X, pctT (lowP s) = X := ⟨_, rfl⟩
      rw [hX] at EYP ENP
      have hlz : (lowP s).1.2.length ≤ 1048576 := low_lenP _
      have hlw := lowP_read (s := s)
      have hsc := trD_scale (pctNum s)
      obtain ⟨L, hL⟩ : ∃ L, lowP s = L := ⟨_, rfl⟩
      rw [hL] at hX EYP hlz hlw
      have ET := Lib.hid hX
      clear hX hL
      obtain ⟨⟨D, db⟩, hD⟩ : ∃ Q, trD (pctNum s) = Q := ⟨_, rfl⟩
      have ED := Lib.hid hD
      rw [hD] at htz hlw EU hsc
      dsimp only at htz hlw EU hsc
      have EL0 := Lib.hid hlw
      clear hD hlw
      have hwr : IntKind.i64.wrap (D.2 + 2) = D.2 + 2 := IntWalk.i64_in _ (by omega)
      go_enter Tryz.func25, Tryz.ntmps25
      go_wp2_with fail
      rw [← HNB.out]
      refine ((specTextDec_any (pctNum s) _ hnz).mono fun _ _ h => postDb_is ED.out h).mono ?_
      rintro e w1 ⟨ud, Sd, rfl, od, ld, b1⟩
      obtain ⟨Ad, cd, rfl⟩ := ownD_form od.here
      have bb1 := Below.next bb0 b1
      replace ko := ko.below b1
      have kd := box_new (w1) #[.bool D.1.1, .slice Ad D.1.2.length cd, .int .i64 D.2] 40
      have ald := below_al (Below.refl (w1).heap.size (w1)) (.cells #[.bool D.1.1, .slice Ad D.1.2.length cd, .int .i64 D.2] 40)
      have bbd := Below.next bb1 ald
      replace ko := ko.below ald
      replace od := od.below ald
      cases db with
      | false =>
        have HV := Lib.hid (EU.out rfl)
        clear od kd
        have cz0 := ko.here.cell 0 _ rfl
        have fz0 := Lib.frozen_of_heap ko.here 0
        have cz1 := ko.here.cell 1 _ rfl
        have fz1 := Lib.frozen_of_heap ko.here 1
        have cz2 := ko.here.cell 2 _ rfl
        have fz2 := Lib.frozen_of_heap ko.here 2
        clear ko
        go_wp2
        refine bodyPost_ret (v := .tuple #[.agg #[.bool false, .slice none 0 0, .int .i64 0], .bool false]) (by simp [results, Tryz.results25, go_sem, cz0, cz1, cz2]) rfl ?_
        rw [HV.out]
        first | exact newDb_zero _ bbd | exact newDb_zero _ (below_set3 bbd (Nat.le_refl _))
      | true =>
        have EL := Lib.hid (EL0.out rfl).symm
        have OE := od.imp fun W h => (OwnD.mk (q := (D.1, D.2 + 2)) (show OwnI (.slice Ad D.1.2.length cd) D.1.2 W from ownD_open h) : OwnD (.agg #[.bool D.1.1, .slice Ad D.1.2.length cd, .int .i64 (D.2 + 2)]) (D.1, D.2 + 2) W)
        have HBL := Lib.hid (ko.lt w.heap.size (by simp))
        have kd_c0 := kd.here.cell 0 _ rfl
        have kd_c1 := kd.here.cell 1 _ rfl
        have kd_c2 := kd.here.cell 2 _ rfl
        go_wp2_with fail
        clear kd_c0 kd_c1 kd_c2
        refine ((specDecLow_any _ (D.1, D.2 + 2) _ htz OE.here).mono fun _ _ h => newVD_eq EL.out h).mono ?_
        rintro e w2 ⟨ug, Sg, rfl, og, lg, b2⟩
        obtain ⟨Ag, cg, rfl⟩ := ownD_form og.here
        have bb2 := Below.next bbd b2
        replace ko := ko.below b2
        replace od := od.below b2
        replace kd := kd.below b2
        have kl := box_new (w2) #[.bool L.1.1, .slice Ag L.1.2.length cg, .int .i64 L.2] 40
        have all := below_al (Below.refl (w2).heap.size (w2)) (.cells #[.bool L.1.1, .slice Ag L.1.2.length cg, .int .i64 L.2] 40)
        have bbl := Below.next bb2 all
        replace ko := ko.below all
        replace od := od.below all
        replace kd := kd.below all
        replace og := og.below all
        have kl_c0 := kl.here.cell 0 _ rfl
        have kl_c1 := kl.here.cell 1 _ rfl
        have kl_c2 := kl.here.cell 2 _ rfl
        go_wp2_with fail
        clear kl_c0 kl_c1 kl_c2
        refine ((specPercent_any _ L _ hlz og.here).mono fun _ _ h => postT_isP ET.out h).mono ?_
        rintro e w3 ⟨rfl, b3⟩
        have bb3 := Below.next bbl b3
        replace ko := ko.below b3
        replace od := od.below b3
        replace kd := kd.below b3
        replace og := og.below b3
        replace kl := kl.below b3
        by_cases he : X = s
        · have HV := Lib.hid (EYP.out he)
          subst he
          have HW := Lib.hid (postDb_chg (b := true) (T := [w.heap.size]) og (fun i hi hm => by have h1 := (lg i hi).1; have h2 := HKO.out; have h3 := HBL.out; simp at hm; omega) (fun i hi => by simp at hi; omega) (fun i hi => by have h1 := (lg i hi).1; have h3 := HBL.out; omega) bb3)
          have kl_c0 := kl.here.cell 0 _ rfl
          have kl_c1 := kl.here.cell 1 _ rfl
          have kl_c2 := kl.here.cell 2 _ rfl
          have cz0 := ko.here.cell 0 _ rfl
          have fz0 := Lib.frozen_of_heap ko.here 0
          have cz1 := ko.here.cell 1 _ rfl
          have fz1 := Lib.frozen_of_heap ko.here 1
          have cz2 := ko.here.cell 2 _ rfl
          have fz2 := Lib.frozen_of_heap ko.here 2
          clear ko od kd og kl
          go_wp2
          refine bodyPost_ret (v := .tuple #[.agg #[.bool L.1.1, .slice Ag L.1.2.length cg, .int .i64 L.2], .bool true]) (by simp [results, Tryz.results25, go_sem, cz0, cz1, cz2]) rfl ?_
          rw [HV.out]
          refine HW.out _ ?_
          repeat (first | exact Chg.refl _ _ | refine Chg.setCell ?_ (by simp) _)
        · have HV := Lib.hid (ENP.out he)
          have hne := bytes_ne' he
          clear he
          clear od kd og kl
          have cz0 := ko.here.cell 0 _ rfl
          have fz0 := Lib.frozen_of_heap ko.here 0
          have cz1 := ko.here.cell 1 _ rfl
          have fz1 := Lib.frozen_of_heap ko.here 1
          have cz2 := ko.here.cell 2 _ rfl
          have fz2 := Lib.frozen_of_heap ko.here 2
          clear ko
          go_wp2
          refine bodyPost_ret (v := .tuple #[.agg #[.bool false, .slice none 0 0, .int .i64 0], .bool false]) (by simp [results, Tryz.results25, go_sem, cz0, cz1, cz2]) rfl ?_
          rw [HV.out]
          first | exact newDb_zero _ bb3 | exact newDb_zero _ (below_set3 bb3 (Nat.le_refl _))
    · have HV := Lib.hid (trP_unsigned (HSF.out.trans (decide_eq_false hc)))
      have hcb : ((s[m].toNat : Int) != 37) = true := by rw [bne_iff_ne]; omega
      clear hc
      go_enter Tryz.func25, Tryz.ntmps25
      have cz0 := ko.here.cell 0 _ rfl
      have fz0 := Lib.frozen_of_heap ko.here 0
      have cz1 := ko.here.cell 1 _ rfl
      have fz1 := Lib.frozen_of_heap ko.here 1
      have cz2 := ko.here.cell 2 _ rfl
      have fz2 := Lib.frozen_of_heap ko.here 2
      clear ko
      go_wp2
      refine bodyPost_ret (v := .tuple #[.agg #[.bool false, .slice none 0 0, .int .i64 0], .bool false]) (by simp [results, Tryz.results25, go_sem, cz0, cz1, cz2]) rfl ?_
      rw [HV.out]
      first | exact newDb_zero _ bb0 | exact newDb_zero _ (below_set3 bb0 (Nat.le_refl _))
end Go.Proofs.YtofehcpapdlcnaaGreatDoor

namespace Go.Proofs.YtofehcpapdlcnaaGreatDoor
open Go.RowKit

set_option maxHeartbeats 4000000 in
set_option maxRecDepth 100000 in
theorem implTextPercent_any (s : ByteArray) (w : World) (hs : s.size ≤ 1048576) (ht : Tab w) (hsen : Sen w) :
    Calls Tryz.prog 26 #[.string s] w (PostDb (trP s).1 (trP s).2 w) := by
  have HT := Lib.hid ht
  have HS := Lib.hid hsen
  clear ht hsen
  have bb0 : Below w.heap.size w (w.alloc (.cells #[.bool false, .slice none 0 0, .int .i64 0] 40)) := below_al (Below.refl _ _) _
  have ko := (box_new w #[.bool false, .slice none 0 0, .int .i64 0] 40)
  have HKO := Lib.hid (ko.lt w.heap.size (by simp))
  have hnz : (pctNum s).size ≤ 1048576 := pctNum_size hs
  have htz := szD_len (trD_sz (pctNum s))
  have EYP := Lib.hid (show pctT (lowP s) = s → trP s = (lowP s, true) from trP_yes)
  have ENP := Lib.hid (show ¬ pctT (lowP s) = s → trP s = (zeroD, false) from trP_no)
  obtain ⟨X, hX⟩ : ∃ X, pctT (lowP s) = X := ⟨_, rfl⟩
  rw [hX] at EYP ENP
  have hlz : (lowP s).1.2.length ≤ 1048576 := low_lenP _
  have hlw : lowP s = lowD (mulD (trD (pctNum s)).1 hunthD).1 := rfl
  have hmz : (mulD (trD (pctNum s)).1 hunthD).1.1.2.length ≤ 1048576 := szD_len (mulD_sz _ _)
  obtain ⟨L, hL⟩ : ∃ L, lowP s = L := ⟨_, rfl⟩
  rw [hL] at hX EYP hlz hlw
  have ET := Lib.hid hX
  clear hX hL
  obtain ⟨O, hO⟩ : ∃ O, ofZ 1 = O := ⟨_, rfl⟩
  have EO := Lib.hid hO
  have HOL := Lib.hid (show O.2.length ≤ 1048576 by have := ofZ_len 1; rw [hO] at this; omega)
  obtain ⟨⟨P, pb⟩, hP⟩ : ∃ Q, mulD (trD (pctNum s)).1 hunthD = Q := ⟨_, rfl⟩
  have EP0 := Lib.hid (show mulD (trD (pctNum s)).1 (O, 2) = (P, pb) by rw [← hO]; exact hP)
  rw [hP] at hlw hmz
  dsimp only at hlw hmz
  have EL := Lib.hid hlw.symm
  clear hP hO hlw
  obtain ⟨⟨D, db⟩, hD⟩ : ∃ Q, trD (pctNum s) = Q := ⟨_, rfl⟩
  have ED := Lib.hid hD
  rw [hD] at EP0 htz
  have EP := Lib.hid (show mulD D (O, 2) = (P, pb) from EP0.out)
  dsimp only at htz
  clear hD EP0
  have HCS := Lib.hid (fun w => Tryz.strings_CutSuffix s ⟨#[37]⟩ w (by omega))
  have HNB := Lib.hid (show (⟨(Lib.trimSuffix s.data.toList [37]).toArray⟩ : ByteArray) = pctNum s from rfl)
  go_enter Tryz.func26, Tryz.ntmps26
  go_wp2_with fail
  refine (HCS.out _).mono ?_
  rintro e w_ ⟨rfl, rfl⟩
  rw [show (⟨(Lib.trimSuffix s.data.toList (⟨#[37]⟩ : ByteArray).data.toList).toArray⟩ : ByteArray) = pctNum s from rfl]
  generalize pctNum s = B at *
  generalize Lib.hasSuffix s.data.toList (⟨#[37]⟩ : ByteArray).data.toList = sb at *
  go_wp2_with fail
  refine ((implTextDec_any B _ hnz (HT.out.below bb0)).mono fun _ _ h => postDb_is ED.out h).mono ?_
  rintro e w1 ⟨ud, Sd, rfl, od, ld, b1⟩
  obtain ⟨Ad, cd, rfl⟩ := ownD_form od.here
  have bb1 := Below.next bb0 b1
  replace ko := ko.below b1
  have kd := box_new (w1) #[.bool D.1.1, .slice Ad D.1.2.length cd, .int .i64 D.2] 40
  have ald := below_al (Below.refl (w1).heap.size (w1)) (.cells #[.bool D.1.1, .slice Ad D.1.2.length cd, .int .i64 D.2] 40)
  have bbd := Below.next bb1 ald
  replace ko := ko.below ald
  replace od := od.below ald
  obtain ⟨Wt, hWt⟩ : ∃ W, W = w1.alloc (.cells #[.bool D.1.1, .slice Ad D.1.2.length cd, .int .i64 D.2] 40) := ⟨_, rfl⟩
  rw [← hWt] at ko od kd bbd ald
  have HW0 := Lib.hid hWt
  clear hWt
  go_upto_region 3 with fail
  rw [← HW0.out]
  go_cut [8, 9] (fun s1 s2 wx => NewLocV 40 (fun v => OwnD v P) Wt s1 wx ∧ s2 = .bool pb)
  case first =>
    have HC0 := Lib.hid (show Chg [] Wt Wt.drew from (Chg.refl _ _).drew1)
    have HCr := Lib.hid (show Chg [] Wt Wt from Chg.refl _ _)
    have KL := Lib.hid (show ∀ W, Chg [] Wt W → W.cell? ⟨w1.heap.size, 0, none⟩ = some (.bool D.1.1) ∧ W.cell? ⟨w1.heap.size, 1, none⟩ = some (.slice Ad D.1.2.length cd) ∧ W.cell? ⟨w1.heap.size, 2, none⟩ = some (.int .i64 D.2) ∧ Hid (Chg [] Wt W) from fun W hc => ⟨(kd.chg hc (fun i hi hm => by simp at hm)).here.cell 0 _ rfl, (kd.chg hc (fun i hi hm => by simp at hm)).here.cell 1 _ rfl, (kd.chg hc (fun i hi hm => by simp at hm)).here.cell 2 _ rfl, Lib.hid hc⟩)
    have BBF := Lib.hid (show ∀ W, Chg [] Wt W → Below w.heap.size w W from fun W hc => below_chg bbd hc bbd.size (fun i hi => by simp at hi))
    go_region_held3 (fun W => W.cell? ⟨w1.heap.size, 0, none⟩ = some (.bool D.1.1) ∧ W.cell? ⟨w1.heap.size, 1, none⟩ = some (.slice Ad D.1.2.length cd) ∧ W.cell? ⟨w1.heap.size, 2, none⟩ = some (.int .i64 D.2) ∧ Hid (Chg [] Wt W))
      ((refine KL.out _ ?_; (first | exact HC3.out | exact HC2.out | exact HCr.out | exact HC0.out | exact HC3.out.drew1 | exact HC2.out.drew1 | exact HCr.out.drew1 | exact HC0.out.drew1 | exact HC3.out.trans (Chg.of_below (below_al (Below.refl _ _) _)) | exact HC2.out.trans (Chg.of_below (below_al (Below.refl _ _) _)) | exact HCr.out.trans (Chg.of_below (below_al (Below.refl _ _) _)) | exact HC0.out.trans (Chg.of_below (below_al (Below.refl _ _) _)) | exact (Chg.setNew HC3.out (by first | exact HC3.out.size | exact HC2.out.size | exact HCr.out.size | exact HC0.out.size) _) | exact (Chg.setNew (Chg.setNew HC3.out (by first | exact HC3.out.size | exact HC2.out.size | exact HCr.out.size | exact HC0.out.size) _) (by first | exact HC3.out.size | exact HC2.out.size | exact HCr.out.size | exact HC0.out.size) _) | exact (Chg.setNew (Chg.setNew (Chg.setNew HC3.out (by first | exact HC3.out.size | exact HC2.out.size | exact HCr.out.size | exact HC0.out.size) _) (by first | exact HC3.out.size | exact HC2.out.size | exact HCr.out.size | exact HC0.out.size) _) (by first | exact HC3.out.size | exact HC2.out.size | exact HCr.out.size | exact HC0.out.size) _) | fail)))
      (first
        | (go_at_call 60; (have hBB := (‹_ ∧ _ ∧ _ ∧ Hid (Chg [] Wt _)›).2.2.2); (with_reducible refine ((implIntOf_any 1 _ (by omega) (by omega)).mono fun _ _ h => newS_is EO.out h).mono ?_); rintro e w2 ⟨ui, Si, rfl, oi, li, b2⟩; have HC2 := Lib.hid (hBB.out.trans (Chg.of_below b2)); (have od_2 := At.below (by first | exact od | exact At.below od (below_al (Below.refl _ _) _) | exact At.below (At.below od (below_al (Below.refl _ _) _)) (below_al (Below.refl _ _) _) | exact At.move od (fun _ _ => rfl) (Nat.le_refl _) | exact At.below (At.move (w' := Wt.drew) od (fun _ _ => rfl) (Nat.le_refl _)) (below_al (Below.refl _ _) _)) b2); obtain ⟨Ai, ci, rfl⟩ := ownS_form oi.here; (first | (have early2 : At [Wt.heap.size] (BoxAt Wt.heap.size #[.bool false, .slice none 0 0, .int .i64 0] 40) w2 := At.below (box_new Wt.drew _ _) b2) | (have early2 := At.below (box_new _ #[.bool false, .slice none 0 0, .int .i64 0] 40) b2) | (have early2 := At.below early1 b2) | skip); have HBZ2 := Lib.hid hBB.out.size; clear hBB)
        | (go_at_call 59; (have hBB := (‹_ ∧ _ ∧ _ ∧ Hid (Chg [] Wt _)›).2.2.2); (with_reducible refine ((implDecMul_any _ _ D (O, 2) _ htz HOL.out (At.here (by first | exact od_2 | exact At.below od_2 (below_al (Below.refl _ _) _) | exact At.below (At.below od_2 (below_al (Below.refl _ _) _)) (below_al (Below.refl _ _) _) | exact At.move od_2 (fun _ _ => rfl) (Nat.le_refl _) | exact At.below (At.move (w' := Wt.drew) od_2 (fun _ _ => rfl) (Nat.le_refl _)) (below_al (Below.refl _ _) _))) (OwnD.mk (q := (O, 2)) (ownS_openD (At.here (by first | exact oi | exact At.below oi (below_al (Below.refl _ _) _) | exact At.below (At.below oi (below_al (Below.refl _ _) _)) (below_al (Below.refl _ _) _) | exact At.move oi (fun _ _ => rfl) (Nat.le_refl _) | exact At.below (At.move (w' := Wt.drew) oi (fun _ _ => rfl) (Nat.le_refl _)) (below_al (Below.refl _ _) _)))))).mono fun _ _ h => postDb_is EP.out h).mono ?_); rintro e w3 ⟨uf, Sf, rfl, of, lf, b3⟩; have HC3 := Lib.hid (hBB.out.trans (Chg.of_below b3)); (have od_3 := At.below (by first | exact od_2 | exact At.below od_2 (below_al (Below.refl _ _) _) | exact At.below (At.below od_2 (below_al (Below.refl _ _) _)) (below_al (Below.refl _ _) _) | exact At.move od_2 (fun _ _ => rfl) (Nat.le_refl _) | exact At.below (At.move (w' := Wt.drew) od_2 (fun _ _ => rfl) (Nat.le_refl _)) (below_al (Below.refl _ _) _)) b3); (have oi_3 := At.below (by first | exact oi | exact At.below oi (below_al (Below.refl _ _) _) | exact At.below (At.below oi (below_al (Below.refl _ _) _)) (below_al (Below.refl _ _) _) | exact At.move oi (fun _ _ => rfl) (Nat.le_refl _) | exact At.below (At.move (w' := Wt.drew) oi (fun _ _ => rfl) (Nat.le_refl _)) (below_al (Below.refl _ _) _)) b3); obtain ⟨Af, cf, rfl⟩ := ownD_form of.here; (first | have hbxg := At.below_lt (box_new _ #[.bool false, .slice none 0 0, .int .i64 0] 40) b3 | have hbxg := At.below_lt early2 b3 | skip); (try (have hbxf := hbxg.1; have HGB := Lib.hid hbxg.2; clear hbxg)); (try (have cz0 := hbxf.here.cell 0 _ rfl; have fz0 := Lib.frozen_of_heap hbxf.here 0; have cz1 := hbxf.here.cell 1 _ rfl; have fz1 := Lib.frozen_of_heap hbxf.here 1; have cz2 := hbxf.here.cell 2 _ rfl; have fz2 := Lib.frozen_of_heap hbxf.here 2)); have HBZ3 := Lib.hid hBB.out.size; clear hBB))
    all_goals (go_wp2_with fail; go_meet; first | exact ⟨newLocV_last of lf HBZ3.out (below_of_chg HC3.out), rfl⟩ | exact ⟨newLocV_early3 hbxf.here of lf (by first | exact HC2.out.size | exact HCr.out.size | exact HC0.out.size) HGB.out (below_of_chg HC3.out), rfl⟩)
  rename World => w2
  obtain ⟨⟨gy, csy, Sy, rfl, ky, oy, ny, ly, b2⟩, rfl⟩ := hcut
  obtain ⟨Ay, cy, ey⟩ := ownD_form oy.here
  injection ey with ey
  subst ey
  have bb2 := Below.next bbd b2
  replace ko := ko.below b2
  replace od := od.below b2
  replace kd := kd.below b2
  have HBL := Lib.hid (ko.lt w.heap.size (by simp))
  have ky_c0 := ky.here.cell 0 _ rfl
  have ky_c1 := ky.here.cell 1 _ rfl
  have ky_c2 := ky.here.cell 2 _ rfl
  go_wp2_with fail
  clear ky_c0 ky_c1 ky_c2
  refine ((implDecLow_any _ P _ hmz oy.here (HS.out.below bb2)).mono fun _ _ h => newVD_eq EL.out h).mono ?_
  rintro e w3 ⟨ug, Sg, rfl, og, lg, b3⟩
  obtain ⟨Ag, cg, rfl⟩ := ownD_form og.here
  have bb3 := Below.next bb2 b3
  replace ko := ko.below b3
  replace od := od.below b3
  replace kd := kd.below b3
  replace ky := ky.below b3
  replace oy := oy.below b3
  have kl := box_new (w3) #[.bool L.1.1, .slice Ag L.1.2.length cg, .int .i64 L.2] 40
  have all := below_al (Below.refl (w3).heap.size (w3)) (.cells #[.bool L.1.1, .slice Ag L.1.2.length cg, .int .i64 L.2] 40)
  have bbl := Below.next bb3 all
  replace ko := ko.below all
  replace od := od.below all
  replace kd := kd.below all
  replace ky := ky.below all
  replace oy := oy.below all
  replace og := og.below all
  have kl_c0 := kl.here.cell 0 _ rfl
  have kl_c1 := kl.here.cell 1 _ rfl
  have kl_c2 := kl.here.cell 2 _ rfl
  go_wp2_with fail
  clear kl_c0 kl_c1 kl_c2
  refine ((implPercent_any _ L _ hlz og.here (HT.out.below bbl) (HS.out.below bbl)).mono fun _ _ h => postT_isP ET.out h).mono ?_
  rintro e w4 ⟨rfl, b4⟩
  have bb4 := Below.next bbl b4
  replace ko := ko.below b4
  replace od := od.below b4
  replace kd := kd.below b4
  replace ky := ky.below b4
  replace oy := oy.below b4
  replace og := og.below b4
  replace kl := kl.below b4
  by_cases he : X = s
  · have HV := Lib.hid (EYP.out he)
    subst he
    have HW := Lib.hid (postDb_chg (b := true) (T := [w.heap.size]) og (fun i hi hm => by have h1 := (lg i hi).1; have h2 := HKO.out; have h3 := HBL.out; simp at hm; omega) (fun i hi => by simp at hi; omega) (fun i hi => by have h1 := (lg i hi).1; have h3 := HBL.out; omega) bb4)
    have kl_c0 := kl.here.cell 0 _ rfl
    have kl_c1 := kl.here.cell 1 _ rfl
    have kl_c2 := kl.here.cell 2 _ rfl
    have cz0 := ko.here.cell 0 _ rfl
    have fz0 := Lib.frozen_of_heap ko.here 0
    have cz1 := ko.here.cell 1 _ rfl
    have fz1 := Lib.frozen_of_heap ko.here 1
    have cz2 := ko.here.cell 2 _ rfl
    have fz2 := Lib.frozen_of_heap ko.here 2
    clear ko od kd ky oy og kl
    go_wp2
    refine bodyPost_ret (v := .tuple #[.agg #[.bool L.1.1, .slice Ag L.1.2.length cg, .int .i64 L.2], .bool true]) (by simp [results, Tryz.results26, go_sem, cz0, cz1, cz2]) rfl ?_
    rw [HV.out]
    refine HW.out _ ?_
    repeat (first | exact Chg.refl _ _ | refine Chg.setCell ?_ (by simp) _)
  · have HV := Lib.hid (ENP.out he)
    have hne := bytes_ne' he
    clear he
    clear od kd ky oy og kl
    have cz0 := ko.here.cell 0 _ rfl
    have fz0 := Lib.frozen_of_heap ko.here 0
    have cz1 := ko.here.cell 1 _ rfl
    have fz1 := Lib.frozen_of_heap ko.here 1
    have cz2 := ko.here.cell 2 _ rfl
    have fz2 := Lib.frozen_of_heap ko.here 2
    clear ko
    go_wp2
    refine bodyPost_ret (v := .tuple #[.agg #[.bool false, .slice none 0 0, .int .i64 0], .bool false]) (by simp [results, Tryz.results26, go_sem, cz0, cz1, cz2]) rfl ?_
    rw [HV.out]
    first | exact newDb_zero _ bb4 | exact newDb_zero _ (below_set3 bb4 (Nat.le_refl _))
end Go.Proofs.YtofehcpapdlcnaaGreatDoor
