/-
  For all arguments the law FnExactTextDec of chapter 8 returns true; no conditions beyond the card's own (the library's tables hold what the program's text lays).
-/
import Derived.Test.YthfkdofnoomhaaaDoorJE6
namespace Go.Proofs.YthfkdofnoomhaaaDoor
open Go.ChangeShapes Go.WideShapes Go.ChangeAt Go.RowKit
open Go.ChangeMaps (open_string shut_string)

/-- a world for the witness: the settled one, the listed tables holding what their initialisers lay -/
noncomputable def utfWorld (os : Os) : World :=
  { laidWorld os with heap := ((laidWorld os).heap.modify 3 (putCells ((aggOf Rows.laid_unicode_utf8_acceptRanges).flatMap fun x => tabCells .u8 (aggOf x)).toArray)).modify 2 (putCells (tabCells .u8 (aggOf Rows.laid_unicode_utf8_first)).toArray) }
theorem fnExactTextDec_tab {W : World} (h : laidMetH Tryd.prog Rows.fnExactTextDecRow.laid W) : Tab W := by
  obtain ⟨ps, ⟨_, _, _, _, _, _, _, _, _, _, ⟨_, _, _, _, _, _, _, _, _, _, ⟨g3, t3, cs3, fuel3, p3, q3, hg3, ht3, hvar3, hd3, _, _⟩, _⟩, _⟩, _⟩ := (show laidMet Tryd.prog Rows.fnExactTextDecRow.laid W from h)
  obtain rfl := Option.some.inj (powGlobal.symm.trans hg3)
  obtain rfl := Option.some.inj (powType.symm.trans ht3)
  rw [powData] at hd3
  unfold Tab Lib.TabIs
  rw [hvar3, ← Lib.cells_of_tab Tryd.underlying220 Tryd.underlying198 u64Cells powCells hd3]
set_option maxRecDepth 100000 in
/-- from the walk at every argument, the table at hand, to the lifted row -/
theorem law_lifted_tabs {H : Type} {enc : TypeId × Value → H} {os : Os} (started : os.Started) {F : Stop.Interp} {f : FuncId} {fn : Func} {s : ChangeSpec} {conds : List PathCond} {tb : TypeId} {laidL : List (String × DataW Unit)}
    (noInit : Tryd.prog.inits.idxOf? f = none) (hfun : Tryd.prog.funcs[f]? = some fn)
    (hr : legible Tryd.prog fn.params.toList = true) (hty : fn.resultTypes = #[tb]) (htb : Tryd.prog.underlying tb = some .bool) (hvars : s.vars = [])
    (htab : ∀ W, laidMetH Tryd.prog laidL W → Tab W)
    (witness : ∃ (w : World) (tape : Tape) (i : Input), w.os = os ∧ (w.forCall tape i).Shaped Tryd.checked.prog ∧ i.vars = [] ∧ Input.okWide Tryd.checked.prog (w.forCall tape i) .any w.heap.size f i ∧
      (OpenSpec.ofChange s).preRow enc Tryd.checked.prog fn conds false laidL (w.forCall tape i).memory i.args ∧ Assume.holds {} Tryd.checked.prog (lone (Frame.enter Tryd.checked.prog f i.args .normal) [] (w.forCall tape i)))
    (walk : ∀ (W : World) (base : Nat) (args : Array Value) (ds : List (DataW H)) (p : List MemPlace),
      (∀ (j : Nat) t v, fn.params[j]? = some t → args[j]? = some v → Value.okWide Tryd.prog W .any base t v) →
      DataW.TrodAll enc Tryd.prog W 0 (fun _ => true) true fn.params.toList args.toList ds p → (∀ x ∈ p, x.block < W.heap.size) → Tab W →
      s.fn H ds = { results := [.lit (.bool true)], args := ds } ∧ Calls Tryd.prog f args W fun e W' => e = .returned (.bool true) ∧ Below W.heap.size W W') :
    ReturnsInHanded {} Tryd.checked os f .any ((OpenSpec.ofChange s).preRow enc Tryd.prog fn conds false laidL) (((OpenSpec.ofChange s).at F).post enc Tryd.prog fn false true false false) := by
  refine returnsInHanded_of_row (C := Tryd.checked) (s := OpenSpec.ofChange s) Tryd.own started noInit hfun witness ?_
  intro W base args ds gs before hval hW0 _ _ _ hL _ _
  have hW : DataW.Whole enc Tryd.prog fn.params.toList s.vars false W args.toList ds gs before := hW0
  have hW' := hW
  obtain ⟨p, q, hA, hV, rfl, _, _⟩ := hW
  rw [hvars] at hV
  obtain ⟨rfl, rfl⟩ := trodVars_none hV
  obtain ⟨hfn, hc⟩ := walk W base args ds p hval hA (fun x hx => hW'.lt x (by simpa using hx)) (htab W hL)
  refine hc.mono fun e W' ⟨he, hb⟩ => ?_
  subst he
  exact ⟨_, rfl, law_post Tryd.laidOut hr hty htb hvars hfn hW' hb⟩
theorem lawTextDec (s : ByteArray) (w : World) (ht : Tab w) :
    Calls Tryd.prog 5 #[.string s] w fun e w' => e = .returned (.bool true) ∧ Below w.heap.size w w' := by
  by_cases hl : s.size ≤ 1048576
  · exact lawTextDec_walk s (trD s).1 (trD s).2 w (fun W => specTextDec_any s W hl) (fun W h1 => implTextDec_any s W hl h1) ht hl (trD_sz s)
  · go_enter Tryd.func5, Tryd.ntmps5
    go_wp2
    go_ret
    exact ⟨rfl, Below.refl _ _⟩
set_option maxRecDepth 100000 in
theorem fnExactTextDec_met (os : Os) : laidMet Tryd.prog Rows.fnExactTextDecRow.laid ((utfWorld os).forCall (fun _ _ => 0) ⟨#[], #[.string ⟨#[]⟩], []⟩).memory :=
  laidMet_of_run' 8 (by kernel_rfl) (by kernel_rfl)
set_option maxRecDepth 100000 in
theorem fnExactTextDec_reads (os : Os) {H : Type} (enc : TypeId × Value → H) : ∃ places, DataW.whole enc Tryd.prog ((utfWorld os).forCall (fun _ _ => 0) ⟨#[], #[.string ⟨#[]⟩], []⟩).memory Tryd.f5.params.toList Rows.fnExactTextDecSpec.vars false (#[.string ⟨#[]⟩] : Array Value).toList 8 = some ([.lit (.string [])], [], places) :=
  ⟨[], by kernel_rfl⟩

set_option maxRecDepth 100000 in
theorem fnExactTextDec_lifted (os : Os) (started : os.Started) (H : Type) (enc : TypeId × Value → H) (F : Stop.Interp) :
    ReturnsInHanded {} Tryd.checked os 5 .any ((OpenSpec.ofChange Rows.fnExactTextDecSpec).preRow enc Tryd.prog Tryd.f5 Rows.fnExactTextDecRow.domain false Rows.fnExactTextDecRow.laid) (((OpenSpec.ofChange Rows.fnExactTextDecSpec).at F).post enc Tryd.prog Tryd.f5 false true false false) := by
  obtain ⟨places, hx⟩ := fnExactTextDec_reads os enc
  refine law_lifted_tabs started (by kernel_rfl) Tryd.func5 (by kernel_rfl) (tb := 4) (by kernel_rfl) Tryd.underlying4 rfl (fun _ h => fnExactTextDec_tab h)
    (witness_row_at (enc := enc) (C := Tryd.checked) false (utfWorld os) #[.string ⟨#[]⟩] rfl (by kernel_rfl) (by kernel_rfl) (by kernel_rfl)
      (OpenSpec.preRow_of_cond 8 hx (by kernel_rfl) (fun k hk => by cases hk) (by kernel_rfl) (fnExactTextDec_met os))) ?_
  intro W base args ds p hval hA _ ht
  rw [Tryd.params5] at hA hval
  obtain ⟨v0, d0, rfl, rfl, h0⟩ := trodAll_one hA
  obtain ⟨s, rfl, rfl, rfl, ms⟩ := open_string Tryd.underlying9 (hval 0 9 v0 rfl rfl) h0
  exact ⟨rfl, lawTextDec s W ht⟩

set_option maxRecDepth 100000 in
theorem fnExactTextDec_said : Rows.FnExactTextDecSaid :=
  OpenClaim.holds_of_cond 5 Tryd.f5 rfl rfl rfl rfl rfl rfl rfl ⟨rfl, rfl, rfl, rfl, rfl⟩ rfl rfl rfl rfl rfl (by kernel_rfl) Tryd.func5 (by kernel_rfl)
    (of_decide_eq_true (by kernel_rfl)) (by unfold Func.isWrapper; first | (rw [if_pos (by decide +kernel)]; kernel_rfl) | (rw [if_neg (by decide +kernel)]; exact ⟨rfl, rfl⟩))
    (fun os started H enc _ F => by rw [OpenClaim.pre_eq_preRow]; exact fnExactTextDec_lifted os started H enc F)

theorem fnExactTextDec_plain (f : FuncId) (fn : Func) (hf : Tryd.pinned.checked.prog.funcNamed "loop.example/g00793/laws.FnExactTextDec" = some f) (hfn : Tryd.pinned.checked.prog.funcs[f]? = some fn) :
    true = Tryd.pinned.checked.prog.looks [] ∧ ∀ (j : Nat) t, fn.params[j]? = some t → Tryd.pinned.checked.prog.wantsStandIn t = false := by
  obtain rfl : f = 5 := Option.some.inj ((show Tryd.prog.funcNamed "loop.example/g00793/laws.FnExactTextDec" = some 5 by kernel_rfl).symm.trans hf) |>.symm
  obtain rfl : fn = Tryd.f5 := (Option.some.inj (Tryd.func5.symm.trans hfn)).symm
  refine ⟨by kernel_rfl, fun j t ht => ?_⟩
  rw [Tryd.params5] at ht
  obtain rfl : t = 9 := by simpa using Array.mem_of_getElem? ht
  exact (show Tryd.prog.wantsStandIn 9 = false by kernel_rfl)

theorem fnExactTextDec_card : Rows.FnExactTextDecCardSaid :=
  Claim7.holds_tied_plain_at .later [] _ _ _ _ fnExactTextDec_said (fun _ h => by cases h) (by kernel_rfl) (fun _ h => by cases h) fnExactTextDec_row_tie rfl ⟨rfl, rfl⟩ (by kernel_rfl) rfl fnExactTextDec_plain (by kernel_rfl)
end Go.Proofs.YthfkdofnoomhaaaDoor
