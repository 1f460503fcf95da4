/-
  For all arguments FnExactShareMoney returns true: the amounts are those that the model gives, in memory of their own. No conditions beyond the card's own (the listed variables hold what the program's text lays).
-/
import Derived.Test.YtofehcpapdlcnabGreatDoorJD13
namespace Go.Proofs.YtofehcpapdlcnabGreatDoor
open Go.ChangeShapes Go.WideShapes Go.ChangeAt Go.RowKit
open Go.ChangeMaps (open_string shut_string)


set_option maxRecDepth 100000 in
theorem fnExactShareMoney_met (os : Os) : laidMet Tryz.prog Rows.fnExactShareMoneyRow.laid ((curSenWorld os).forCall (fun _ _ => 0) ⟨#[], #[.agg #[.string ⟨#[]⟩, .bool false, .slice none 0 0], .slice none 0 0], []⟩).memory :=
  laidMet_of_run' 8 (by kernel_rfl) (by kernel_rfl)
set_option maxRecDepth 100000 in
theorem fnExactShareMoney_reads (os : Os) {H : Type} (enc : TypeId × Value → H) : ∃ gs places, DataW.whole enc Tryz.prog ((curSenWorld os).forCall (fun _ _ => 0) ⟨#[], #[.agg #[.string ⟨#[]⟩, .bool false, .slice none 0 0], .slice none 0 0], []⟩).memory Tryz.f6.params.toList Rows.fnExactShareMoneySpec.vars false (#[.agg #[.string ⟨#[]⟩, .bool false, .slice none 0 0], .slice none 0 0] : Array Value).toList 8 = some ([.agg [.lit (.string []), .agg [.lit (.bool false), .nil]], .nil], gs, places) :=
  ⟨[tok enc (.iface 186 (.pointer (some ⟨low, 0, none⟩))), Rows.laid_loop_example_g00793_impl_currencies], [.cell 1 0] ++ MemPlace.row ⟨0, 0, none⟩ 80, by kernel_rfl⟩

set_option maxRecDepth 100000 in
theorem fnExactShareMoney_lifted (os : Os) (started : os.Started) (H : Type) (enc : TypeId × Value → H) (F : Stop.Interp) :
    ReturnsInHanded {} Tryz.checked os 6 .any ((OpenSpec.ofChange Rows.fnExactShareMoneySpec).preRow enc Tryz.prog Tryz.f6 Rows.fnExactShareMoneyRow.domain false Rows.fnExactShareMoneyRow.laid) (((OpenSpec.ofChange Rows.fnExactShareMoneySpec).at F).post enc Tryz.prog Tryz.f6 false true false false) := by
  obtain ⟨gs, places, hx⟩ := fnExactShareMoney_reads os enc
  refine law_lifted_vars started (by kernel_rfl) Tryz.func6 (by kernel_rfl) (tb := 4) (by kernel_rfl) Tryz.underlying4 (by kernel_rfl)
    (witness_row_at (enc := enc) (C := Tryz.checked) false (curSenWorld os) #[.agg #[.string ⟨#[]⟩, .bool false, .slice none 0 0], .slice none 0 0] rfl (by kernel_rfl) (by kernel_rfl) (by kernel_rfl)
      (OpenSpec.preRow_of_cond 8 hx (by kernel_rfl) (fun k hk => by cases hk) (by kernel_rfl) (fnExactShareMoney_met os))) ?_
  intro W base args ds p hval hA _ hL
  have ht := curTab_of (l := [("loop.example/g00793/impl.errZeroDivisor", Rows.laid_loop_example_g00793_impl_errZeroDivisor), ("loop.example/g00793/impl.currencies", Rows.laid_loop_example_g00793_impl_currencies)]) (show laidMet Tryz.prog [("loop.example/g00793/impl.errZeroDivisor", Rows.laid_loop_example_g00793_impl_errZeroDivisor), ("loop.example/g00793/impl.currencies", Rows.laid_loop_example_g00793_impl_currencies)] W from hL) (by simp)
  rw [Tryz.params6] at hA hval
  obtain ⟨asen, hsen⟩ := sen_of (show laidMet Tryz.prog [("loop.example/g00793/impl.errZeroDivisor", Rows.laid_loop_example_g00793_impl_errZeroDivisor), ("loop.example/g00793/impl.currencies", Rows.laid_loop_example_g00793_impl_currencies)] W from hL)
  have hse : Sen W := hsen.sen
  obtain ⟨v0, v1, d0, d1, p0, p1, rfl, rfl, rfl, h0, h1⟩ := trodAll_two hA
  obtain ⟨m, rm, mm, mm2⟩ := arg_money (hval 0 47 v0 rfl rfl) h0
  unfold maxLen at mm mm2
  have hcm : capM m := by unfold capM; omega
  obtain ⟨ws, rws, mws, _⟩ := arg_ints Tryz.underlying22 Tryz.underlying3 (by kernel_rfl) (hval 1 22 v1 rfl rfl) h1
  unfold maxLen at mws
  exact ⟨fun gs hg => by
    match gs, hg with
    | [g1, g2], _ => rfl, lawShareMoney v0 v1 m ws W (fun hlm hlw um uw W hm hw h1 h2 => implShareMoney_any um uw m ws 0 W.heap.size W (szS_lenM hlm) hlw (Nat.le_refl _) hm (OwnI.row hw) h1 h2) hcm (by omega) ht hse rm rws⟩

set_option maxRecDepth 100000 in
theorem fnExactShareMoney_said : Rows.FnExactShareMoneySaid :=
  OpenClaim.holds_of_cond 6 Tryz.f6 rfl rfl rfl rfl rfl rfl rfl ⟨rfl, rfl, rfl, rfl, rfl⟩ rfl rfl rfl rfl rfl (by kernel_rfl) Tryz.func6 fnExactShareMoney_closed
    (of_decide_eq_true (by kernel_rfl)) (by unfold Func.isWrapper; first | (rw [if_pos (by decide +kernel)]; kernel_rfl) | (rw [if_neg (by decide +kernel)]; exact ⟨rfl, rfl⟩))
    (fun os started H enc _ F => by rw [OpenClaim.pre_eq_preRow]; exact fnExactShareMoney_lifted os started H enc F)

theorem fnExactShareMoney_plain (f : FuncId) (fn : Func) (hf : Tryz.pinned.checked.prog.funcNamed "loop.example/g00793/laws.FnExactShareMoney" = some f) (hfn : Tryz.pinned.checked.prog.funcs[f]? = some fn) :
    true = Tryz.pinned.checked.prog.looks [] ∧ ∀ (j : Nat) t, fn.params[j]? = some t → Tryz.pinned.checked.prog.wantsStandIn t = false := by
  obtain rfl : f = 6 := Option.some.inj ((show Tryz.prog.funcNamed "loop.example/g00793/laws.FnExactShareMoney" = some 6 by kernel_rfl).symm.trans hf) |>.symm
  obtain rfl : fn = Tryz.f6 := (Option.some.inj (Tryz.func6.symm.trans hfn)).symm
  refine ⟨by kernel_rfl, fun j t ht => ?_⟩
  rw [Tryz.params6] at ht
  have ht2 := Array.mem_of_getElem? ht
  simp at ht2
  rcases ht2 with rfl | rfl
  · exact (show Tryz.prog.wantsStandIn 47 = false by kernel_rfl)
  · exact (show Tryz.prog.wantsStandIn 22 = false by kernel_rfl)

set_option maxRecDepth 100000 in
theorem fnExactShareMoney_card : Rows.FnExactShareMoneyCardSaid :=
  Claim7.holds_tied_plain_at .later [] _ _ _ _ fnExactShareMoney_said (fun _ h => by cases h) (by kernel_rfl) (fun _ h => by cases h) fnExactShareMoney_row_tie rfl ⟨rfl, rfl⟩ (by kernel_rfl) rfl fnExactShareMoney_plain fnExactShareMoney_goes
end Go.Proofs.YtofehcpapdlcnabGreatDoor
