/-
  For all arguments FnExactMoneySum returns true: sums of slices of amounts. No conditions beyond the card's own (the listed variables hold what the program's text lays).
-/
import Derived.Test.YtcenmdiblbooeaaDoorJA11
namespace Go.Proofs.YtcenmdiblbooeaaDoor
open Go.ChangeShapes Go.WideShapes Go.ChangeAt Go.RowKit
open Go.ChangeMaps (open_string shut_string)


set_option maxRecDepth 100000 in
theorem fnExactMoneySum_met (os : Os) : laidMet Tryd.prog Rows.fnExactMoneySumRow.laid ((curWorld os).forCall (fun _ _ => 0) ⟨#[], #[.string ⟨#[]⟩, .slice none 0 0], []⟩).memory :=
  laidMet_of_run' 8 (by kernel_rfl) (by kernel_rfl)
set_option maxRecDepth 100000 in
theorem fnExactMoneySum_reads (os : Os) {H : Type} (enc : TypeId × Value → H) : ∃ gs places, DataW.whole enc Tryd.prog ((curWorld os).forCall (fun _ _ => 0) ⟨#[], #[.string ⟨#[]⟩, .slice none 0 0], []⟩).memory Tryd.f13.params.toList Rows.fnExactMoneySumSpec.vars false (#[.string ⟨#[]⟩, .slice none 0 0] : Array Value).toList 8 = some ([.lit (.string []), .nil], gs, places) :=
  ⟨[Rows.laid_loop_example_g00793_impl_currencies], MemPlace.row ⟨0, 0, none⟩ 80, by kernel_rfl⟩

set_option maxRecDepth 100000 in
theorem fnExactMoneySum_lifted (os : Os) (started : os.Started) (H : Type) (enc : TypeId × Value → H) (F : Stop.Interp) :
    ReturnsInHanded {} Tryd.checked os 13 .any ((OpenSpec.ofChange Rows.fnExactMoneySumSpec).preRow enc Tryd.prog Tryd.f13 Rows.fnExactMoneySumRow.domain false Rows.fnExactMoneySumRow.laid) (((OpenSpec.ofChange Rows.fnExactMoneySumSpec).at F).post enc Tryd.prog Tryd.f13 false true false false) := by
  obtain ⟨gs, places, hx⟩ := fnExactMoneySum_reads os enc
  refine law_lifted_vars started (by kernel_rfl) Tryd.func13 (by kernel_rfl) (tb := 4) (by kernel_rfl) Tryd.underlying4 (by kernel_rfl)
    (witness_row_at (enc := enc) (C := Tryd.checked) false (curWorld os) #[.string ⟨#[]⟩, .slice none 0 0] rfl (by kernel_rfl) (by kernel_rfl) (by kernel_rfl)
      (OpenSpec.preRow_of_cond 8 hx (by kernel_rfl) (fun k hk => by cases hk) (by kernel_rfl) (fnExactMoneySum_met os))) ?_
  intro W base args ds p hval hA _ hL
  have ht := curTab_of (l := [("loop.example/g00793/impl.currencies", Rows.laid_loop_example_g00793_impl_currencies)]) (show laidMet Tryd.prog [("loop.example/g00793/impl.currencies", Rows.laid_loop_example_g00793_impl_currencies)] W from hL) (by simp)
  rw [Tryd.params13] at hA hval
  obtain ⟨v0, v1, d0, d1, p0, p1, rfl, rfl, rfl, h0, h1⟩ := trodAll_two hA
  obtain ⟨c, rfl, rfl, rfl, mc⟩ := open_string Tryd.underlying9 (hval 0 9 v0 rfl rfl) h0
  obtain ⟨l, rl, ml, ml2⟩ := arg_moneyL (hval 1 53 v1 rfl rfl) h1
  unfold maxLen at ml ml2
  exact ⟨fun gs hg => by
    match gs, hg with
    | [g], _ => rfl, lawMoneySum c v1 l W ht (by omega) (fun x hx => by have := ml2 x hx; unfold capM; omega) rl⟩

set_option maxRecDepth 100000 in
theorem fnExactMoneySum_said : Rows.FnExactMoneySumSaid :=
  OpenClaim.holds_of_cond 13 Tryd.f13 rfl rfl rfl rfl rfl rfl rfl ⟨rfl, rfl, rfl, rfl, rfl⟩ rfl rfl rfl rfl rfl (by kernel_rfl) Tryd.func13 (by kernel_rfl)
    (of_decide_eq_true (by kernel_rfl)) (by unfold Func.isWrapper; first | (rw [if_pos (by decide +kernel)]; kernel_rfl) | (rw [if_neg (by decide +kernel)]; exact ⟨rfl, rfl⟩))
    (fun os started H enc _ F => by rw [OpenClaim.pre_eq_preRow]; exact fnExactMoneySum_lifted os started H enc F)

theorem fnExactMoneySum_plain (f : FuncId) (fn : Func) (hf : Tryd.pinned.checked.prog.funcNamed "loop.example/g00793/laws.FnExactMoneySum" = some f) (hfn : Tryd.pinned.checked.prog.funcs[f]? = some fn) :
    true = Tryd.pinned.checked.prog.looks [] ∧ ∀ (j : Nat) t, fn.params[j]? = some t → Tryd.pinned.checked.prog.wantsStandIn t = false := by
  obtain rfl : f = 13 := Option.some.inj ((show Tryd.prog.funcNamed "loop.example/g00793/laws.FnExactMoneySum" = some 13 by kernel_rfl).symm.trans hf) |>.symm
  obtain rfl : fn = Tryd.f13 := (Option.some.inj (Tryd.func13.symm.trans hfn)).symm
  refine ⟨by kernel_rfl, fun j t ht => ?_⟩
  rw [Tryd.params13] at ht
  have ht2 := Array.mem_of_getElem? ht
  simp at ht2
  rcases ht2 with rfl | rfl
  · exact (show Tryd.prog.wantsStandIn 9 = false by kernel_rfl)
  · exact (show Tryd.prog.wantsStandIn 53 = false by kernel_rfl)

set_option maxRecDepth 100000 in
theorem fnExactMoneySum_card : Rows.FnExactMoneySumCardSaid :=
  Claim7.holds_tied_plain_at .later [] _ _ _ _ fnExactMoneySum_said (fun _ h => by cases h) (by kernel_rfl) (fun _ h => by cases h) fnExactMoneySum_row_tie rfl ⟨rfl, rfl⟩ (by kernel_rfl) rfl fnExactMoneySum_plain (by kernel_rfl)
end Go.Proofs.YtcenmdiblbooeaaDoor
