/-
  For all arguments the law FnExactShares of chapter 13 returns true: the parts are those that the model gives, in memory of their own. No conditions beyond the card's own (the listed variable holds what the program's text lays).
-/
import Derived.Test.YtofehcpapdlcnabGreatDoorJC13
namespace Go.Proofs.YtofehcpapdlcnabGreatDoor
open Go.ChangeShapes Go.WideShapes Go.ChangeAt Go.RowKit
open Go.ChangeMaps (open_string shut_string)

set_option maxRecDepth 100000 in
theorem fnExactShares_met (os : Os) : laidMet Tryz.prog Rows.fnExactSharesRow.laid ((senWorld os).forCall (fun _ _ => 0) ⟨#[], #[.agg #[.bool false, .slice none 0 0], .slice none 0 0], []⟩).memory :=
  laidMet_of_run' 8 (by kernel_rfl) (by kernel_rfl)
set_option maxRecDepth 100000 in
theorem fnExactShares_reads (os : Os) {H : Type} (enc : TypeId × Value → H) : ∃ gs places, DataW.whole enc Tryz.prog ((senWorld os).forCall (fun _ _ => 0) ⟨#[], #[.agg #[.bool false, .slice none 0 0], .slice none 0 0], []⟩).memory Tryz.f4.params.toList Rows.fnExactSharesSpec.vars false (#[.agg #[.bool false, .slice none 0 0], .slice none 0 0] : Array Value).toList 8 = some ([.agg [.lit (.bool false), .nil], .nil], gs, places) :=
  ⟨[tok enc (.iface 186 (.pointer (some ⟨low, 0, none⟩)))], [.cell 1 0], by kernel_rfl⟩

set_option maxRecDepth 100000 in
theorem fnExactShares_lifted (os : Os) (started : os.Started) (H : Type) (enc : TypeId × Value → H) (F : Stop.Interp) :
    ReturnsInHanded {} Tryz.checked os 4 .any ((OpenSpec.ofChange Rows.fnExactSharesSpec).preRow enc Tryz.prog Tryz.f4 Rows.fnExactSharesRow.domain false Rows.fnExactSharesRow.laid) (((OpenSpec.ofChange Rows.fnExactSharesSpec).at F).post enc Tryz.prog Tryz.f4 false true false false) := by
  obtain ⟨gs, places, hx⟩ := fnExactShares_reads os enc
  refine law_lifted_sen started (by kernel_rfl) Tryz.func4 (by kernel_rfl) (tb := 4) (by kernel_rfl) Tryz.underlying4 rfl (fun W h => sen_of (show laidMet Tryz.prog [("loop.example/g00793/impl.errZeroDivisor", Rows.laid_loop_example_g00793_impl_errZeroDivisor)] W from h))
    (witness_row_at (enc := enc) (C := Tryz.checked) false (senWorld os) #[.agg #[.bool false, .slice none 0 0], .slice none 0 0] rfl (by kernel_rfl) (by kernel_rfl) (by kernel_rfl)
      (OpenSpec.preRow_of_cond 8 hx (by kernel_rfl) (fun k hk => by cases hk) (by kernel_rfl) (fnExactShares_met os))) ?_
  intro W base args ds p hval hA _ hL hs
  rw [Tryz.params4] at hA hval
  obtain ⟨v0, v1, d0, d1, p0, p1, rfl, rfl, rfl, h0, h1⟩ := trodAll_two hA
  obtain ⟨x, rx, mx⟩ := arg_signed (hval 0 24 v0 rfl rfl) h0
  unfold maxLen at mx
  have hcx : capS x := by unfold capS; omega
  obtain ⟨ws, rws, mws, _⟩ := arg_ints Tryz.underlying22 Tryz.underlying3 (by kernel_rfl) (hval 1 22 v1 rfl rfl) h1
  unfold maxLen at mws
  exact ⟨fun _ => rfl, lawShares v0 v1 x ws W (fun hlx hlw ux uw W hx hw hs => (implShares_any ux uw x ws 0 W.heap.size W (by unfold szS szI at hlx; omega) hlw (Nat.le_refl _) hx (OwnI.row hw) hs).mono fun _ _ h => sharesPost_lb h) hcx (by omega) hs rx rws⟩

set_option maxRecDepth 100000 in
theorem fnExactShares_said : Rows.FnExactSharesSaid :=
  OpenClaim.holds_of_cond 4 Tryz.f4 rfl rfl rfl rfl rfl rfl rfl ⟨rfl, rfl, rfl, rfl, rfl⟩ rfl rfl rfl rfl rfl (by kernel_rfl) Tryz.func4 (by kernel_rfl)
    (of_decide_eq_true (by kernel_rfl)) (by unfold Func.isWrapper; first | (rw [if_pos (by decide +kernel)]; kernel_rfl) | (rw [if_neg (by decide +kernel)]; exact ⟨rfl, rfl⟩))
    (fun os started H enc _ F => by rw [OpenClaim.pre_eq_preRow]; exact fnExactShares_lifted os started H enc F)

theorem fnExactShares_plain (f : FuncId) (fn : Func) (hf : Tryz.pinned.checked.prog.funcNamed "loop.example/g00793/laws.FnExactShares" = some f) (hfn : Tryz.pinned.checked.prog.funcs[f]? = some fn) :
    true = Tryz.pinned.checked.prog.looks [] ∧ ∀ (j : Nat) t, fn.params[j]? = some t → Tryz.pinned.checked.prog.wantsStandIn t = false := by
  obtain rfl : f = 4 := Option.some.inj ((show Tryz.prog.funcNamed "loop.example/g00793/laws.FnExactShares" = some 4 by kernel_rfl).symm.trans hf) |>.symm
  obtain rfl : fn = Tryz.f4 := (Option.some.inj (Tryz.func4.symm.trans hfn)).symm
  refine ⟨by kernel_rfl, fun j t ht => ?_⟩
  rw [Tryz.params4] at ht
  have ht2 := Array.mem_of_getElem? ht
  simp at ht2
  rcases ht2 with rfl | rfl
  · exact (show Tryz.prog.wantsStandIn 24 = false by kernel_rfl)
  · exact (show Tryz.prog.wantsStandIn 22 = false by kernel_rfl)

set_option maxRecDepth 100000 in
theorem fnExactShares_card : Rows.FnExactSharesCardSaid :=
  Claim7.holds_tied_plain_at .later [] _ _ _ _ fnExactShares_said (fun _ h => by cases h) (by kernel_rfl) (fun _ h => by cases h) fnExactShares_row_tie rfl ⟨rfl, rfl⟩ (by kernel_rfl) rfl fnExactShares_plain (by kernel_rfl)
end Go.Proofs.YtofehcpapdlcnabGreatDoor
