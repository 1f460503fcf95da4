/-
  For all arguments the law FnExactSharesOk of chapter 13 returns true: SharesOk is the one that the model gives. No conditions beyond the card's own (the listed variable holds what the program's text lays).
-/
import Derived.Test.YtofehcpapdlcnabGreatDoorJC13
namespace Go.Proofs.YtofehcpapdlcnabGreatDoor
open Go.ChangeShapes Go.WideShapes Go.ChangeAt Go.RowKit
open Go.ChangeMaps (open_string shut_string)

set_option maxRecDepth 100000 in
theorem fnExactSharesOk_met (os : Os) : laidMet Tryz.prog Rows.fnExactSharesOkRow.laid ((senWorld os).forCall (fun _ _ => 0) ⟨#[], #[.agg #[.bool false, .slice none 0 0], .slice none 0 0, .slice none 0 0], []⟩).memory :=
  laidMet_of_run' 8 (by kernel_rfl) (by kernel_rfl)
set_option maxRecDepth 100000 in
theorem fnExactSharesOk_reads (os : Os) {H : Type} (enc : TypeId × Value → H) : ∃ gs places, DataW.whole enc Tryz.prog ((senWorld os).forCall (fun _ _ => 0) ⟨#[], #[.agg #[.bool false, .slice none 0 0], .slice none 0 0, .slice none 0 0], []⟩).memory Tryz.f3.params.toList Rows.fnExactSharesOkSpec.vars false (#[.agg #[.bool false, .slice none 0 0], .slice none 0 0, .slice none 0 0] : Array Value).toList 8 = some ([.agg [.lit (.bool false), .nil], .nil, .nil], gs, places) :=
  ⟨[tok enc (.iface 186 (.pointer (some ⟨low, 0, none⟩)))], [.cell 1 0], by kernel_rfl⟩

set_option maxRecDepth 100000 in
theorem fnExactSharesOk_lifted (os : Os) (started : os.Started) (H : Type) (enc : TypeId × Value → H) (F : Stop.Interp) :
    ReturnsInHanded {} Tryz.checked os 3 .any ((OpenSpec.ofChange Rows.fnExactSharesOkSpec).preRow enc Tryz.prog Tryz.f3 Rows.fnExactSharesOkRow.domain false Rows.fnExactSharesOkRow.laid) (((OpenSpec.ofChange Rows.fnExactSharesOkSpec).at F).post enc Tryz.prog Tryz.f3 false true false false) := by
  obtain ⟨gs, places, hx⟩ := fnExactSharesOk_reads os enc
  refine law_lifted_sen started (by kernel_rfl) Tryz.func3 (by kernel_rfl) (tb := 4) (by kernel_rfl) Tryz.underlying4 rfl (fun W h => sen_of (show laidMet Tryz.prog [("loop.example/g00793/impl.errZeroDivisor", Rows.laid_loop_example_g00793_impl_errZeroDivisor)] W from h))
    (witness_row_at (enc := enc) (C := Tryz.checked) false (senWorld os) #[.agg #[.bool false, .slice none 0 0], .slice none 0 0, .slice none 0 0] rfl (by kernel_rfl) (by kernel_rfl) (by kernel_rfl)
      (OpenSpec.preRow_of_cond 8 hx (by kernel_rfl) (fun k hk => by cases hk) (by kernel_rfl) (fnExactSharesOk_met os))) ?_
  intro W base args ds p hval hA _ hL hs
  rw [Tryz.params3] at hA hval
  obtain ⟨v0, v1, v2, d0, d1, d2, p0, p1, p2, rfl, rfl, rfl, h0, h1, h2⟩ := trodAll_three hA
  obtain ⟨x, rx, mx⟩ := arg_signed (hval 0 24 v0 rfl rfl) h0
  unfold maxLen at mx
  have hcx : capS x := by unfold capS; omega
  obtain ⟨ws, rws, mws, _⟩ := arg_ints Tryz.underlying22 Tryz.underlying3 (by kernel_rfl) (hval 1 22 v1 rfl rfl) h1
  unfold maxLen at mws
  obtain ⟨ps, rps, mps, nps⟩ := arg_signedL (hval 2 25 v2 rfl rfl) h2
  unfold maxLen at mps nps
  exact ⟨fun _ => rfl, lawSharesOk v0 v1 v2 x ws ps W (fun hlx hlw hlp ux uw up W hx hw hp hs => implSharesOk_any ux uw up x ws ps 0 W.heap.size W (by unfold szS szI at hlx; omega) hlw (Nat.le_refl _) hx (OwnI.row hw) hp hs) hcx ⟨mps, nps⟩ (by omega) hs rx rws rps⟩

set_option maxRecDepth 100000 in
theorem fnExactSharesOk_said : Rows.FnExactSharesOkSaid :=
  OpenClaim.holds_of_cond 3 Tryz.f3 rfl rfl rfl rfl rfl rfl rfl ⟨rfl, rfl, rfl, rfl, rfl⟩ rfl rfl rfl rfl rfl (by kernel_rfl) Tryz.func3 (by kernel_rfl)
    (of_decide_eq_true (by kernel_rfl)) (by unfold Func.isWrapper; first | (rw [if_pos (by decide +kernel)]; kernel_rfl) | (rw [if_neg (by decide +kernel)]; exact ⟨rfl, rfl⟩))
    (fun os started H enc _ F => by rw [OpenClaim.pre_eq_preRow]; exact fnExactSharesOk_lifted os started H enc F)

theorem fnExactSharesOk_plain (f : FuncId) (fn : Func) (hf : Tryz.pinned.checked.prog.funcNamed "loop.example/g00793/laws.FnExactSharesOk" = some f) (hfn : Tryz.pinned.checked.prog.funcs[f]? = some fn) :
    true = Tryz.pinned.checked.prog.looks [] ∧ ∀ (j : Nat) t, fn.params[j]? = some t → Tryz.pinned.checked.prog.wantsStandIn t = false := by
  obtain rfl : f = 3 := Option.some.inj ((show Tryz.prog.funcNamed "loop.example/g00793/laws.FnExactSharesOk" = some 3 by kernel_rfl).symm.trans hf) |>.symm
  obtain rfl : fn = Tryz.f3 := (Option.some.inj (Tryz.func3.symm.trans hfn)).symm
  refine ⟨by kernel_rfl, fun j t ht => ?_⟩
  rw [Tryz.params3] at ht
  have ht2 := Array.mem_of_getElem? ht
  simp at ht2
  rcases ht2 with rfl | rfl | rfl
  · exact (show Tryz.prog.wantsStandIn 24 = false by kernel_rfl)
  · exact (show Tryz.prog.wantsStandIn 22 = false by kernel_rfl)
  · exact (show Tryz.prog.wantsStandIn 25 = false by kernel_rfl)

set_option maxRecDepth 100000 in
theorem fnExactSharesOk_card : Rows.FnExactSharesOkCardSaid :=
  Claim7.holds_tied_plain_at .later [] _ _ _ _ fnExactSharesOk_said (fun _ h => by cases h) (by kernel_rfl) (fun _ h => by cases h) fnExactSharesOk_row_tie rfl ⟨rfl, rfl⟩ (by kernel_rfl) rfl fnExactSharesOk_plain (by kernel_rfl)
end Go.Proofs.YtofehcpapdlcnabGreatDoor
