/-
  For all arguments the law FnExactSharesEven of chapter 13 returns true: the even parts are those that the model gives, in memory of their own. No conditions beyond the card's own (the listed variable holds what the program's text lays).
-/
import Derived.Test.YtofehcpapdlcnabGreatDoorJE12
namespace Go.Proofs.YtofehcpapdlcnabGreatDoor
open Go.ChangeShapes Go.WideShapes Go.ChangeAt Go.RowKit
open Go.ChangeMaps (open_string shut_string)

set_option maxRecDepth 100000 in
theorem fnExactSharesEven_met (os : Os) : laidMet Tryz.prog Rows.fnExactSharesEvenRow.laid ((senWorld os).forCall (fun _ _ => 0) ⟨#[], #[.agg #[.bool false, .slice none 0 0], .int .i64 0], []⟩).memory :=
  laidMet_of_run' 8 (by kernel_rfl) (by kernel_rfl)
set_option maxRecDepth 100000 in
theorem fnExactSharesEven_reads (os : Os) {H : Type} (enc : TypeId × Value → H) : ∃ gs places, DataW.whole enc Tryz.prog ((senWorld os).forCall (fun _ _ => 0) ⟨#[], #[.agg #[.bool false, .slice none 0 0], .int .i64 0], []⟩).memory Tryz.f5.params.toList Rows.fnExactSharesEvenSpec.vars false (#[.agg #[.bool false, .slice none 0 0], .int .i64 0] : Array Value).toList 8 = some ([.agg [.lit (.bool false), .nil], .lit (.int .i64 0)], gs, places) :=
  ⟨[tok enc (.iface 186 (.pointer (some ⟨low, 0, none⟩)))], [.cell 1 0], by kernel_rfl⟩

set_option maxRecDepth 100000 in
theorem fnExactSharesEven_lifted (os : Os) (started : os.Started) (H : Type) (enc : TypeId × Value → H) (F : Stop.Interp) :
    ReturnsInHanded {} Tryz.checked os 5 .any ((OpenSpec.ofChange Rows.fnExactSharesEvenSpec).preRow enc Tryz.prog Tryz.f5 Rows.fnExactSharesEvenRow.domain false Rows.fnExactSharesEvenRow.laid) (((OpenSpec.ofChange Rows.fnExactSharesEvenSpec).at F).post enc Tryz.prog Tryz.f5 false true false false) := by
  obtain ⟨gs, places, hx⟩ := fnExactSharesEven_reads os enc
  refine law_lifted_sen started (by kernel_rfl) Tryz.func5 (by kernel_rfl) (tb := 4) (by kernel_rfl) Tryz.underlying4 rfl (fun W h => sen_of (show laidMet Tryz.prog [("loop.example/g00793/impl.errZeroDivisor", Rows.laid_loop_example_g00793_impl_errZeroDivisor)] W from h))
    (witness_row_at (enc := enc) (C := Tryz.checked) false (senWorld os) #[.agg #[.bool false, .slice none 0 0], .int .i64 0] rfl (by kernel_rfl) (by kernel_rfl) (by kernel_rfl)
      (OpenSpec.preRow_of_cond 8 hx (by kernel_rfl) (fun k hk => by cases hk) (by kernel_rfl) (fnExactSharesEven_met os))) ?_
  intro W base args ds p hval hA _ hL hs
  rw [Tryz.params5] at hA hval
  obtain ⟨v0, v1, d0, d1, p0, p1, rfl, rfl, rfl, h0, h1⟩ := trodAll_two hA
  obtain ⟨x, rx, mx⟩ := arg_signed (hval 0 24 v0 rfl rfl) h0
  unfold maxLen at mx
  have hcx : capS x := by unfold capS; omega
  obtain ⟨n, rfl, rfl, rfl, wn⟩ := open_int Tryz.underlying3 (hval 1 3 v1 rfl rfl) h1
  have jn : -9223372036854775808 ≤ n ∧ n ≤ 9223372036854775807 := by simpa [Lit.wf, IntKind.min, IntKind.max, IntKind.signed, IntKind.bits] using wn
  exact ⟨fun _ => rfl, lawSharesEven v0 x n W (fun hlx ux W hx hs => implSharesEven_any ux x n W (by unfold szS szI at hlx; omega) hx hs) jn.1 jn.2 hcx trivial hs rx⟩

set_option maxRecDepth 100000 in
theorem fnExactSharesEven_said : Rows.FnExactSharesEvenSaid :=
  OpenClaim.holds_of_cond 5 Tryz.f5 rfl rfl rfl rfl rfl rfl rfl ⟨rfl, rfl, rfl, rfl, rfl⟩ rfl rfl rfl rfl rfl (by kernel_rfl) Tryz.func5 (by kernel_rfl)
    (of_decide_eq_true (by kernel_rfl)) (by unfold Func.isWrapper; first | (rw [if_pos (by decide +kernel)]; kernel_rfl) | (rw [if_neg (by decide +kernel)]; exact ⟨rfl, rfl⟩))
    (fun os started H enc _ F => by rw [OpenClaim.pre_eq_preRow]; exact fnExactSharesEven_lifted os started H enc F)

theorem fnExactSharesEven_plain (f : FuncId) (fn : Func) (hf : Tryz.pinned.checked.prog.funcNamed "loop.example/g00793/laws.FnExactSharesEven" = some f) (hfn : Tryz.pinned.checked.prog.funcs[f]? = some fn) :
    true = Tryz.pinned.checked.prog.looks [] ∧ ∀ (j : Nat) t, fn.params[j]? = some t → Tryz.pinned.checked.prog.wantsStandIn t = false := by
  obtain rfl : f = 5 := Option.some.inj ((show Tryz.prog.funcNamed "loop.example/g00793/laws.FnExactSharesEven" = some 5 by kernel_rfl).symm.trans hf) |>.symm
  obtain rfl : fn = Tryz.f5 := (Option.some.inj (Tryz.func5.symm.trans hfn)).symm
  refine ⟨by kernel_rfl, fun j t ht => ?_⟩
  rw [Tryz.params5] at ht
  have ht2 := Array.mem_of_getElem? ht
  simp at ht2
  rcases ht2 with rfl | rfl
  · exact (show Tryz.prog.wantsStandIn 24 = false by kernel_rfl)
  · exact (show Tryz.prog.wantsStandIn 3 = false by kernel_rfl)

set_option maxRecDepth 100000 in
theorem fnExactSharesEven_card : Rows.FnExactSharesEvenCardSaid :=
  Claim7.holds_tied_plain_at .later [] _ _ _ _ fnExactSharesEven_said (fun _ h => by cases h) (by kernel_rfl) (fun _ h => by cases h) fnExactSharesEven_row_tie rfl ⟨rfl, rfl⟩ (by kernel_rfl) rfl fnExactSharesEven_plain (by kernel_rfl)
end Go.Proofs.YtofehcpapdlcnabGreatDoor
