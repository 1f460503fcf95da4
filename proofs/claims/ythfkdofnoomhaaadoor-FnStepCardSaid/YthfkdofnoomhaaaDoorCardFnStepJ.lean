/-
  For every code the law FnStep returns true: rounding to a step gives a multiple of it, less than a step away, and once more the same. No conditions beyond the card's own (the listed variable holds what the program's text lays).
-/
import Derived.Test.YthfkdofnoomhaaaDoorJA11
namespace Go.Proofs.YthfkdofnoomhaaaDoor
open Go.ChangeShapes Go.WideShapes Go.ChangeAt Go.RowKit

set_option maxRecDepth 100000 in
theorem fnStep_met (os : Os) : laidMet Tryd.prog Rows.fnStepRow.laid ((senWorld os).forCall (fun _ _ => 0) ⟨#[], #[.slice none 0 0], []⟩).memory :=
  laidMet_of_run' 8 (by kernel_rfl) (by kernel_rfl)
set_option maxRecDepth 100000 in
theorem fnStep_reads (os : Os) {H : Type} (enc : TypeId × Value → H) : ∃ gs places, DataW.whole enc Tryd.prog ((senWorld os).forCall (fun _ _ => 0) ⟨#[], #[.slice none 0 0], []⟩).memory Tryd.f9.params.toList Rows.fnStepSpec.vars false (#[.slice none 0 0] : Array Value).toList 8 = some ([.nil], gs, places) :=
  ⟨[tok enc (.iface 226 (.pointer (some ⟨low, 0, none⟩)))], [.cell 0 0], by kernel_rfl⟩

set_option maxRecDepth 100000 in
theorem fnStep_lifted (os : Os) (started : os.Started) (H : Type) (enc : TypeId × Value → H) (F : Stop.Interp) :
    ReturnsInHanded {} Tryd.checked os 9 .any ((OpenSpec.ofChange Rows.fnStepSpec).preRow enc Tryd.prog Tryd.f9 Rows.fnStepRow.domain false Rows.fnStepRow.laid) (((OpenSpec.ofChange Rows.fnStepSpec).at F).post enc Tryd.prog Tryd.f9 false true false false) := by
  obtain ⟨gs, places, hx⟩ := fnStep_reads os enc
  refine law_lifted_sen started (by kernel_rfl) Tryd.func9 (by kernel_rfl) (tb := 4) (by kernel_rfl) Tryd.underlying4 rfl (fun W h => sen_of (show laidMet Tryd.prog [("loop.example/g00793/impl.errZeroDivisor", Rows.laid_loop_example_g00793_impl_errZeroDivisor)] W from h))
    (witness_row_at (enc := enc) (C := Tryd.checked) false (senWorld os) #[.slice none 0 0] rfl (by kernel_rfl) (by kernel_rfl) (by kernel_rfl)
      (OpenSpec.preRow_of_cond 8 hx (by kernel_rfl) (fun k hk => by cases hk) (by kernel_rfl) (fnStep_met os))) ?_
  intro W base args ds p hval hA _ hL hs
  rw [Tryd.params9] at hA hval
  obtain ⟨v0, d0, rfl, rfl, h0⟩ := trodAll_one hA
  obtain ⟨bs, hr, hl, hb⟩ := arg_bytes Tryd.underlying55 Tryd.underlying5 (by kernel_rfl) (hval 0 55 v0 rfl rfl) h0
  exact ⟨fun _ => rfl, lawStep v0 bs W hb (by unfold maxLen at hl; omega) hr hs⟩

set_option maxRecDepth 100000 in
theorem fnStep_said : Rows.FnStepSaid :=
  OpenClaim.holds_of_cond 9 Tryd.f9 rfl rfl rfl rfl rfl rfl rfl ⟨rfl, rfl, rfl, rfl, rfl⟩ rfl rfl rfl rfl rfl (by kernel_rfl) Tryd.func9 (by kernel_rfl)
    (of_decide_eq_true (by kernel_rfl)) (by unfold Func.isWrapper; first | (rw [if_pos (by decide +kernel)]; kernel_rfl) | (rw [if_neg (by decide +kernel)]; exact ⟨rfl, rfl⟩))
    (fun os started H enc _ F => by rw [OpenClaim.pre_eq_preRow]; exact fnStep_lifted os started H enc F)

theorem fnStep_plain (f : FuncId) (fn : Func) (hf : Tryd.pinned.checked.prog.funcNamed "loop.example/g00793/laws.FnStep" = some f) (hfn : Tryd.pinned.checked.prog.funcs[f]? = some fn) :
    true = Tryd.pinned.checked.prog.looks [] ∧ ∀ (j : Nat) t, fn.params[j]? = some t → Tryd.pinned.checked.prog.wantsStandIn t = false := by
  obtain rfl : f = 9 := Option.some.inj ((show Tryd.prog.funcNamed "loop.example/g00793/laws.FnStep" = some 9 by kernel_rfl).symm.trans hf) |>.symm
  obtain rfl : fn = Tryd.f9 := (Option.some.inj (Tryd.func9.symm.trans hfn)).symm
  refine ⟨by kernel_rfl, fun j t ht => ?_⟩
  rw [Tryd.params9] at ht
  obtain rfl : t = 55 := by simpa using Array.mem_of_getElem? ht
  exact (show Tryd.prog.wantsStandIn 55 = false by kernel_rfl)

set_option maxRecDepth 100000 in
theorem fnStep_card : Rows.FnStepCardSaid :=
  Claim7.holds_tied_plain_at .later [] _ _ _ _ fnStep_said (fun _ h => by cases h) (by kernel_rfl) (fun _ h => by cases h) fnStep_row_tie rfl ⟨rfl, rfl⟩ (by kernel_rfl) rfl fnStep_plain (by kernel_rfl)
end Go.Proofs.YthfkdofnoomhaaaDoor
