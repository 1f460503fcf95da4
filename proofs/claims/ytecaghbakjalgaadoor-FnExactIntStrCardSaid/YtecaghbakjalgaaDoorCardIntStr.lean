/-
  For all arguments FnExactIntStr returns true; no conditions beyond the card's own (the library's number tables hold what the program's text lays).
-/
import Derived.Test.YtecaghbakjalgaaDoorLaidLaw
import Derived.Test.YtecaghbakjalgaaDoorSignedArg
import Derived.Test.YtecaghbakjalgaaDoorSignTextLaw
namespace Go.Proofs.YtecaghbakjalgaaDoor
open Go.ChangeShapes Go.WideShapes Go.ChangeAt Go.RowKit
open Go.ChangeMaps (open_string shut_string)

theorem fnExactIntStr_met (os : Os) : laidMet Tryd.prog Rows.fnExactIntStrRow.laid ((laidWorld os).forCall (fun _ _ => 0) ⟨#[], #[.agg #[.bool false, .slice none 0 0]], []⟩).memory :=
  laidMet_of_run' 8 (by kernel_rfl) (by kernel_rfl)
theorem fnExactIntStr_reads (os : Os) {H : Type} (enc : TypeId × Value → H) : ∃ places, DataW.whole enc Tryd.prog ((laidWorld os).forCall (fun _ _ => 0) ⟨#[], #[.agg #[.bool false, .slice none 0 0]], []⟩).memory Tryd.f4.params.toList Rows.fnExactIntStrSpec.vars false (#[.agg #[.bool false, .slice none 0 0]] : Array Value).toList 8 = some ([.agg [.lit (.bool false), .nil]], [], places) :=
  ⟨[], by kernel_rfl⟩

set_option maxRecDepth 100000 in
theorem fnExactIntStr_lifted (os : Os) (started : os.Started) (H : Type) (enc : TypeId × Value → H) (F : Stop.Interp) :
    ReturnsInHanded {} Tryd.checked os 4 .any ((OpenSpec.ofChange Rows.fnExactIntStrSpec).preRow enc Tryd.prog Tryd.f4 Rows.fnExactIntStrRow.domain false Rows.fnExactIntStrRow.laid) (((OpenSpec.ofChange Rows.fnExactIntStrSpec).at F).post enc Tryd.prog Tryd.f4 false true false false) := by
  obtain ⟨places, hx⟩ := fnExactIntStr_reads os enc
  refine law_lifted_laid started (by kernel_rfl) Tryd.func4 (by kernel_rfl) (tb := 4) (by kernel_rfl) Tryd.underlying4 rfl
    (witness_row_at (enc := enc) (C := Tryd.checked) false (laidWorld os) #[.agg #[.bool false, .slice none 0 0]] rfl (by kernel_rfl) (by kernel_rfl) (by kernel_rfl)
      (OpenSpec.preRow_of_cond 8 hx (by kernel_rfl) (fun k hk => by cases hk) (by kernel_rfl) (fnExactIntStr_met os))) ?_
  intro W base args ds p hval hA _ ht
  rw [Tryd.params4] at hA hval
  obtain ⟨v0, d0, rfl, rfl, h0⟩ := trodAll_one hA
  obtain ⟨a, ra, ma⟩ := arg_signed (hval 0 42 v0 rfl rfl) h0
  unfold maxLen at ma
  exact ⟨rfl, lawIntStr v0 a W (fun hl u W h ht => implIntStr_any u a W hl h.rd ht) (by omega) ra ht⟩

theorem fnExactIntStr_said : Rows.FnExactIntStrSaid :=
  OpenClaim.holds_of_cond 4 Tryd.f4 rfl rfl rfl rfl rfl rfl rfl ⟨rfl, rfl, rfl, rfl, rfl⟩ rfl rfl rfl rfl rfl (by kernel_rfl) Tryd.func4 (by kernel_rfl)
    (of_decide_eq_true (by kernel_rfl)) (by unfold Func.isWrapper; first | (rw [if_pos (by decide +kernel)]; kernel_rfl) | (rw [if_neg (by decide +kernel)]; exact ⟨rfl, rfl⟩))
    (fun os started H enc _ F => by rw [OpenClaim.pre_eq_preRow]; exact fnExactIntStr_lifted os started H enc F)

theorem fnExactIntStr_plain (f : FuncId) (fn : Func) (hf : Tryd.pinned.checked.prog.funcNamed "loop.example/g00793/laws.FnExactIntStr" = some f) (hfn : Tryd.pinned.checked.prog.funcs[f]? = some fn) :
    false = Tryd.pinned.checked.prog.looks [] ∧ ∀ (j : Nat) t, fn.params[j]? = some t → Tryd.pinned.checked.prog.wantsStandIn t = false := by
  obtain rfl : f = 4 := Option.some.inj ((show Tryd.prog.funcNamed "loop.example/g00793/laws.FnExactIntStr" = some 4 by kernel_rfl).symm.trans hf) |>.symm
  obtain rfl : fn = Tryd.f4 := (Option.some.inj (Tryd.func4.symm.trans hfn)).symm
  refine ⟨by kernel_rfl, fun j t ht => ?_⟩
  rw [Tryd.params4] at ht
  obtain rfl : t = 42 := by simpa using Array.mem_of_getElem? ht
  exact (show Tryd.prog.wantsStandIn 42 = false by kernel_rfl)

theorem fnExactIntStr_card : Rows.FnExactIntStrCardSaid :=
  Claim7.holds_tied_plain_at .later [] _ _ _ _ fnExactIntStr_said (fun _ h => by cases h) (by kernel_rfl) (fun _ h => by cases h) fnExactIntStr_row_tie rfl ⟨rfl, rfl⟩ (by kernel_rfl) rfl fnExactIntStr_plain (by kernel_rfl)
end Go.Proofs.YtecaghbakjalgaaDoor
