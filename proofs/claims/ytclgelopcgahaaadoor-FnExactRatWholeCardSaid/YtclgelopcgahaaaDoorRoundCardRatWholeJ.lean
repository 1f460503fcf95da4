/-
  For all arguments the law FnExactRatWhole of chapter 7 returns true; no conditions beyond the card's own (the listed variable holds what the program's text lays).
-/
import Derived.Test.YtclgelopcgahaaaDoorJ9
namespace Go.Proofs.YtclgelopcgahaaaDoor
open Go.ChangeShapes Go.WideShapes Go.ChangeAt Go.RowKit
open Go.ChangeMaps (open_string shut_string)

set_option maxHeartbeats 1000000 in
set_option maxRecDepth 100000 in
theorem lawRatWhole (va : Value) (a : QI) (w : World)
    (hI : szQ a ≤ 1048576 → ∀ (ua : Value) (W : World), OwnQ ua a W → Sen W → Calls Tryd.prog 38 #[ua] W (Postb (wholeB a) W))
    (hca : capQ a) (ht0 : Sen w) (ra : RdQ w va a) :
    Calls Tryd.prog 7 #[va] w fun e w' => e = .returned (.bool true) ∧ Below w.heap.size w w' := by
  have hsa := szQ_nonneg a
  by_cases hl : szQ a ≤ 1048576
  · skip
    have hla : szQ a ≤ 1048576 := by omega
    exact lawRatWhole_walk va a (wholeB a) w (fun ua W ha => specRatWhole_any ua a W hla ha) (hI hla) ht0 hl  ra
  · skip
    obtain ⟨Aa, ca, Ba, da, rfl⟩ := rdQ_form ra
    have bb0 : Below w.heap.size w (w.alloc (.cells #[.bool a.1.1, .slice Aa a.1.2.length ca, .slice Ba a.2.length da] 53)) := below_al (Below.refl _ _) _
    have ka := (box_new w #[.bool a.1.1, .slice Aa a.1.2.length ca, .slice Ba a.2.length da] 53)
    go_enter Tryd.func7, Tryd.ntmps7
    have ka_c0 := ka.here.cell 0 _ rfl
    have ka_c1 := ka.here.cell 1 _ rfl
    have ka_c2 := ka.here.cell 2 _ rfl
    go_wp2_with fail
    clear ka_c0 ka_c1 ka_c2
    refine (szQ_cal _ a (1048576) _ hca (by omega) (by omega) (ra.below bb0)).mono ?_
    rintro e w1 ⟨rfl, b1⟩
    have bb1 := Below.next bb0 b1
    replace ka := ka.below b1
    rw [show leftI (1048576) (szQ a) = -1 by unfold leftI; rw [if_pos (by omega)]]
    go_wp2
    go_ret
    exact ⟨rfl, bb1⟩
set_option maxRecDepth 100000 in
theorem fnExactRatWhole_met (os : Os) : laidMet Tryd.prog Rows.fnExactRatWholeRow.laid ((senWorld os).forCall (fun _ _ => 0) ⟨#[], #[.agg #[.bool false, .slice none 0 0, .slice none 0 0]], []⟩).memory :=
  laidMet_of_run' 8 (by kernel_rfl) (by kernel_rfl)
set_option maxRecDepth 100000 in
theorem fnExactRatWhole_reads (os : Os) {H : Type} (enc : TypeId × Value → H) : ∃ gs places, DataW.whole enc Tryd.prog ((senWorld os).forCall (fun _ _ => 0) ⟨#[], #[.agg #[.bool false, .slice none 0 0, .slice none 0 0]], []⟩).memory Tryd.f7.params.toList Rows.fnExactRatWholeSpec.vars false (#[.agg #[.bool false, .slice none 0 0, .slice none 0 0]] : Array Value).toList 8 = some ([.agg [.agg [.lit (.bool false), .nil], .nil]], gs, places) :=
  ⟨[tok enc (.iface 144 (.pointer (some ⟨low, 0, none⟩)))], [.cell 0 0], by kernel_rfl⟩

set_option maxRecDepth 100000 in
theorem fnExactRatWhole_lifted (os : Os) (started : os.Started) (H : Type) (enc : TypeId × Value → H) (F : Stop.Interp) :
    ReturnsInHanded {} Tryd.checked os 7 .any ((OpenSpec.ofChange Rows.fnExactRatWholeSpec).preRow enc Tryd.prog Tryd.f7 Rows.fnExactRatWholeRow.domain false Rows.fnExactRatWholeRow.laid) (((OpenSpec.ofChange Rows.fnExactRatWholeSpec).at F).post enc Tryd.prog Tryd.f7 false true false false) := by
  obtain ⟨gs, places, hx⟩ := fnExactRatWhole_reads os enc
  refine law_lifted_sen started (by kernel_rfl) Tryd.func7 (by kernel_rfl) (tb := 4) (by kernel_rfl) Tryd.underlying4 rfl (fun W h => sen_of (show laidMet Tryd.prog [("loop.example/g00793/impl.errZeroDivisor", Rows.laid_loop_example_g00793_impl_errZeroDivisor)] W from h))
    (witness_row_at (enc := enc) (C := Tryd.checked) false (senWorld os) #[.agg #[.bool false, .slice none 0 0, .slice none 0 0]] rfl (by kernel_rfl) (by kernel_rfl) (by kernel_rfl)
      (OpenSpec.preRow_of_cond 8 hx (by kernel_rfl) (fun k hk => by cases hk) (by kernel_rfl) (fnExactRatWhole_met os))) ?_
  intro W base args ds p hval hA _ hL hs
  rw [Tryd.params7] at hA hval
  obtain ⟨v0, d0, rfl, rfl, h0⟩ := trodAll_one hA
  obtain ⟨a, ra, ma, ma2⟩ := arg_rat (hval 0 53 v0 rfl rfl) h0
  unfold maxLen at ma ma2
  have hca : capQ a := by unfold capQ; omega
  exact ⟨fun _ => rfl, lawRatWhole v0 a W (fun hla ua W ha hs => implRatWhole_any ua a W hla ha hs)  hca hs ra⟩

set_option maxRecDepth 100000 in
theorem fnExactRatWhole_said : Rows.FnExactRatWholeSaid :=
  OpenClaim.holds_of_cond 7 Tryd.f7 rfl rfl rfl rfl rfl rfl rfl ⟨rfl, rfl, rfl, rfl, rfl⟩ rfl rfl rfl rfl rfl (by kernel_rfl) Tryd.func7 (by kernel_rfl)
    (of_decide_eq_true (by kernel_rfl)) (by unfold Func.isWrapper; first | (rw [if_pos (by decide +kernel)]; kernel_rfl) | (rw [if_neg (by decide +kernel)]; exact ⟨rfl, rfl⟩))
    (fun os started H enc _ F => by rw [OpenClaim.pre_eq_preRow]; exact fnExactRatWhole_lifted os started H enc F)

theorem fnExactRatWhole_plain (f : FuncId) (fn : Func) (hf : Tryd.pinned.checked.prog.funcNamed "loop.example/g00793/laws.FnExactRatWhole" = some f) (hfn : Tryd.pinned.checked.prog.funcs[f]? = some fn) :
    true = Tryd.pinned.checked.prog.looks [] ∧ ∀ (j : Nat) t, fn.params[j]? = some t → Tryd.pinned.checked.prog.wantsStandIn t = false := by
  obtain rfl : f = 7 := Option.some.inj ((show Tryd.prog.funcNamed "loop.example/g00793/laws.FnExactRatWhole" = some 7 by kernel_rfl).symm.trans hf) |>.symm
  obtain rfl : fn = Tryd.f7 := (Option.some.inj (Tryd.func7.symm.trans hfn)).symm
  refine ⟨by kernel_rfl, fun j t ht => ?_⟩
  rw [Tryd.params7] at ht
  obtain rfl : t = 53 := by simpa using Array.mem_of_getElem? ht
  exact (show Tryd.prog.wantsStandIn 53 = false by kernel_rfl)

set_option maxRecDepth 100000 in
theorem fnExactRatWhole_card : Rows.FnExactRatWholeCardSaid :=
  Claim7.holds_tied_plain_at .later [] _ _ _ _ fnExactRatWhole_said (fun _ h => by cases h) (by kernel_rfl) (fun _ h => by cases h) fnExactRatWhole_row_tie rfl ⟨rfl, rfl⟩ (by kernel_rfl) rfl fnExactRatWhole_plain (by kernel_rfl)
end Go.Proofs.YtclgelopcgahaaaDoor
