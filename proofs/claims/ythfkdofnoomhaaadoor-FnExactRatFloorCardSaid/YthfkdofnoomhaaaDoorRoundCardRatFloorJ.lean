/-
  For all arguments the law FnExactRatFloor of chapter 7 returns true; no conditions beyond the card's own (the listed variable holds what the program's text lays).
-/
import Derived.Test.YthfkdofnoomhaaaDoorJA11
namespace Go.Proofs.YthfkdofnoomhaaaDoor
open Go.ChangeShapes Go.WideShapes Go.ChangeAt Go.RowKit
open Go.ChangeMaps (open_string shut_string)

set_option maxHeartbeats 1000000 in
set_option maxRecDepth 100000 in
theorem lawRatFloor (va : Value) (a : QI) (w : World)
    (hI : szQ a ≤ 1048576 → ∀ (ua : Value) (W : World), OwnQ ua a W → Sen W → Calls Tryd.prog 32 #[ua] W (PostSb ((roundR a 2).1) ((roundR a 2).2) W))
    (hca : capQ a) (ht0 : Sen w) (ra : RdQ w va a) :
    Calls Tryd.prog 7 #[va] w fun e w' => e = .returned (.bool true) ∧ Below w.heap.size w w' := by
  have hsa := szQ_nonneg a
  by_cases hl : szQ a ≤ 1048576
  · skip
    have hla : szQ a ≤ 1048576 := by omega
    exact lawRatFloor_walk va a ((roundR a 2).1) ((roundR a 2).2) w (fun ua W ha => specRatFloor_any ua a W hla ha) (hI hla) ht0 hl (roundR_sz a 2) ra
  · skip
    obtain ⟨Aa, ca, Ba, da, rfl⟩ := rdQ_form ra
    have bb0 : Below w.heap.size w (w.alloc (.cells #[.bool a.1.1, .slice Aa a.1.2.length ca, .slice Ba a.2.length da] 45)) := below_al (Below.refl _ _) _
    have ka := (box_new w #[.bool a.1.1, .slice Aa a.1.2.length ca, .slice Ba a.2.length da] 45)
    go_enter Tryd.func7, Tryd.ntmps7
    have ka_c0 := ka.here.cell 0 _ rfl
    have ka_c1 := ka.here.cell 1 _ rfl
    have ka_c2 := ka.here.cell 2 _ rfl
    go_wp2_with fail
    clear ka_c0 ka_c1 ka_c2
    refine (szQ_cal _ a (1048576) _ hca (by omega) (by omega) (ra.below bb0)).mono ?_
    rintro e w1 ⟨rfl, b1⟩
    have bb1 := Below.next bb0 b1
    replace ka := ka.below b1
    rw [show leftI (1048576) (szQ a) = -1 by unfold leftI; rw [if_pos (by omega)]]
    go_wp2
    go_ret
    exact ⟨rfl, bb1⟩
set_option maxRecDepth 100000 in
theorem fnExactRatFloor_met (os : Os) : laidMet Tryd.prog Rows.fnExactRatFloorRow.laid ((senWorld os).forCall (fun _ _ => 0) ⟨#[], #[.agg #[.bool false, .slice none 0 0, .slice none 0 0]], []⟩).memory :=
  laidMet_of_run' 8 (by kernel_rfl) (by kernel_rfl)
set_option maxRecDepth 100000 in
theorem fnExactRatFloor_reads (os : Os) {H : Type} (enc : TypeId × Value → H) : ∃ gs places, DataW.whole enc Tryd.prog ((senWorld os).forCall (fun _ _ => 0) ⟨#[], #[.agg #[.bool false, .slice none 0 0, .slice none 0 0]], []⟩).memory Tryd.f7.params.toList Rows.fnExactRatFloorSpec.vars false (#[.agg #[.bool false, .slice none 0 0, .slice none 0 0]] : Array Value).toList 8 = some ([.agg [.agg [.lit (.bool false), .nil], .nil]], gs, places) :=
  ⟨[tok enc (.iface 226 (.pointer (some ⟨low, 0, none⟩)))], [.cell 0 0], by kernel_rfl⟩

set_option maxRecDepth 100000 in
theorem fnExactRatFloor_lifted (os : Os) (started : os.Started) (H : Type) (enc : TypeId × Value → H) (F : Stop.Interp) :
    ReturnsInHanded {} Tryd.checked os 7 .any ((OpenSpec.ofChange Rows.fnExactRatFloorSpec).preRow enc Tryd.prog Tryd.f7 Rows.fnExactRatFloorRow.domain false Rows.fnExactRatFloorRow.laid) (((OpenSpec.ofChange Rows.fnExactRatFloorSpec).at F).post enc Tryd.prog Tryd.f7 false true false false) := by
  obtain ⟨gs, places, hx⟩ := fnExactRatFloor_reads os enc
  refine law_lifted_sen started (by kernel_rfl) Tryd.func7 (by kernel_rfl) (tb := 4) (by kernel_rfl) Tryd.underlying4 rfl (fun W h => sen_of (show laidMet Tryd.prog [("loop.example/g00793/impl.errZeroDivisor", Rows.laid_loop_example_g00793_impl_errZeroDivisor)] W from h))
    (witness_row_at (enc := enc) (C := Tryd.checked) false (senWorld os) #[.agg #[.bool false, .slice none 0 0, .slice none 0 0]] rfl (by kernel_rfl) (by kernel_rfl) (by kernel_rfl)
      (OpenSpec.preRow_of_cond 8 hx (by kernel_rfl) (fun k hk => by cases hk) (by kernel_rfl) (fnExactRatFloor_met os))) ?_
  intro W base args ds p hval hA _ hL hs
  rw [Tryd.params7] at hA hval
  obtain ⟨v0, d0, rfl, rfl, h0⟩ := trodAll_one hA
  obtain ⟨a, ra, ma, ma2⟩ := arg_rat (hval 0 45 v0 rfl rfl) h0
  unfold maxLen at ma ma2
  have hca : capQ a := by unfold capQ; omega
  exact ⟨fun _ => rfl, lawRatFloor v0 a W (fun hla ua W ha hs => implRatFloor_any ua a W hla ha hs)  hca hs ra⟩

set_option maxRecDepth 100000 in
theorem fnExactRatFloor_said : Rows.FnExactRatFloorSaid :=
  OpenClaim.holds_of_cond 7 Tryd.f7 rfl rfl rfl rfl rfl rfl rfl ⟨rfl, rfl, rfl, rfl, rfl⟩ rfl rfl rfl rfl rfl (by kernel_rfl) Tryd.func7 (by kernel_rfl)
    (of_decide_eq_true (by kernel_rfl)) (by unfold Func.isWrapper; first | (rw [if_pos (by decide +kernel)]; kernel_rfl) | (rw [if_neg (by decide +kernel)]; exact ⟨rfl, rfl⟩))
    (fun os started H enc _ F => by rw [OpenClaim.pre_eq_preRow]; exact fnExactRatFloor_lifted os started H enc F)

theorem fnExactRatFloor_plain (f : FuncId) (fn : Func) (hf : Tryd.pinned.checked.prog.funcNamed "loop.example/g00793/laws.FnExactRatFloor" = some f) (hfn : Tryd.pinned.checked.prog.funcs[f]? = some fn) :
    true = Tryd.pinned.checked.prog.looks [] ∧ ∀ (j : Nat) t, fn.params[j]? = some t → Tryd.pinned.checked.prog.wantsStandIn t = false := by
  obtain rfl : f = 7 := Option.some.inj ((show Tryd.prog.funcNamed "loop.example/g00793/laws.FnExactRatFloor" = some 7 by kernel_rfl).symm.trans hf) |>.symm
  obtain rfl : fn = Tryd.f7 := (Option.some.inj (Tryd.func7.symm.trans hfn)).symm
  refine ⟨by kernel_rfl, fun j t ht => ?_⟩
  rw [Tryd.params7] at ht
  obtain rfl : t = 45 := by simpa using Array.mem_of_getElem? ht
  exact (show Tryd.prog.wantsStandIn 45 = false by kernel_rfl)

set_option maxRecDepth 100000 in
theorem fnExactRatFloor_card : Rows.FnExactRatFloorCardSaid :=
  Claim7.holds_tied_plain_at .later [] _ _ _ _ fnExactRatFloor_said (fun _ h => by cases h) (by kernel_rfl) (fun _ h => by cases h) fnExactRatFloor_row_tie rfl ⟨rfl, rfl⟩ (by kernel_rfl) rfl fnExactRatFloor_plain (by kernel_rfl)
end Go.Proofs.YthfkdofnoomhaaaDoor
