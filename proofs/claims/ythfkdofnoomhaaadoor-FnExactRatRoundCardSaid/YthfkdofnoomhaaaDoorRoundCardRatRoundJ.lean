/-
  For all arguments the law FnExactRatRound of chapter 7 returns true; no conditions beyond the card's own (the listed variable holds what the program's text lays).
-/
import Derived.Test.YthfkdofnoomhaaaDoorJA11
namespace Go.Proofs.YthfkdofnoomhaaaDoor
open Go.ChangeShapes Go.WideShapes Go.ChangeAt Go.RowKit
open Go.ChangeMaps (open_string shut_string)

set_option maxHeartbeats 1000000 in
set_option maxRecDepth 100000 in
theorem lawRatRound (va : Value) (a : QI) (m : Int) (w : World)
    (hI : szQ a ≤ 1048576 → ∀ (ua : Value) (W : World), OwnQ ua a W → Sen W → Calls Tryd.prog 27 #[ua, .int .i64 m] W (PostSb ((roundR a m).1) ((roundR a m).2) W))
    (hca : capQ a) (ht0 : Sen w) (ra : RdQ w va a) :
    Calls Tryd.prog 6 #[va, .int .i64 m] w fun e w' => e = .returned (.bool true) ∧ Below w.heap.size w w' := by
  have hsa := szQ_nonneg a
  by_cases hl : szQ a ≤ 1048576
  · skip
    have hla : szQ a ≤ 1048576 := by omega
    exact lawRatRound_walk va a m ((roundR a m).1) ((roundR a m).2) w (fun ua W ha => specRatRound_any ua a m W hla ha) (hI hla) ht0 hl (roundR_sz a m) ra
  · skip
    obtain ⟨Aa, ca, Ba, da, rfl⟩ := rdQ_form ra
    have bb0 : Below w.heap.size w (w.alloc (.cells #[.bool a.1.1, .slice Aa a.1.2.length ca, .slice Ba a.2.length da] 45)) := below_al (Below.refl _ _) _
    have ka := (box_new w #[.bool a.1.1, .slice Aa a.1.2.length ca, .slice Ba a.2.length da] 45)
    go_enter Tryd.func6, Tryd.ntmps6
    have ka_c0 := ka.here.cell 0 _ rfl
    have ka_c1 := ka.here.cell 1 _ rfl
    have ka_c2 := ka.here.cell 2 _ rfl
    go_wp2_with fail
    clear ka_c0 ka_c1 ka_c2
    refine (szQ_cal _ a (1048576) _ hca (by omega) (by omega) (ra.below bb0)).mono ?_
    rintro e w1 ⟨rfl, b1⟩
    have bb1 := Below.next bb0 b1
    replace ka := ka.below b1
    rw [show leftI (1048576) (szQ a) = -1 by unfold leftI; rw [if_pos (by omega)]]
    go_wp2
    go_ret
    exact ⟨rfl, bb1⟩
set_option maxRecDepth 100000 in
theorem fnExactRatRound_met (os : Os) : laidMet Tryd.prog Rows.fnExactRatRoundRow.laid ((senWorld os).forCall (fun _ _ => 0) ⟨#[], #[.agg #[.bool false, .slice none 0 0, .slice none 0 0], .int .i64 0], []⟩).memory :=
  laidMet_of_run' 8 (by kernel_rfl) (by kernel_rfl)
set_option maxRecDepth 100000 in
theorem fnExactRatRound_reads (os : Os) {H : Type} (enc : TypeId × Value → H) : ∃ gs places, DataW.whole enc Tryd.prog ((senWorld os).forCall (fun _ _ => 0) ⟨#[], #[.agg #[.bool false, .slice none 0 0, .slice none 0 0], .int .i64 0], []⟩).memory Tryd.f6.params.toList Rows.fnExactRatRoundSpec.vars false (#[.agg #[.bool false, .slice none 0 0, .slice none 0 0], .int .i64 0] : Array Value).toList 8 = some ([.agg [.agg [.lit (.bool false), .nil], .nil], .lit (.int .i64 0)], gs, places) :=
  ⟨[tok enc (.iface 226 (.pointer (some ⟨low, 0, none⟩)))], [.cell 0 0], by kernel_rfl⟩

set_option maxRecDepth 100000 in
theorem fnExactRatRound_lifted (os : Os) (started : os.Started) (H : Type) (enc : TypeId × Value → H) (F : Stop.Interp) :
    ReturnsInHanded {} Tryd.checked os 6 .any ((OpenSpec.ofChange Rows.fnExactRatRoundSpec).preRow enc Tryd.prog Tryd.f6 Rows.fnExactRatRoundRow.domain false Rows.fnExactRatRoundRow.laid) (((OpenSpec.ofChange Rows.fnExactRatRoundSpec).at F).post enc Tryd.prog Tryd.f6 false true false false) := by
  obtain ⟨gs, places, hx⟩ := fnExactRatRound_reads os enc
  refine law_lifted_sen started (by kernel_rfl) Tryd.func6 (by kernel_rfl) (tb := 4) (by kernel_rfl) Tryd.underlying4 rfl (fun W h => sen_of (show laidMet Tryd.prog [("loop.example/g00793/impl.errZeroDivisor", Rows.laid_loop_example_g00793_impl_errZeroDivisor)] W from h))
    (witness_row_at (enc := enc) (C := Tryd.checked) false (senWorld os) #[.agg #[.bool false, .slice none 0 0, .slice none 0 0], .int .i64 0] rfl (by kernel_rfl) (by kernel_rfl) (by kernel_rfl)
      (OpenSpec.preRow_of_cond 8 hx (by kernel_rfl) (fun k hk => by cases hk) (by kernel_rfl) (fnExactRatRound_met os))) ?_
  intro W base args ds p hval hA _ hL hs
  rw [Tryd.params6] at hA hval
  obtain ⟨v0, v1, d0, d1, p0, p1, rfl, rfl, rfl, h0, h1⟩ := trodAll_two hA
  obtain ⟨a, ra, ma, ma2⟩ := arg_rat (hval 0 45 v0 rfl rfl) h0
  unfold maxLen at ma ma2
  have hca : capQ a := by unfold capQ; omega
  obtain ⟨m, rfl, rfl, rfl, _⟩ := open_int Tryd.underlying3 (hval 1 3 v1 rfl rfl) h1
  exact ⟨fun _ => rfl, lawRatRound v0 a m W (fun hla ua W ha hs => implRatRound_any ua a m W hla ha hs)  hca hs ra⟩

set_option maxRecDepth 100000 in
theorem fnExactRatRound_said : Rows.FnExactRatRoundSaid :=
  OpenClaim.holds_of_cond 6 Tryd.f6 rfl rfl rfl rfl rfl rfl rfl ⟨rfl, rfl, rfl, rfl, rfl⟩ rfl rfl rfl rfl rfl (by kernel_rfl) Tryd.func6 (by kernel_rfl)
    (of_decide_eq_true (by kernel_rfl)) (by unfold Func.isWrapper; first | (rw [if_pos (by decide +kernel)]; kernel_rfl) | (rw [if_neg (by decide +kernel)]; exact ⟨rfl, rfl⟩))
    (fun os started H enc _ F => by rw [OpenClaim.pre_eq_preRow]; exact fnExactRatRound_lifted os started H enc F)

theorem fnExactRatRound_plain (f : FuncId) (fn : Func) (hf : Tryd.pinned.checked.prog.funcNamed "loop.example/g00793/laws.FnExactRatRound" = some f) (hfn : Tryd.pinned.checked.prog.funcs[f]? = some fn) :
    true = Tryd.pinned.checked.prog.looks [] ∧ ∀ (j : Nat) t, fn.params[j]? = some t → Tryd.pinned.checked.prog.wantsStandIn t = false := by
  obtain rfl : f = 6 := Option.some.inj ((show Tryd.prog.funcNamed "loop.example/g00793/laws.FnExactRatRound" = some 6 by kernel_rfl).symm.trans hf) |>.symm
  obtain rfl : fn = Tryd.f6 := (Option.some.inj (Tryd.func6.symm.trans hfn)).symm
  refine ⟨by kernel_rfl, fun j t ht => ?_⟩
  rw [Tryd.params6] at ht
  have ht2 := Array.mem_of_getElem? ht
  simp at ht2
  rcases ht2 with rfl | rfl
  · exact (show Tryd.prog.wantsStandIn 45 = false by kernel_rfl)
  · exact (show Tryd.prog.wantsStandIn 3 = false by kernel_rfl)

set_option maxRecDepth 100000 in
theorem fnExactRatRound_card : Rows.FnExactRatRoundCardSaid :=
  Claim7.holds_tied_plain_at .later [] _ _ _ _ fnExactRatRound_said (fun _ h => by cases h) (by kernel_rfl) (fun _ h => by cases h) fnExactRatRound_row_tie rfl ⟨rfl, rfl⟩ (by kernel_rfl) rfl fnExactRatRound_plain (by kernel_rfl)
end Go.Proofs.YthfkdofnoomhaaaDoor
