/-
  For all arguments the law FnExactRatRest of chapter 7 returns true; no conditions beyond the card's own (the listed variable holds what the program's text lays).
-/
import Derived.Test.YthfkdofnoomhaaaGreatDoorJB12
namespace Go.Proofs.YthfkdofnoomhaaaGreatDoor
open Go.ChangeShapes Go.WideShapes Go.ChangeAt Go.RowKit
open Go.ChangeMaps (open_string shut_string)

theorem restS_sz (r : QI) (m : Int) : szS (restS r m) ≤ 1048576 := by unfold restS; split; exact roundR_sz r m; decide
theorem restQ_sz (r : QI) (m : Int) : szQ (restQ r m) ≤ 1048576 := by unfold restQ; split; exact subQ_szQ _ _; decide
set_option maxHeartbeats 1000000 in
set_option maxRecDepth 100000 in
theorem lawRatRest (va : Value) (a : QI) (m : Int) (w : World)
    (hI : szQ a ≤ 1048576 → ∀ (ua : Value) (W : World), OwnQ ua a W → Sen W → Calls Tryz.prog 41 #[ua, .int .i64 m] W (PostSQb (restS a m) (restQ a m) (restB a m) W))
    (hca : capQ a) (ht0 : Sen w) (ra : RdQ w va a) :
    Calls Tryz.prog 8 #[va, .int .i64 m] w fun e w' => e = .returned (.bool true) ∧ Below w.heap.size w w' := by
  have hsa := szQ_nonneg a
  by_cases hl : szQ a ≤ 1048576
  · skip
    have hla : szQ a ≤ 1048576 := by omega
    exact lawRatRest_walk va a m (restS a m) (restQ a m) (restB a m) w (fun ua W ha => specRatRest_any ua a m W hla ha) (hI hla) ht0 hl (restS_sz a m) (restQ_sz a m) ra
  · skip
    obtain ⟨Aa, ca, Ba, da, rfl⟩ := rdQ_form ra
    have bb0 : Below w.heap.size w (w.alloc (.cells #[.bool a.1.1, .slice Aa a.1.2.length ca, .slice Ba a.2.length da] 26)) := below_al (Below.refl _ _) _
    have ka := (box_new w #[.bool a.1.1, .slice Aa a.1.2.length ca, .slice Ba a.2.length da] 26)
    go_enter Tryz.func8, Tryz.ntmps8
    have ka_c0 := ka.here.cell 0 _ rfl
    have ka_c1 := ka.here.cell 1 _ rfl
    have ka_c2 := ka.here.cell 2 _ rfl
    go_wp2_with fail
    clear ka_c0 ka_c1 ka_c2
    refine (szQ_cal _ a (1048576) _ hca (by omega) (by omega) (ra.below bb0)).mono ?_
    rintro e w1 ⟨rfl, b1⟩
    have bb1 := Below.next bb0 b1
    replace ka := ka.below b1
    rw [show leftI (1048576) (szQ a) = -1 by unfold leftI; rw [if_pos (by omega)]]
    go_wp2
    go_ret
    exact ⟨rfl, bb1⟩
set_option maxRecDepth 100000 in
theorem fnExactRatRest_met (os : Os) : laidMet Tryz.prog Rows.fnExactRatRestRow.laid ((senWorld os).forCall (fun _ _ => 0) ⟨#[], #[.agg #[.bool false, .slice none 0 0, .slice none 0 0], .int .i64 0], []⟩).memory :=
  laidMet_of_run' 8 (by kernel_rfl) (by kernel_rfl)
set_option maxRecDepth 100000 in
theorem fnExactRatRest_reads (os : Os) {H : Type} (enc : TypeId × Value → H) : ∃ gs places, DataW.whole enc Tryz.prog ((senWorld os).forCall (fun _ _ => 0) ⟨#[], #[.agg #[.bool false, .slice none 0 0, .slice none 0 0], .int .i64 0], []⟩).memory Tryz.f8.params.toList Rows.fnExactRatRestSpec.vars false (#[.agg #[.bool false, .slice none 0 0, .slice none 0 0], .int .i64 0] : Array Value).toList 8 = some ([.agg [.agg [.lit (.bool false), .nil], .nil], .lit (.int .i64 0)], gs, places) :=
  ⟨[tok enc (.iface 248 (.pointer (some ⟨low, 0, none⟩)))], [.cell 0 0], by kernel_rfl⟩

set_option maxRecDepth 100000 in
theorem fnExactRatRest_lifted (os : Os) (started : os.Started) (H : Type) (enc : TypeId × Value → H) (F : Stop.Interp) :
    ReturnsInHanded {} Tryz.checked os 8 .any ((OpenSpec.ofChange Rows.fnExactRatRestSpec).preRow enc Tryz.prog Tryz.f8 Rows.fnExactRatRestRow.domain false Rows.fnExactRatRestRow.laid) (((OpenSpec.ofChange Rows.fnExactRatRestSpec).at F).post enc Tryz.prog Tryz.f8 false true false false) := by
  obtain ⟨gs, places, hx⟩ := fnExactRatRest_reads os enc
  refine law_lifted_sen started (by kernel_rfl) Tryz.func8 (by kernel_rfl) (tb := 4) (by kernel_rfl) Tryz.underlying4 rfl (fun W h => sen_of (show laidMet Tryz.prog [("loop.example/g00793/impl.errZeroDivisor", Rows.laid_loop_example_g00793_impl_errZeroDivisor)] W from h))
    (witness_row_at (enc := enc) (C := Tryz.checked) false (senWorld os) #[.agg #[.bool false, .slice none 0 0, .slice none 0 0], .int .i64 0] rfl (by kernel_rfl) (by kernel_rfl) (by kernel_rfl)
      (OpenSpec.preRow_of_cond 8 hx (by kernel_rfl) (fun k hk => by cases hk) (by kernel_rfl) (fnExactRatRest_met os))) ?_
  intro W base args ds p hval hA _ hL hs
  rw [Tryz.params8] at hA hval
  obtain ⟨v0, v1, d0, d1, p0, p1, rfl, rfl, rfl, h0, h1⟩ := trodAll_two hA
  obtain ⟨a, ra, ma, ma2⟩ := arg_rat (hval 0 26 v0 rfl rfl) h0
  unfold maxLen at ma ma2
  have hca : capQ a := by unfold capQ; omega
  obtain ⟨m, rfl, rfl, rfl, _⟩ := open_int Tryz.underlying3 (hval 1 3 v1 rfl rfl) h1
  exact ⟨fun _ => rfl, lawRatRest v0 a m W (fun hla ua W ha hs => implRatRest_any ua a m W hla ha hs)  hca hs ra⟩

set_option maxRecDepth 100000 in
theorem fnExactRatRest_said : Rows.FnExactRatRestSaid :=
  OpenClaim.holds_of_cond 8 Tryz.f8 rfl rfl rfl rfl rfl rfl rfl ⟨rfl, rfl, rfl, rfl, rfl⟩ rfl rfl rfl rfl rfl (by kernel_rfl) Tryz.func8 (by kernel_rfl)
    (of_decide_eq_true (by kernel_rfl)) (by unfold Func.isWrapper; first | (rw [if_pos (by decide +kernel)]; kernel_rfl) | (rw [if_neg (by decide +kernel)]; exact ⟨rfl, rfl⟩))
    (fun os started H enc _ F => by rw [OpenClaim.pre_eq_preRow]; exact fnExactRatRest_lifted os started H enc F)

theorem fnExactRatRest_plain (f : FuncId) (fn : Func) (hf : Tryz.pinned.checked.prog.funcNamed "loop.example/g00793/laws.FnExactRatRest" = some f) (hfn : Tryz.pinned.checked.prog.funcs[f]? = some fn) :
    true = Tryz.pinned.checked.prog.looks [] ∧ ∀ (j : Nat) t, fn.params[j]? = some t → Tryz.pinned.checked.prog.wantsStandIn t = false := by
  obtain rfl : f = 8 := Option.some.inj ((show Tryz.prog.funcNamed "loop.example/g00793/laws.FnExactRatRest" = some 8 by kernel_rfl).symm.trans hf) |>.symm
  obtain rfl : fn = Tryz.f8 := (Option.some.inj (Tryz.func8.symm.trans hfn)).symm
  refine ⟨by kernel_rfl, fun j t ht => ?_⟩
  rw [Tryz.params8] at ht
  have ht2 := Array.mem_of_getElem? ht
  simp at ht2
  rcases ht2 with rfl | rfl
  · exact (show Tryz.prog.wantsStandIn 26 = false by kernel_rfl)
  · exact (show Tryz.prog.wantsStandIn 3 = false by kernel_rfl)

set_option maxRecDepth 100000 in
theorem fnExactRatRest_card : Rows.FnExactRatRestCardSaid :=
  Claim7.holds_tied_plain_at .later [] _ _ _ _ fnExactRatRest_said (fun _ h => by cases h) (by kernel_rfl) (fun _ h => by cases h) fnExactRatRest_row_tie rfl ⟨rfl, rfl⟩ (by kernel_rfl) rfl fnExactRatRest_plain (by kernel_rfl)
end Go.Proofs.YthfkdofnoomhaaaGreatDoor
