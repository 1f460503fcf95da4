/-
  For all arguments FnExactMoneyRat returns true: the units as a fraction. No conditions beyond the card's own (the listed variables hold what the program's text lays).
-/
import Derived.Test.YtcenmdiblbooeaaDoorJA11
namespace Go.Proofs.YtcenmdiblbooeaaDoor
open Go.ChangeShapes Go.WideShapes Go.ChangeAt Go.RowKit
open Go.ChangeMaps (open_string shut_string)

theorem szM_S {a : MI} (h : szM a ≤ 1048576) : szS a.2 ≤ 1048576 := by unfold szM at h; omega
theorem ratM_sz (a : MI) : szQ (ratM a) ≤ 1048576 := by unfold ratM; split; (unfold makeQ; split; exact lowQ_sz _ _ _; decide); decide
set_option maxHeartbeats 1000000 in
set_option maxRecDepth 100000 in
theorem lawMoneyRat (va : Value) (a : MI) (w : World)
    (hI : szM a ≤ 1048576 → ∀ (ua : Value) (W : World), OwnM ua a W → CurTab W → Sen W → Calls Tryd.prog 38 #[ua] W (NewV (fun v => OwnQ v (ratM a)) W))
    (hca : capM a) (ht0 : CurTab w) (ht1 : Sen w) (ra : RdM w va a) :
    Calls Tryd.prog 12 #[va] w fun e w' => e = .returned (.bool true) ∧ Below w.heap.size w w' := by
  have hsa := szM_nonneg a
  by_cases hl : szM a ≤ 1048576
  · skip
    have hla : szM a ≤ 1048576 := by omega
    exact lawMoneyRat_walk va a (ratM a) w (fun ua W ha => specMoneyRat_any ua a W (szM_S hla) ha) (hI hla) ht0 ht1 hl (ratM_sz a) ra
  · skip
    obtain ⟨Aa, ca, rfl⟩ := rdM_form ra
    have bb0 : Below w.heap.size w (w.alloc (.cells #[.string a.1, .bool a.2.1, .slice Aa a.2.2.length ca] 27)) := below_al (Below.refl _ _) _
    have ka := (box_new w #[.string a.1, .bool a.2.1, .slice Aa a.2.2.length ca] 27)
    go_enter Tryd.func12, Tryd.ntmps12
    have ka_c0 := ka.here.cell 0 _ rfl
    have ka_c1 := ka.here.cell 1 _ rfl
    have ka_c2 := ka.here.cell 2 _ rfl
    go_wp2_with fail
    clear ka_c0 ka_c1 ka_c2
    refine (szM_cal _ a (1048576) _ hca (by omega) (by omega) (ra.below bb0)).mono ?_
    rintro e w1 ⟨rfl, b1⟩
    have bb1 := Below.next bb0 b1
    replace ka := ka.below b1
    rw [show leftI (1048576) (szM a) = -1 by unfold leftI; rw [if_pos (by omega)]]
    go_wp2
    go_ret
    exact ⟨rfl, bb1⟩

set_option maxRecDepth 100000 in
theorem fnExactMoneyRat_met (os : Os) : laidMet Tryd.prog Rows.fnExactMoneyRatRow.laid ((curSenWorld os).forCall (fun _ _ => 0) ⟨#[], #[.agg #[.string ⟨#[]⟩, .bool false, .slice none 0 0]], []⟩).memory :=
  laidMet_of_run' 8 (by kernel_rfl) (by kernel_rfl)
set_option maxRecDepth 100000 in
theorem fnExactMoneyRat_reads (os : Os) {H : Type} (enc : TypeId × Value → H) : ∃ gs places, DataW.whole enc Tryd.prog ((curSenWorld os).forCall (fun _ _ => 0) ⟨#[], #[.agg #[.string ⟨#[]⟩, .bool false, .slice none 0 0]], []⟩).memory Tryd.f12.params.toList Rows.fnExactMoneyRatSpec.vars false (#[.agg #[.string ⟨#[]⟩, .bool false, .slice none 0 0]] : Array Value).toList 8 = some ([.agg [.lit (.string []), .agg [.lit (.bool false), .nil]]], gs, places) :=
  ⟨[Rows.laid_loop_example_g00793_impl_currencies, tok enc (.iface 189 (.pointer (some ⟨low, 0, none⟩)))], MemPlace.row ⟨0, 0, none⟩ 80 ++ [.cell 1 0], by kernel_rfl⟩

set_option maxRecDepth 100000 in
theorem fnExactMoneyRat_lifted (os : Os) (started : os.Started) (H : Type) (enc : TypeId × Value → H) (F : Stop.Interp) :
    ReturnsInHanded {} Tryd.checked os 12 .any ((OpenSpec.ofChange Rows.fnExactMoneyRatSpec).preRow enc Tryd.prog Tryd.f12 Rows.fnExactMoneyRatRow.domain false Rows.fnExactMoneyRatRow.laid) (((OpenSpec.ofChange Rows.fnExactMoneyRatSpec).at F).post enc Tryd.prog Tryd.f12 false true false false) := by
  obtain ⟨gs, places, hx⟩ := fnExactMoneyRat_reads os enc
  refine law_lifted_vars started (by kernel_rfl) Tryd.func12 (by kernel_rfl) (tb := 4) (by kernel_rfl) Tryd.underlying4 (by kernel_rfl)
    (witness_row_at (enc := enc) (C := Tryd.checked) false (curSenWorld os) #[.agg #[.string ⟨#[]⟩, .bool false, .slice none 0 0]] rfl (by kernel_rfl) (by kernel_rfl) (by kernel_rfl)
      (OpenSpec.preRow_of_cond 8 hx (by kernel_rfl) (fun k hk => by cases hk) (by kernel_rfl) (fnExactMoneyRat_met os))) ?_
  intro W base args ds p hval hA _ hL
  have ht := curTab_of (l := [("loop.example/g00793/impl.errZeroDivisor", Rows.laid_loop_example_g00793_impl_errZeroDivisor), ("loop.example/g00793/impl.currencies", Rows.laid_loop_example_g00793_impl_currencies)]) (show laidMet Tryd.prog [("loop.example/g00793/impl.errZeroDivisor", Rows.laid_loop_example_g00793_impl_errZeroDivisor), ("loop.example/g00793/impl.currencies", Rows.laid_loop_example_g00793_impl_currencies)] W from hL) (by simp)
  rw [Tryd.params12] at hA hval
  obtain ⟨asen, hsen⟩ := sen_of (show laidMet Tryd.prog [("loop.example/g00793/impl.errZeroDivisor", Rows.laid_loop_example_g00793_impl_errZeroDivisor), ("loop.example/g00793/impl.currencies", Rows.laid_loop_example_g00793_impl_currencies)] W from hL)
  have hse : Sen W := hsen.sen
  obtain ⟨v0, d0, rfl, rfl, h0⟩ := trodAll_one hA
  obtain ⟨a, ra, ma, ma2⟩ := arg_money (hval 0 27 v0 rfl rfl) h0
  unfold maxLen at ma ma2
  have hca : capM a := by unfold capM; omega
  exact ⟨fun gs hg => by
    match gs, hg with
    | [g1, g2], _ => rfl, lawMoneyRat v0 a W (fun hla ua W ha h1 h2 => implMoneyRat_any ua a W (szM_S hla) ha h1 h2)  hca ht hse ra⟩

set_option maxRecDepth 100000 in
theorem fnExactMoneyRat_said : Rows.FnExactMoneyRatSaid :=
  OpenClaim.holds_of_cond 12 Tryd.f12 rfl rfl rfl rfl rfl rfl rfl ⟨rfl, rfl, rfl, rfl, rfl⟩ rfl rfl rfl rfl rfl (by kernel_rfl) Tryd.func12 (by kernel_rfl)
    (of_decide_eq_true (by kernel_rfl)) (by unfold Func.isWrapper; first | (rw [if_pos (by decide +kernel)]; kernel_rfl) | (rw [if_neg (by decide +kernel)]; exact ⟨rfl, rfl⟩))
    (fun os started H enc _ F => by rw [OpenClaim.pre_eq_preRow]; exact fnExactMoneyRat_lifted os started H enc F)

theorem fnExactMoneyRat_plain (f : FuncId) (fn : Func) (hf : Tryd.pinned.checked.prog.funcNamed "loop.example/g00793/laws.FnExactMoneyRat" = some f) (hfn : Tryd.pinned.checked.prog.funcs[f]? = some fn) :
    true = Tryd.pinned.checked.prog.looks [] ∧ ∀ (j : Nat) t, fn.params[j]? = some t → Tryd.pinned.checked.prog.wantsStandIn t = false := by
  obtain rfl : f = 12 := Option.some.inj ((show Tryd.prog.funcNamed "loop.example/g00793/laws.FnExactMoneyRat" = some 12 by kernel_rfl).symm.trans hf) |>.symm
  obtain rfl : fn = Tryd.f12 := (Option.some.inj (Tryd.func12.symm.trans hfn)).symm
  refine ⟨by kernel_rfl, fun j t ht => ?_⟩
  rw [Tryd.params12] at ht
  obtain rfl : t = 27 := by simpa using Array.mem_of_getElem? ht
  exact (show Tryd.prog.wantsStandIn 27 = false by kernel_rfl)

set_option maxRecDepth 100000 in
theorem fnExactMoneyRat_card : Rows.FnExactMoneyRatCardSaid :=
  Claim7.holds_tied_plain_at .later [] _ _ _ _ fnExactMoneyRat_said (fun _ h => by cases h) (by kernel_rfl) (fun _ h => by cases h) fnExactMoneyRat_row_tie rfl ⟨rfl, rfl⟩ (by kernel_rfl) rfl fnExactMoneyRat_plain (by kernel_rfl)
end Go.Proofs.YtcenmdiblbooeaaDoor
