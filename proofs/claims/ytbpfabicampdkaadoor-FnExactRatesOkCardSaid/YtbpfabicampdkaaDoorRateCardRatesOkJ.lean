/-
  For all arguments FnExactRatesOk returns true: RatesOk is the one that spec asks for. No conditions beyond the card's own (the listed variables hold what the program's text lays).
-/
import Derived.Test.YtbpfabicampdkaaDoorJA8
namespace Go.Proofs.YtbpfabicampdkaaDoor
open Go.ChangeShapes Go.WideShapes Go.ChangeAt Go.RowKit
open Go.ChangeMaps (open_string shut_string)

set_option maxHeartbeats 1000000 in
set_option maxRecDepth 100000 in
theorem lawRatesOk (va : Value) (a : TI) (w : World)
    (hI : szT a ≤ 1048576 → ∀ (ua : Value) (W : World), OwnT ua a W → CurTab W → Calls Tryd.prog 15 #[ua] W (Postb (okT a) W))
    (hca : capT a) (ht0 : CurTab w) (ra : RdT w va a) :
    Calls Tryd.prog 4 #[va] w fun e w' => e = .returned (.bool true) ∧ Below w.heap.size w w' := by
  have hsa := szT_nonneg a
  by_cases hl : szT a ≤ 1048576
  · skip
    have hla : szT a ≤ 1048576 := by omega
    exact lawRatesOk_walk va a (okT a) w (fun ua W ha => specRatesOk_any ua a W (by have := (szT_mem hla).1; omega) (fun x hx => (szE_len ((szT_mem hla).2 x hx)).2.2) ha.ownR) (hI hla) ht0 hl  ra
  · skip
    obtain ⟨Aa, ca, rfl⟩ := rdT_form ra
    have bb0 : Below w.heap.size w (w.alloc (.cells #[.string a.1, .slice Aa a.2.length ca] 41)) := below_al (Below.refl _ _) _
    have ka := (box_new w #[.string a.1, .slice Aa a.2.length ca] 41)
    go_enter Tryd.func4, Tryd.ntmps4
    have ka_c0 := ka.here.cell 0 _ rfl
    have ka_c1 := ka.here.cell 1 _ rfl
    go_wp2_with fail
    clear ka_c0 ka_c1
    refine (szT_cal _ a (1048576) _ hca (by omega) (by omega) (ra.below bb0)).mono ?_
    rintro e w1 ⟨rfl, b1⟩
    have bb1 := Below.next bb0 b1
    replace ka := ka.below b1
    rw [show leftI (1048576) (szT a) = -1 by unfold leftI; rw [if_pos (by omega)]]
    go_wp2
    go_ret
    exact ⟨rfl, bb1⟩

set_option maxRecDepth 100000 in
theorem fnExactRatesOk_met (os : Os) : laidMet Tryd.prog Rows.fnExactRatesOkRow.laid ((curWorld os).forCall (fun _ _ => 0) ⟨#[], #[.agg #[.string ⟨#[]⟩, .slice none 0 0]], []⟩).memory :=
  laidMet_of_run' 8 (by kernel_rfl) (by kernel_rfl)
set_option maxRecDepth 100000 in
theorem fnExactRatesOk_reads (os : Os) {H : Type} (enc : TypeId × Value → H) : ∃ gs places, DataW.whole enc Tryd.prog ((curWorld os).forCall (fun _ _ => 0) ⟨#[], #[.agg #[.string ⟨#[]⟩, .slice none 0 0]], []⟩).memory Tryd.f4.params.toList Rows.fnExactRatesOkSpec.vars false (#[.agg #[.string ⟨#[]⟩, .slice none 0 0]] : Array Value).toList 8 = some ([.agg [.lit (.string []), .nil]], gs, places) :=
  ⟨[Rows.laid_loop_example_g00793_impl_currencies], MemPlace.row ⟨0, 0, none⟩ 80, by kernel_rfl⟩

set_option maxRecDepth 100000 in
theorem fnExactRatesOk_lifted (os : Os) (started : os.Started) (H : Type) (enc : TypeId × Value → H) (F : Stop.Interp) :
    ReturnsInHanded {} Tryd.checked os 4 .any ((OpenSpec.ofChange Rows.fnExactRatesOkSpec).preRow enc Tryd.prog Tryd.f4 Rows.fnExactRatesOkRow.domain false Rows.fnExactRatesOkRow.laid) (((OpenSpec.ofChange Rows.fnExactRatesOkSpec).at F).post enc Tryd.prog Tryd.f4 false true false false) := by
  obtain ⟨gs, places, hx⟩ := fnExactRatesOk_reads os enc
  refine law_lifted_vars started (by kernel_rfl) Tryd.func4 (by kernel_rfl) (tb := 4) (by kernel_rfl) Tryd.underlying4 (by kernel_rfl)
    (witness_row_at (enc := enc) (C := Tryd.checked) false (curWorld os) #[.agg #[.string ⟨#[]⟩, .slice none 0 0]] rfl (by kernel_rfl) (by kernel_rfl) (by kernel_rfl)
      (OpenSpec.preRow_of_cond 8 hx (by kernel_rfl) (fun k hk => by cases hk) (by kernel_rfl) (fnExactRatesOk_met os))) ?_
  intro W base args ds p hval hA _ hL
  have ht := curTab_of (l := [("loop.example/g00793/impl.currencies", Rows.laid_loop_example_g00793_impl_currencies)]) (show laidMet Tryd.prog [("loop.example/g00793/impl.currencies", Rows.laid_loop_example_g00793_impl_currencies)] W from hL) (by simp)
  rw [Tryd.params4] at hA hval
  obtain ⟨v0, d0, rfl, rfl, h0⟩ := trodAll_one hA
  obtain ⟨a, ra, hca⟩ := arg_rates (hval 0 41 v0 rfl rfl) h0
  exact ⟨fun gs hg => by
    match gs, hg with
    | [g], _ => rfl, lawRatesOk v0 a W (fun hla ua W ha h1 => implRatesOk_any ua a W (by have := (szT_mem hla).1; omega) (fun x hx => (szE_len ((szT_mem hla).2 x hx)).2.2) ha.ownR h1) hca ht ra⟩

set_option maxRecDepth 100000 in
theorem fnExactRatesOk_said : Rows.FnExactRatesOkSaid :=
  OpenClaim.holds_of_cond 4 Tryd.f4 rfl rfl rfl rfl rfl rfl rfl ⟨rfl, rfl, rfl, rfl, rfl⟩ rfl rfl rfl rfl rfl (by kernel_rfl) Tryd.func4 (by kernel_rfl)
    (of_decide_eq_true (by kernel_rfl)) (by unfold Func.isWrapper; first | (rw [if_pos (by decide +kernel)]; kernel_rfl) | (rw [if_neg (by decide +kernel)]; exact ⟨rfl, rfl⟩))
    (fun os started H enc _ F => by rw [OpenClaim.pre_eq_preRow]; exact fnExactRatesOk_lifted os started H enc F)

theorem fnExactRatesOk_plain (f : FuncId) (fn : Func) (hf : Tryd.pinned.checked.prog.funcNamed "loop.example/g00793/laws.FnExactRatesOk" = some f) (hfn : Tryd.pinned.checked.prog.funcs[f]? = some fn) :
    false = Tryd.pinned.checked.prog.looks [] ∧ ∀ (j : Nat) t, fn.params[j]? = some t → Tryd.pinned.checked.prog.wantsStandIn t = false := by
  obtain rfl : f = 4 := Option.some.inj ((show Tryd.prog.funcNamed "loop.example/g00793/laws.FnExactRatesOk" = some 4 by kernel_rfl).symm.trans hf) |>.symm
  obtain rfl : fn = Tryd.f4 := (Option.some.inj (Tryd.func4.symm.trans hfn)).symm
  refine ⟨by kernel_rfl, fun j t ht => ?_⟩
  rw [Tryd.params4] at ht
  obtain rfl : t = 41 := by simpa using Array.mem_of_getElem? ht
  exact (show Tryd.prog.wantsStandIn 41 = false by kernel_rfl)

set_option maxRecDepth 100000 in
theorem fnExactRatesOk_card : Rows.FnExactRatesOkCardSaid :=
  Claim7.holds_tied_plain_at .later [] _ _ _ _ fnExactRatesOk_said (fun _ h => by cases h) (by kernel_rfl) (fun _ h => by cases h) fnExactRatesOk_row_tie rfl ⟨rfl, rfl⟩ (by kernel_rfl) rfl fnExactRatesOk_plain (by kernel_rfl)
end Go.Proofs.YtbpfabicampdkaaDoor
