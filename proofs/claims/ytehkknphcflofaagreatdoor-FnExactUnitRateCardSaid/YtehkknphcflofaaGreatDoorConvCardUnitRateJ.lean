/-
  For all arguments FnExactUnitRate returns true: how many smallest units of one currency a smallest unit of another is worth. No conditions beyond the card's own (the listed variables hold what the program's text lays).
-/
import Derived.Test.YtehkknphcflofaaGreatDoorConvCardUnitRateGJ
import Derived.Test.YtehkknphcflofaaGreatDoorConvCardUnitRateHJ
import Derived.Test.YtehkknphcflofaaGreatDoorConvLawUnitRateJ
import Derived.Test.YtehkknphcflofaaGreatDoorConvUnitSJ
import Derived.Test.YtehkknphcflofaaGreatDoorConvUnitIJ
import Derived.Test.YtehkknphcflofaaGreatDoorJU10
namespace Go.Proofs.YtehkknphcflofaaGreatDoor
open Go.ChangeShapes Go.WideShapes Go.ChangeAt Go.RowKit
open Go.ChangeMaps (open_string shut_string)

set_option maxHeartbeats 1000000 in
set_option maxRecDepth 100000 in
theorem lawUnitRate (va : Value) (a : TI) (p q : ByteArray) (w : World) (hca : capT a) (ht0 : CurTab w) (ht1 : Sen w) (ra : RdT w va a) :
    Calls Tryz.prog 8 #[va, .string p, .string q] w fun e w' => e = .returned (.bool true) ∧ Below w.heap.size w w' := by
  have hsa := szT_nonneg a
  by_cases hlp : p.size ≤ 1048576
  · by_cases hlq : q.size ≤ 1048576
    · by_cases hla : szT a ≤ 1048576
      · exact lawUnitRate_walk va a p q (unitR a p q).1 (unitR a p q).2 w (fun ua W ha => specUnitRate_any ua a p q W (by have := (szT_mem hla).1; omega) (fun x hx => (szE_len ((szT_mem hla).2 x hx)).2.2) ha.ownR) (fun ua W ha h1 h2 => implUnitRate_any ua a p q W (by have := (szT_mem hla).1; omega) (fun x hx => (szE_len ((szT_mem hla).2 x hx)).2.2) ha.ownR h1 h2) ht0 ht1 hla hlp hlq (unitR_sz a p q) ra
      · have hcp : ¬ (1048576 < p.size) := by omega
        have hcq : ¬ (1048576 < q.size) := by omega
        obtain ⟨Aa, ca, rfl⟩ := rdT_form ra
        have bb0 : Below w.heap.size w (w.alloc (.cells #[.string a.1, .slice Aa a.2.length ca] 78)) := below_al (Below.refl _ _) _
        have ka := (box_new w #[.string a.1, .slice Aa a.2.length ca] 78)
        go_enter Tryz.func8, Tryz.ntmps8
        have ka_c0 := ka.here.cell 0 _ rfl
        have ka_c1 := ka.here.cell 1 _ rfl
        go_wp2_with fail
        clear ka_c0 ka_c1
        refine (szT_cal _ a (1048576) _ hca (by omega) (by omega) (ra.below bb0)).mono ?_
        rintro e w1 ⟨rfl, b1⟩
        rw [show leftI (1048576) (szT a) = -1 by unfold leftI; rw [if_pos (by omega)]]
        go_wp2
        go_ret
        exact ⟨rfl, Below.next bb0 b1⟩
    · have hcp : ¬ (1048576 < p.size) := by omega
      obtain ⟨Aa, ca, rfl⟩ := rdT_form ra
      go_enter Tryz.func8, Tryz.ntmps8
      go_wp2
      go_ret
      exact ⟨rfl, below_al (Below.refl _ _) _⟩
  · obtain ⟨Aa, ca, rfl⟩ := rdT_form ra
    go_enter Tryz.func8, Tryz.ntmps8
    go_wp2
    go_ret
    exact ⟨rfl, below_al (Below.refl _ _) _⟩

set_option maxRecDepth 100000 in
theorem fnExactUnitRate_met (os : Os) : laidMet Tryz.prog Rows.fnExactUnitRateRow.laid ((curSenWorld os).forCall (fun _ _ => 0) ⟨#[], #[.agg #[.string ⟨#[]⟩, .slice none 0 0], .string ⟨#[]⟩, .string ⟨#[]⟩], []⟩).memory :=
  laidMet_of_run' 8 (by kernel_rfl) (by kernel_rfl)
set_option maxRecDepth 100000 in
theorem fnExactUnitRate_reads (os : Os) {H : Type} (enc : TypeId × Value → H) : ∃ gs places, DataW.whole enc Tryz.prog ((curSenWorld os).forCall (fun _ _ => 0) ⟨#[], #[.agg #[.string ⟨#[]⟩, .slice none 0 0], .string ⟨#[]⟩, .string ⟨#[]⟩], []⟩).memory Tryz.f8.params.toList Rows.fnExactUnitRateSpec.vars false (#[.agg #[.string ⟨#[]⟩, .slice none 0 0], .string ⟨#[]⟩, .string ⟨#[]⟩] : Array Value).toList 8 = some ([.agg [.lit (.string []), .nil], .lit (.string []), .lit (.string [])], gs, places) :=
  ⟨[Rows.laid_loop_example_g00793_impl_currencies, tok enc (.iface 349 (.pointer (some ⟨low, 0, none⟩)))], MemPlace.row ⟨1, 0, none⟩ 80 ++ [.cell 2 0], by kernel_rfl⟩

set_option maxRecDepth 100000 in
theorem fnExactUnitRate_lifted (os : Os) (started : os.Started) (H : Type) (enc : TypeId × Value → H) (F : Stop.Interp) :
    ReturnsInHanded {} Tryz.checked os 8 .any ((OpenSpec.ofChange Rows.fnExactUnitRateSpec).preRow enc Tryz.prog Tryz.f8 Rows.fnExactUnitRateRow.domain false Rows.fnExactUnitRateRow.laid) (((OpenSpec.ofChange Rows.fnExactUnitRateSpec).at F).post enc Tryz.prog Tryz.f8 false true false false) := by
  obtain ⟨gs, places, hx⟩ := fnExactUnitRate_reads os enc
  refine law_lifted_vars started (by kernel_rfl) Tryz.func8 (by kernel_rfl) (tb := 4) (by kernel_rfl) Tryz.underlying4 (by kernel_rfl)
    (witness_row_at (enc := enc) (C := Tryz.checked) false (curSenWorld os) #[.agg #[.string ⟨#[]⟩, .slice none 0 0], .string ⟨#[]⟩, .string ⟨#[]⟩] rfl (by kernel_rfl) (by kernel_rfl) (by kernel_rfl)
      (OpenSpec.preRow_of_cond 8 hx (by kernel_rfl) (fun k hk => by cases hk) (by kernel_rfl) (fnExactUnitRate_met os))) ?_
  intro W base args ds p hval hA _ hL
  have ht := curTab_of (l := [("loop.example/g00793/impl.errZeroDivisor", Rows.laid_loop_example_g00793_impl_errZeroDivisor), ("loop.example/g00793/impl.currencies", Rows.laid_loop_example_g00793_impl_currencies)]) (show laidMet Tryz.prog [("loop.example/g00793/impl.errZeroDivisor", Rows.laid_loop_example_g00793_impl_errZeroDivisor), ("loop.example/g00793/impl.currencies", Rows.laid_loop_example_g00793_impl_currencies)] W from hL) (by simp)
  rw [Tryz.params8] at hA hval
  obtain ⟨asen, hsen⟩ := sen_of (show laidMet Tryz.prog [("loop.example/g00793/impl.errZeroDivisor", Rows.laid_loop_example_g00793_impl_errZeroDivisor), ("loop.example/g00793/impl.currencies", Rows.laid_loop_example_g00793_impl_currencies)] W from hL)
  have hse : Sen W := hsen.sen
  obtain ⟨v0, v1, v2, d0, d1, d2, p0, p1, p2, rfl, rfl, rfl, h0, h1, h2⟩ := trodAll_three hA
  obtain ⟨a, ra, hca⟩ := arg_rates (hval 0 78 v0 rfl rfl) h0
  obtain ⟨p, rfl, rfl, rfl, mp⟩ := open_string Tryz.underlying9 (hval 1 9 v1 rfl rfl) h1
  obtain ⟨q, rfl, rfl, rfl, mq⟩ := open_string Tryz.underlying9 (hval 2 9 v2 rfl rfl) h2
  exact ⟨fun gs hg => by
    match gs, hg with
    | [g1, g2], _ => rfl, lawUnitRate v0 a p q W hca ht hse ra⟩

set_option maxRecDepth 100000 in
theorem fnExactUnitRate_said : Rows.FnExactUnitRateSaid :=
  OpenClaim.holds_of_cond 8 Tryz.f8 rfl rfl rfl rfl rfl rfl rfl ⟨rfl, rfl, rfl, rfl, rfl⟩ rfl rfl rfl rfl rfl (by kernel_rfl) Tryz.func8 fnExactUnitRate_closed
    (of_decide_eq_true (by kernel_rfl)) (by unfold Func.isWrapper; first | (rw [if_pos (by decide +kernel)]; kernel_rfl) | (rw [if_neg (by decide +kernel)]; exact ⟨rfl, rfl⟩))
    (fun os started H enc _ F => by rw [OpenClaim.pre_eq_preRow]; exact fnExactUnitRate_lifted os started H enc F)

theorem fnExactUnitRate_plain (f : FuncId) (fn : Func) (hf : Tryz.pinned.checked.prog.funcNamed "loop.example/g00793/laws.FnExactUnitRate" = some f) (hfn : Tryz.pinned.checked.prog.funcs[f]? = some fn) :
    true = Tryz.pinned.checked.prog.looks [] ∧ ∀ (j : Nat) t, fn.params[j]? = some t → Tryz.pinned.checked.prog.wantsStandIn t = false := by
  obtain rfl : f = 8 := Option.some.inj ((show Tryz.prog.funcNamed "loop.example/g00793/laws.FnExactUnitRate" = some 8 by kernel_rfl).symm.trans hf) |>.symm
  obtain rfl : fn = Tryz.f8 := (Option.some.inj (Tryz.func8.symm.trans hfn)).symm
  refine ⟨by kernel_rfl, fun j t ht => ?_⟩
  rw [Tryz.params8] at ht
  have ht2 := Array.mem_of_getElem? ht
  simp at ht2
  rcases ht2 with rfl | rfl
  · exact (show Tryz.prog.wantsStandIn 78 = false by kernel_rfl)
  · exact (show Tryz.prog.wantsStandIn 9 = false by kernel_rfl)

set_option maxRecDepth 100000 in
theorem fnExactUnitRate_card : Rows.FnExactUnitRateCardSaid :=
  Claim7.holds_tied_plain_at .later [] _ _ _ _ fnExactUnitRate_said (fun _ h => by cases h) (by kernel_rfl) (fun _ h => by cases h) fnExactUnitRate_row_tie rfl ⟨rfl, rfl⟩ (by kernel_rfl) rfl fnExactUnitRate_plain fnExactUnitRate_goes
end Go.Proofs.YtehkknphcflofaaGreatDoor
