/-
  For all arguments the law FnExactRatMake of chapter 6 returns true; no conditions beyond the card's own (the listed variable holds what the program's text lays).
-/
import Derived.Test.YtkkdlgiilhngcaaDoorRatLawRatMake
import Derived.Test.YtkkdlgiilhngcaaDoorRatSpec4
import Derived.Test.YtkkdlgiilhngcaaDoorRatImpl
import Derived.Test.YtkkdlgiilhngcaaDoorRatArg
import Derived.Test.YtkkdlgiilhngcaaDoorSenOnly
namespace Go.Proofs.YtkkdlgiilhngcaaDoor
open Go.ChangeShapes Go.WideShapes Go.ChangeAt Go.RowKit

theorem makeQ_sz (x y : SI) : szQ (makeQ x y).1 ≤ 1048576 := by unfold makeQ; split; exact lowQ_sz _ _ _; decide
set_option maxHeartbeats 1000000 in
set_option maxRecDepth 100000 in
theorem lawRatMake (va : Value) (vb : Value) (a : SI) (b : SI) (w : World)
    (hI : szS a ≤ 1048576 → szS b ≤ 1048576 → ∀ (ua : Value) (ub : Value) (W : World), OwnS ua a W → OwnS ub b W → Sen W → Calls Tryd.prog 20 #[ua, ub] W (PostQb ((makeQ a b).1) ((makeQ a b).2) W))
    (hca : capS a) (hcb : capS b) (ht0 : Sen w) (ra : RdS w va a) (rb : RdS w vb b) :
    Calls Tryd.prog 4 #[va, vb] w fun e w' => e = .returned (.bool true) ∧ Below w.heap.size w w' := by
  have hsa := szS_nonneg a
  have hsb := szS_nonneg b
  by_cases hl_0 : szS a ≤ 1048576
  · skip
    by_cases hl : szS a + szS b ≤ 1048576
    · skip
      have hla : szS a ≤ 1048576 := by omega
      have hlb : szS b ≤ 1048576 := by omega
      exact lawRatMake_walk va vb a b ((makeQ a b).1) ((makeQ a b).2) w (fun ua ub W ha hb => specRatMake_any ua ub a b W hla hlb ha hb) (hI hla hlb) ht0 hl (makeQ_sz a b) ra rb
    · skip
      obtain ⟨Aa, ca, rfl⟩ := rdS_form ra
      obtain ⟨Ab, cb, rfl⟩ := rdS_form rb
      have bb0 : Below w.heap.size w ((w.alloc (.cells #[.bool a.1, .slice Aa a.2.length ca] 24)).alloc (.cells #[.bool b.1, .slice Ab b.2.length cb] 24)) := below_al (below_al (Below.refl _ _) _) _
      have ka := (box_new w #[.bool a.1, .slice Aa a.2.length ca] 24).below (below_al (Below.refl _ _) (.cells #[.bool b.1, .slice Ab b.2.length cb] 24))
      have kb := (box_new (w.alloc (.cells #[.bool a.1, .slice Aa a.2.length ca] 24)) #[.bool b.1, .slice Ab b.2.length cb] 24)
      rw [show (w.alloc (.cells #[.bool a.1, .slice Aa a.2.length ca] 24)).heap.size = w.heap.size + 1 by simp] at kb
      go_enter Tryd.func4, Tryd.ntmps4
      have ka_c0 := ka.here.cell 0 _ rfl
      have ka_c1 := ka.here.cell 1 _ rfl
      go_wp2_with fail
      clear ka_c0 ka_c1
      refine (szS_cal _ a (1048576) _ hca (by omega) (by omega) (ra.below bb0)).mono ?_
      rintro e w1 ⟨rfl, b1⟩
      have bb1 := Below.next bb0 b1
      replace ka := ka.below b1
      replace kb := kb.below b1
      rw [leftI_of (by omega)]
      have hn : decide (((1048576 : Int) - szS a : Int) < 0) = false := decide_eq_false (by omega)
      have kb_c0 := kb.here.cell 0 _ rfl
      have kb_c1 := kb.here.cell 1 _ rfl
      go_wp2_with fail
      clear kb_c0 kb_c1
      clear hn
      refine (szS_cal _ b (1048576 - szS a) _ hcb (by omega) (by omega) (rb.below bb1)).mono ?_
      rintro e w2 ⟨rfl, b2⟩
      have bb2 := Below.next bb1 b2
      replace ka := ka.below b2
      replace kb := kb.below b2
      rw [show leftI (1048576 - szS a) (szS b) = -1 by unfold leftI; rw [if_pos (by omega)]]
      go_wp2
      go_ret
      exact ⟨rfl, bb2⟩
  · skip
    obtain ⟨Aa, ca, rfl⟩ := rdS_form ra
    obtain ⟨Ab, cb, rfl⟩ := rdS_form rb
    have bb0 : Below w.heap.size w ((w.alloc (.cells #[.bool a.1, .slice Aa a.2.length ca] 24)).alloc (.cells #[.bool b.1, .slice Ab b.2.length cb] 24)) := below_al (below_al (Below.refl _ _) _) _
    have ka := (box_new w #[.bool a.1, .slice Aa a.2.length ca] 24).below (below_al (Below.refl _ _) (.cells #[.bool b.1, .slice Ab b.2.length cb] 24))
    go_enter Tryd.func4, Tryd.ntmps4
    have ka_c0 := ka.here.cell 0 _ rfl
    have ka_c1 := ka.here.cell 1 _ rfl
    go_wp2_with fail
    clear ka_c0 ka_c1
    refine (szS_cal _ a (1048576) _ hca (by omega) (by omega) (ra.below bb0)).mono ?_
    rintro e w1 ⟨rfl, b1⟩
    have bb1 := Below.next bb0 b1
    replace ka := ka.below b1
    rw [show leftI (1048576) (szS a) = -1 by unfold leftI; rw [if_pos (by omega)]]
    go_wp2
    go_ret
    exact ⟨rfl, bb1⟩
set_option maxRecDepth 100000 in
theorem fnExactRatMake_met (os : Os) : laidMet Tryd.prog Rows.fnExactRatMakeRow.laid ((senWorld os).forCall (fun _ _ => 0) ⟨#[], #[.agg #[.bool false, .slice none 0 0], .agg #[.bool false, .slice none 0 0]], []⟩).memory :=
  laidMet_of_run' 8 (by kernel_rfl) (by kernel_rfl)
set_option maxRecDepth 100000 in
theorem fnExactRatMake_reads (os : Os) {H : Type} (enc : TypeId × Value → H) : ∃ gs places, DataW.whole enc Tryd.prog ((senWorld os).forCall (fun _ _ => 0) ⟨#[], #[.agg #[.bool false, .slice none 0 0], .agg #[.bool false, .slice none 0 0]], []⟩).memory Tryd.f4.params.toList Rows.fnExactRatMakeSpec.vars false (#[.agg #[.bool false, .slice none 0 0], .agg #[.bool false, .slice none 0 0]] : Array Value).toList 8 = some ([.agg [.lit (.bool false), .nil], .agg [.lit (.bool false), .nil]], gs, places) :=
  ⟨[tok enc (.iface 116 (.pointer (some ⟨low, 0, none⟩)))], [.cell 0 0], by kernel_rfl⟩

set_option maxRecDepth 100000 in
theorem fnExactRatMake_lifted (os : Os) (started : os.Started) (H : Type) (enc : TypeId × Value → H) (F : Stop.Interp) :
    ReturnsInHanded {} Tryd.checked os 4 .any ((OpenSpec.ofChange Rows.fnExactRatMakeSpec).preRow enc Tryd.prog Tryd.f4 Rows.fnExactRatMakeRow.domain false Rows.fnExactRatMakeRow.laid) (((OpenSpec.ofChange Rows.fnExactRatMakeSpec).at F).post enc Tryd.prog Tryd.f4 false true false false) := by
  obtain ⟨gs, places, hx⟩ := fnExactRatMake_reads os enc
  refine law_lifted_sen started (by kernel_rfl) Tryd.func4 (by kernel_rfl) (tb := 4) (by kernel_rfl) Tryd.underlying4 rfl (fun W h => sen_of (show laidMet Tryd.prog [("loop.example/g00793/impl.errZeroDivisor", Rows.laid_loop_example_g00793_impl_errZeroDivisor)] W from h))
    (witness_row_at (enc := enc) (C := Tryd.checked) false (senWorld os) #[.agg #[.bool false, .slice none 0 0], .agg #[.bool false, .slice none 0 0]] rfl (by kernel_rfl) (by kernel_rfl) (by kernel_rfl)
      (OpenSpec.preRow_of_cond 8 hx (by kernel_rfl) (fun k hk => by cases hk) (by kernel_rfl) (fnExactRatMake_met os))) ?_
  intro W base args ds p hval hA _ hL hs
  rw [Tryd.params4] at hA hval
  obtain ⟨v0, v1, d0, d1, p0, p1, rfl, rfl, rfl, h0, h1⟩ := trodAll_two hA
  obtain ⟨a, ra, ma⟩ := arg_signed (hval 0 24 v0 rfl rfl) h0
  unfold maxLen at ma
  have hca : capS a := by unfold capS; omega
  obtain ⟨b, rb, mb⟩ := arg_signed (hval 1 24 v1 rfl rfl) h1
  unfold maxLen at mb
  have hcb : capS b := by unfold capS; omega
  exact ⟨fun _ => rfl, lawRatMake v0 v1 a b W (fun hla hlb ua ub W ha hb hs => implRatMake_any ua ub a b W hla hlb ha hb hs) hca hcb hs ra rb⟩

set_option maxRecDepth 100000 in
theorem fnExactRatMake_said : Rows.FnExactRatMakeSaid :=
  OpenClaim.holds_of_cond 4 Tryd.f4 rfl rfl rfl rfl rfl rfl rfl ⟨rfl, rfl, rfl, rfl, rfl⟩ rfl rfl rfl rfl rfl (by kernel_rfl) Tryd.func4 (by kernel_rfl)
    (of_decide_eq_true (by kernel_rfl)) (by unfold Func.isWrapper; first | (rw [if_pos (by decide +kernel)]; kernel_rfl) | (rw [if_neg (by decide +kernel)]; exact ⟨rfl, rfl⟩))
    (fun os started H enc _ F => by rw [OpenClaim.pre_eq_preRow]; exact fnExactRatMake_lifted os started H enc F)

theorem fnExactRatMake_plain (f : FuncId) (fn : Func) (hf : Tryd.pinned.checked.prog.funcNamed "loop.example/g00793/laws.FnExactRatMake" = some f) (hfn : Tryd.pinned.checked.prog.funcs[f]? = some fn) :
    true = Tryd.pinned.checked.prog.looks [] ∧ ∀ (j : Nat) t, fn.params[j]? = some t → Tryd.pinned.checked.prog.wantsStandIn t = false := by
  obtain rfl : f = 4 := Option.some.inj ((show Tryd.prog.funcNamed "loop.example/g00793/laws.FnExactRatMake" = some 4 by kernel_rfl).symm.trans hf) |>.symm
  obtain rfl : fn = Tryd.f4 := (Option.some.inj (Tryd.func4.symm.trans hfn)).symm
  refine ⟨by kernel_rfl, fun j t ht => ?_⟩
  rw [Tryd.params4] at ht
  obtain rfl : t = 24 := by simpa using Array.mem_of_getElem? ht
  exact (show Tryd.prog.wantsStandIn 24 = false by kernel_rfl)

set_option maxRecDepth 100000 in
theorem fnExactRatMake_card : Rows.FnExactRatMakeCardSaid :=
  Claim7.holds_tied_plain_at .later [] _ _ _ _ fnExactRatMake_said (fun _ h => by cases h) (by kernel_rfl) (fun _ h => by cases h) fnExactRatMake_row_tie rfl ⟨rfl, rfl⟩ (by kernel_rfl) rfl fnExactRatMake_plain (by kernel_rfl)
end Go.Proofs.YtkkdlgiilhngcaaDoor
