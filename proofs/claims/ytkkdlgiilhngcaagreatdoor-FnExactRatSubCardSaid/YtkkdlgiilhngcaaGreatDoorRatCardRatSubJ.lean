/-
  For all arguments the law FnExactRatSub of chapter 6 returns true; no conditions beyond the card's own (the listed variable holds what the program's text lays).
-/
import Derived.Test.YtkkdlgiilhngcaaGreatDoorRatLawRatSubJ
import Derived.Test.YtkkdlgiilhngcaaGreatDoorJ10
namespace Go.Proofs.YtkkdlgiilhngcaaGreatDoor
open Go.ChangeShapes Go.WideShapes Go.ChangeAt Go.RowKit

theorem addQ_sz (x y : QI) : szQ (addQ x y).1 ≤ 1048576 := by unfold addQ; split; exact lowQ_sz _ _ _; decide
theorem subQ_sz (x y : QI) : szQ (subQ x y).1 ≤ 1048576 := by unfold subQ; split; exact addQ_sz _ _; decide
set_option maxHeartbeats 1000000 in
set_option maxRecDepth 100000 in
theorem lawRatSub (va : Value) (vb : Value) (a : QI) (b : QI) (w : World)
    (hI : szQ a ≤ 1048576 → szQ b ≤ 1048576 → ∀ (ua : Value) (ub : Value) (W : World), OwnQ ua a W → OwnQ ub b W → Sen W → Calls Tryz.prog 11 #[ua, ub] W (PostQb ((subQ a b).1) ((subQ a b).2) W))
    (hca : capQ a) (hcb : capQ b) (ht0 : Sen w) (ra : RdQ w va a) (rb : RdQ w vb b) :
    Calls Tryz.prog 4 #[va, vb] w fun e w' => e = .returned (.bool true) ∧ Below w.heap.size w w' := by
  have hsa := szQ_nonneg a
  have hsb := szQ_nonneg b
  by_cases hl_0 : szQ a ≤ 1048576
  · skip
    by_cases hl : szQ a + szQ b ≤ 1048576
    · skip
      have hla : szQ a ≤ 1048576 := by omega
      have hlb : szQ b ≤ 1048576 := by omega
      exact lawRatSub_walk va vb a b ((subQ a b).1) ((subQ a b).2) w (fun ua ub W ha hb => specRatSub_any ua ub a b W hla hlb ha hb) (hI hla hlb) ht0 hl (subQ_sz a b) ra rb
    · skip
      obtain ⟨Aa, ca, Ba, da, rfl⟩ := rdQ_form ra
      obtain ⟨Ab, cb, Bb, db, rfl⟩ := rdQ_form rb
      have bb0 : Below w.heap.size w ((w.alloc (.cells #[.bool a.1.1, .slice Aa a.1.2.length ca, .slice Ba a.2.length da] 40)).alloc (.cells #[.bool b.1.1, .slice Ab b.1.2.length cb, .slice Bb b.2.length db] 40)) := below_al (below_al (Below.refl _ _) _) _
      have ka := (box_new w #[.bool a.1.1, .slice Aa a.1.2.length ca, .slice Ba a.2.length da] 40).below (below_al (Below.refl _ _) (.cells #[.bool b.1.1, .slice Ab b.1.2.length cb, .slice Bb b.2.length db] 40))
      have kb := (box_new (w.alloc (.cells #[.bool a.1.1, .slice Aa a.1.2.length ca, .slice Ba a.2.length da] 40)) #[.bool b.1.1, .slice Ab b.1.2.length cb, .slice Bb b.2.length db] 40)
      rw [show (w.alloc (.cells #[.bool a.1.1, .slice Aa a.1.2.length ca, .slice Ba a.2.length da] 40)).heap.size = w.heap.size + 1 by simp] at kb
      go_enter Tryz.func4, Tryz.ntmps4
      have ka_c0 := ka.here.cell 0 _ rfl
      have ka_c1 := ka.here.cell 1 _ rfl
      have ka_c2 := ka.here.cell 2 _ rfl
      go_wp2_with fail
      clear ka_c0 ka_c1 ka_c2
      refine (szQ_cal _ a (1048576) _ hca (by omega) (by omega) (ra.below bb0)).mono ?_
      rintro e w1 ⟨rfl, b1⟩
      have bb1 := Below.next bb0 b1
      replace ka := ka.below b1
      replace kb := kb.below b1
      rw [leftI_of (by omega)]
      have hn : decide (((1048576 : Int) - szQ a : Int) < 0) = false := decide_eq_false (by omega)
      have kb_c0 := kb.here.cell 0 _ rfl
      have kb_c1 := kb.here.cell 1 _ rfl
      have kb_c2 := kb.here.cell 2 _ rfl
      go_wp2_with fail
      clear kb_c0 kb_c1 kb_c2
      clear hn
      refine (szQ_cal _ b (1048576 - szQ a) _ hcb (by omega) (by omega) (rb.below bb1)).mono ?_
      rintro e w2 ⟨rfl, b2⟩
      have bb2 := Below.next bb1 b2
      replace ka := ka.below b2
      replace kb := kb.below b2
      rw [show leftI (1048576 - szQ a) (szQ b) = -1 by unfold leftI; rw [if_pos (by omega)]]
      go_wp2
      go_ret
      exact ⟨rfl, bb2⟩
  · skip
    obtain ⟨Aa, ca, Ba, da, rfl⟩ := rdQ_form ra
    obtain ⟨Ab, cb, Bb, db, rfl⟩ := rdQ_form rb
    have bb0 : Below w.heap.size w ((w.alloc (.cells #[.bool a.1.1, .slice Aa a.1.2.length ca, .slice Ba a.2.length da] 40)).alloc (.cells #[.bool b.1.1, .slice Ab b.1.2.length cb, .slice Bb b.2.length db] 40)) := below_al (below_al (Below.refl _ _) _) _
    have ka := (box_new w #[.bool a.1.1, .slice Aa a.1.2.length ca, .slice Ba a.2.length da] 40).below (below_al (Below.refl _ _) (.cells #[.bool b.1.1, .slice Ab b.1.2.length cb, .slice Bb b.2.length db] 40))
    go_enter Tryz.func4, Tryz.ntmps4
    have ka_c0 := ka.here.cell 0 _ rfl
    have ka_c1 := ka.here.cell 1 _ rfl
    have ka_c2 := ka.here.cell 2 _ rfl
    go_wp2_with fail
    clear ka_c0 ka_c1 ka_c2
    refine (szQ_cal _ a (1048576) _ hca (by omega) (by omega) (ra.below bb0)).mono ?_
    rintro e w1 ⟨rfl, b1⟩
    have bb1 := Below.next bb0 b1
    replace ka := ka.below b1
    rw [show leftI (1048576) (szQ a) = -1 by unfold leftI; rw [if_pos (by omega)]]
    go_wp2
    go_ret
    exact ⟨rfl, bb1⟩
set_option maxRecDepth 100000 in
theorem fnExactRatSub_met (os : Os) : laidMet Tryz.prog Rows.fnExactRatSubRow.laid ((senWorld os).forCall (fun _ _ => 0) ⟨#[], #[.agg #[.bool false, .slice none 0 0, .slice none 0 0], .agg #[.bool false, .slice none 0 0, .slice none 0 0]], []⟩).memory :=
  laidMet_of_run' 8 (by kernel_rfl) (by kernel_rfl)
set_option maxRecDepth 100000 in
theorem fnExactRatSub_reads (os : Os) {H : Type} (enc : TypeId × Value → H) : ∃ gs places, DataW.whole enc Tryz.prog ((senWorld os).forCall (fun _ _ => 0) ⟨#[], #[.agg #[.bool false, .slice none 0 0, .slice none 0 0], .agg #[.bool false, .slice none 0 0, .slice none 0 0]], []⟩).memory Tryz.f4.params.toList Rows.fnExactRatSubSpec.vars false (#[.agg #[.bool false, .slice none 0 0, .slice none 0 0], .agg #[.bool false, .slice none 0 0, .slice none 0 0]] : Array Value).toList 8 = some ([.agg [.agg [.lit (.bool false), .nil], .nil], .agg [.agg [.lit (.bool false), .nil], .nil]], gs, places) :=
  ⟨[tok enc (.iface 185 (.pointer (some ⟨low, 0, none⟩)))], [.cell 0 0], by kernel_rfl⟩

set_option maxRecDepth 100000 in
theorem fnExactRatSub_lifted (os : Os) (started : os.Started) (H : Type) (enc : TypeId × Value → H) (F : Stop.Interp) :
    ReturnsInHanded {} Tryz.checked os 4 .any ((OpenSpec.ofChange Rows.fnExactRatSubSpec).preRow enc Tryz.prog Tryz.f4 Rows.fnExactRatSubRow.domain false Rows.fnExactRatSubRow.laid) (((OpenSpec.ofChange Rows.fnExactRatSubSpec).at F).post enc Tryz.prog Tryz.f4 false true false false) := by
  obtain ⟨gs, places, hx⟩ := fnExactRatSub_reads os enc
  refine law_lifted_sen started (by kernel_rfl) Tryz.func4 (by kernel_rfl) (tb := 4) (by kernel_rfl) Tryz.underlying4 rfl (fun W h => sen_of (show laidMet Tryz.prog [("loop.example/g00793/impl.errZeroDivisor", Rows.laid_loop_example_g00793_impl_errZeroDivisor)] W from h))
    (witness_row_at (enc := enc) (C := Tryz.checked) false (senWorld os) #[.agg #[.bool false, .slice none 0 0, .slice none 0 0], .agg #[.bool false, .slice none 0 0, .slice none 0 0]] rfl (by kernel_rfl) (by kernel_rfl) (by kernel_rfl)
      (OpenSpec.preRow_of_cond 8 hx (by kernel_rfl) (fun k hk => by cases hk) (by kernel_rfl) (fnExactRatSub_met os))) ?_
  intro W base args ds p hval hA _ hL hs
  rw [Tryz.params4] at hA hval
  obtain ⟨v0, v1, d0, d1, p0, p1, rfl, rfl, rfl, h0, h1⟩ := trodAll_two hA
  obtain ⟨a, ra, ma, ma2⟩ := arg_rat (hval 0 40 v0 rfl rfl) h0
  unfold maxLen at ma ma2
  have hca : capQ a := by unfold capQ; omega
  obtain ⟨b, rb, mb, mb2⟩ := arg_rat (hval 1 40 v1 rfl rfl) h1
  unfold maxLen at mb mb2
  have hcb : capQ b := by unfold capQ; omega
  exact ⟨fun _ => rfl, lawRatSub v0 v1 a b W (fun hla hlb ua ub W ha hb hs => implRatSub_any ua ub a b W hla hlb ha hb hs) hca hcb hs ra rb⟩

set_option maxRecDepth 100000 in
theorem fnExactRatSub_said : Rows.FnExactRatSubSaid :=
  OpenClaim.holds_of_cond 4 Tryz.f4 rfl rfl rfl rfl rfl rfl rfl ⟨rfl, rfl, rfl, rfl, rfl⟩ rfl rfl rfl rfl rfl (by kernel_rfl) Tryz.func4 (by kernel_rfl)
    (of_decide_eq_true (by kernel_rfl)) (by unfold Func.isWrapper; first | (rw [if_pos (by decide +kernel)]; kernel_rfl) | (rw [if_neg (by decide +kernel)]; exact ⟨rfl, rfl⟩))
    (fun os started H enc _ F => by rw [OpenClaim.pre_eq_preRow]; exact fnExactRatSub_lifted os started H enc F)

theorem fnExactRatSub_plain (f : FuncId) (fn : Func) (hf : Tryz.pinned.checked.prog.funcNamed "loop.example/g00793/laws.FnExactRatSub" = some f) (hfn : Tryz.pinned.checked.prog.funcs[f]? = some fn) :
    true = Tryz.pinned.checked.prog.looks [] ∧ ∀ (j : Nat) t, fn.params[j]? = some t → Tryz.pinned.checked.prog.wantsStandIn t = false := by
  obtain rfl : f = 4 := Option.some.inj ((show Tryz.prog.funcNamed "loop.example/g00793/laws.FnExactRatSub" = some 4 by kernel_rfl).symm.trans hf) |>.symm
  obtain rfl : fn = Tryz.f4 := (Option.some.inj (Tryz.func4.symm.trans hfn)).symm
  refine ⟨by kernel_rfl, fun j t ht => ?_⟩
  rw [Tryz.params4] at ht
  obtain rfl : t = 40 := by simpa using Array.mem_of_getElem? ht
  exact (show Tryz.prog.wantsStandIn 40 = false by kernel_rfl)

set_option maxRecDepth 100000 in
theorem fnExactRatSub_card : Rows.FnExactRatSubCardSaid :=
  Claim7.holds_tied_plain_at .later [] _ _ _ _ fnExactRatSub_said (fun _ h => by cases h) (by kernel_rfl) (fun _ h => by cases h) fnExactRatSub_row_tie rfl ⟨rfl, rfl⟩ (by kernel_rfl) rfl fnExactRatSub_plain (by kernel_rfl)
end Go.Proofs.YtkkdlgiilhngcaaGreatDoor
