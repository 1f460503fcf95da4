/-
  For all arguments FnExactMoneyAdd returns true: sums of amounts. No conditions beyond the card's own (the listed variables hold what the program's text lays).
-/
import Derived.Test.YtcenmdiblbooeaaDoorJA11
namespace Go.Proofs.YtcenmdiblbooeaaDoor
open Go.ChangeShapes Go.WideShapes Go.ChangeAt Go.RowKit
open Go.ChangeMaps (open_string shut_string)

set_option maxHeartbeats 1000000 in
set_option maxRecDepth 100000 in
theorem lawMoneyAdd (va : Value) (vb : Value) (a : MI) (b : MI) (w : World)
    (hI : szM a ≤ 1048576 → szM b ≤ 1048576 → ∀ (ua : Value) (ub : Value) (W : World), OwnM ua a W → OwnM ub b W → CurTab W → Calls Tryd.prog 28 #[ua, ub] W (PostMb ((addM a b).1) ((addM a b).2) W))
    (hca : capM a) (hcb : capM b) (ht0 : CurTab w) (ra : RdM w va a) (rb : RdM w vb b) :
    Calls Tryd.prog 7 #[va, vb] w fun e w' => e = .returned (.bool true) ∧ Below w.heap.size w w' := by
  have hsa := szM_nonneg a
  have hsb := szM_nonneg b
  by_cases hl_0 : szM a ≤ 1048576
  · skip
    by_cases hl : szM a + szM b ≤ 1048576
    · skip
      have hla : szM a ≤ 1048576 := by omega
      have hlb : szM b ≤ 1048576 := by omega
      exact lawMoneyAdd_walk va vb a b ((addM a b).1) ((addM a b).2) w (fun ua ub W ha hb => specMoneyAdd_any ua ub a b W (szM_len hla).2 (szM_len hlb).2 ha hb) (hI hla hlb) ht0 hl (addM_sz a b) ra rb
    · skip
      obtain ⟨Aa, ca, rfl⟩ := rdM_form ra
      obtain ⟨Ab, cb, rfl⟩ := rdM_form rb
      have bb0 : Below w.heap.size w ((w.alloc (.cells #[.string a.1, .bool a.2.1, .slice Aa a.2.2.length ca] 27)).alloc (.cells #[.string b.1, .bool b.2.1, .slice Ab b.2.2.length cb] 27)) := below_al (below_al (Below.refl _ _) _) _
      have ka := (box_new w #[.string a.1, .bool a.2.1, .slice Aa a.2.2.length ca] 27).below (below_al (Below.refl _ _) (.cells #[.string b.1, .bool b.2.1, .slice Ab b.2.2.length cb] 27))
      have kb := (box_new (w.alloc (.cells #[.string a.1, .bool a.2.1, .slice Aa a.2.2.length ca] 27)) #[.string b.1, .bool b.2.1, .slice Ab b.2.2.length cb] 27)
      rw [show (w.alloc (.cells #[.string a.1, .bool a.2.1, .slice Aa a.2.2.length ca] 27)).heap.size = w.heap.size + 1 by simp] at kb
      go_enter Tryd.func7, Tryd.ntmps7
      have ka_c0 := ka.here.cell 0 _ rfl
      have ka_c1 := ka.here.cell 1 _ rfl
      have ka_c2 := ka.here.cell 2 _ rfl
      go_wp2_with fail
      clear ka_c0 ka_c1 ka_c2
      refine (szM_cal _ a (1048576) _ hca (by omega) (by omega) (ra.below bb0)).mono ?_
      rintro e w1 ⟨rfl, b1⟩
      have bb1 := Below.next bb0 b1
      replace ka := ka.below b1
      replace kb := kb.below b1
      rw [leftI_of (by omega)]
      have hn : decide (((1048576 : Int) - szM a : Int) < 0) = false := decide_eq_false (by omega)
      have kb_c0 := kb.here.cell 0 _ rfl
      have kb_c1 := kb.here.cell 1 _ rfl
      have kb_c2 := kb.here.cell 2 _ rfl
      go_wp2_with fail
      clear kb_c0 kb_c1 kb_c2
      clear hn
      refine (szM_cal _ b (1048576 - szM a) _ hcb (by omega) (by omega) (rb.below bb1)).mono ?_
      rintro e w2 ⟨rfl, b2⟩
      have bb2 := Below.next bb1 b2
      replace ka := ka.below b2
      replace kb := kb.below b2
      rw [show leftI (1048576 - szM a) (szM b) = -1 by unfold leftI; rw [if_pos (by omega)]]
      go_wp2
      go_ret
      exact ⟨rfl, bb2⟩
  · skip
    obtain ⟨Aa, ca, rfl⟩ := rdM_form ra
    obtain ⟨Ab, cb, rfl⟩ := rdM_form rb
    have bb0 : Below w.heap.size w ((w.alloc (.cells #[.string a.1, .bool a.2.1, .slice Aa a.2.2.length ca] 27)).alloc (.cells #[.string b.1, .bool b.2.1, .slice Ab b.2.2.length cb] 27)) := below_al (below_al (Below.refl _ _) _) _
    have ka := (box_new w #[.string a.1, .bool a.2.1, .slice Aa a.2.2.length ca] 27).below (below_al (Below.refl _ _) (.cells #[.string b.1, .bool b.2.1, .slice Ab b.2.2.length cb] 27))
    go_enter Tryd.func7, Tryd.ntmps7
    have ka_c0 := ka.here.cell 0 _ rfl
    have ka_c1 := ka.here.cell 1 _ rfl
    have ka_c2 := ka.here.cell 2 _ rfl
    go_wp2_with fail
    clear ka_c0 ka_c1 ka_c2
    refine (szM_cal _ a (1048576) _ hca (by omega) (by omega) (ra.below bb0)).mono ?_
    rintro e w1 ⟨rfl, b1⟩
    have bb1 := Below.next bb0 b1
    replace ka := ka.below b1
    rw [show leftI (1048576) (szM a) = -1 by unfold leftI; rw [if_pos (by omega)]]
    go_wp2
    go_ret
    exact ⟨rfl, bb1⟩

set_option maxRecDepth 100000 in
theorem fnExactMoneyAdd_met (os : Os) : laidMet Tryd.prog Rows.fnExactMoneyAddRow.laid ((curWorld os).forCall (fun _ _ => 0) ⟨#[], #[.agg #[.string ⟨#[]⟩, .bool false, .slice none 0 0], .agg #[.string ⟨#[]⟩, .bool false, .slice none 0 0]], []⟩).memory :=
  laidMet_of_run' 8 (by kernel_rfl) (by kernel_rfl)
set_option maxRecDepth 100000 in
theorem fnExactMoneyAdd_reads (os : Os) {H : Type} (enc : TypeId × Value → H) : ∃ gs places, DataW.whole enc Tryd.prog ((curWorld os).forCall (fun _ _ => 0) ⟨#[], #[.agg #[.string ⟨#[]⟩, .bool false, .slice none 0 0], .agg #[.string ⟨#[]⟩, .bool false, .slice none 0 0]], []⟩).memory Tryd.f7.params.toList Rows.fnExactMoneyAddSpec.vars false (#[.agg #[.string ⟨#[]⟩, .bool false, .slice none 0 0], .agg #[.string ⟨#[]⟩, .bool false, .slice none 0 0]] : Array Value).toList 8 = some ([.agg [.lit (.string []), .agg [.lit (.bool false), .nil]], .agg [.lit (.string []), .agg [.lit (.bool false), .nil]]], gs, places) :=
  ⟨[Rows.laid_loop_example_g00793_impl_currencies], MemPlace.row ⟨0, 0, none⟩ 80, by kernel_rfl⟩

set_option maxRecDepth 100000 in
theorem fnExactMoneyAdd_lifted (os : Os) (started : os.Started) (H : Type) (enc : TypeId × Value → H) (F : Stop.Interp) :
    ReturnsInHanded {} Tryd.checked os 7 .any ((OpenSpec.ofChange Rows.fnExactMoneyAddSpec).preRow enc Tryd.prog Tryd.f7 Rows.fnExactMoneyAddRow.domain false Rows.fnExactMoneyAddRow.laid) (((OpenSpec.ofChange Rows.fnExactMoneyAddSpec).at F).post enc Tryd.prog Tryd.f7 false true false false) := by
  obtain ⟨gs, places, hx⟩ := fnExactMoneyAdd_reads os enc
  refine law_lifted_vars started (by kernel_rfl) Tryd.func7 (by kernel_rfl) (tb := 4) (by kernel_rfl) Tryd.underlying4 (by kernel_rfl)
    (witness_row_at (enc := enc) (C := Tryd.checked) false (curWorld os) #[.agg #[.string ⟨#[]⟩, .bool false, .slice none 0 0], .agg #[.string ⟨#[]⟩, .bool false, .slice none 0 0]] rfl (by kernel_rfl) (by kernel_rfl) (by kernel_rfl)
      (OpenSpec.preRow_of_cond 8 hx (by kernel_rfl) (fun k hk => by cases hk) (by kernel_rfl) (fnExactMoneyAdd_met os))) ?_
  intro W base args ds p hval hA _ hL
  have ht := curTab_of (l := [("loop.example/g00793/impl.currencies", Rows.laid_loop_example_g00793_impl_currencies)]) (show laidMet Tryd.prog [("loop.example/g00793/impl.currencies", Rows.laid_loop_example_g00793_impl_currencies)] W from hL) (by simp)
  rw [Tryd.params7] at hA hval
  obtain ⟨v0, v1, d0, d1, p0, p1, rfl, rfl, rfl, h0, h1⟩ := trodAll_two hA
  obtain ⟨a, ra, ma, ma2⟩ := arg_money (hval 0 27 v0 rfl rfl) h0
  unfold maxLen at ma ma2
  have hca : capM a := by unfold capM; omega
  obtain ⟨b, rb, mb, mb2⟩ := arg_money (hval 1 27 v1 rfl rfl) h1
  unfold maxLen at mb mb2
  have hcb : capM b := by unfold capM; omega
  exact ⟨fun gs hg => by
    match gs, hg with
    | [g], _ => rfl, lawMoneyAdd v0 v1 a b W (fun hla hlb ua ub W ha hb h1 => implMoneyAdd_any ua ub a b W (szM_len hla).2 (szM_len hlb).2 ha hb h1)  hca hcb ht ra rb⟩

set_option maxRecDepth 100000 in
theorem fnExactMoneyAdd_said : Rows.FnExactMoneyAddSaid :=
  OpenClaim.holds_of_cond 7 Tryd.f7 rfl rfl rfl rfl rfl rfl rfl ⟨rfl, rfl, rfl, rfl, rfl⟩ rfl rfl rfl rfl rfl (by kernel_rfl) Tryd.func7 (by kernel_rfl)
    (of_decide_eq_true (by kernel_rfl)) (by unfold Func.isWrapper; first | (rw [if_pos (by decide +kernel)]; kernel_rfl) | (rw [if_neg (by decide +kernel)]; exact ⟨rfl, rfl⟩))
    (fun os started H enc _ F => by rw [OpenClaim.pre_eq_preRow]; exact fnExactMoneyAdd_lifted os started H enc F)

theorem fnExactMoneyAdd_plain (f : FuncId) (fn : Func) (hf : Tryd.pinned.checked.prog.funcNamed "loop.example/g00793/laws.FnExactMoneyAdd" = some f) (hfn : Tryd.pinned.checked.prog.funcs[f]? = some fn) :
    true = Tryd.pinned.checked.prog.looks [] ∧ ∀ (j : Nat) t, fn.params[j]? = some t → Tryd.pinned.checked.prog.wantsStandIn t = false := by
  obtain rfl : f = 7 := Option.some.inj ((show Tryd.prog.funcNamed "loop.example/g00793/laws.FnExactMoneyAdd" = some 7 by kernel_rfl).symm.trans hf) |>.symm
  obtain rfl : fn = Tryd.f7 := (Option.some.inj (Tryd.func7.symm.trans hfn)).symm
  refine ⟨by kernel_rfl, fun j t ht => ?_⟩
  rw [Tryd.params7] at ht
  obtain rfl : t = 27 := by simpa using Array.mem_of_getElem? ht
  exact (show Tryd.prog.wantsStandIn 27 = false by kernel_rfl)

set_option maxRecDepth 100000 in
theorem fnExactMoneyAdd_card : Rows.FnExactMoneyAddCardSaid :=
  Claim7.holds_tied_plain_at .later [] _ _ _ _ fnExactMoneyAdd_said (fun _ h => by cases h) (by kernel_rfl) (fun _ h => by cases h) fnExactMoneyAdd_row_tie rfl ⟨rfl, rfl⟩ (by kernel_rfl) rfl fnExactMoneyAdd_plain (by kernel_rfl)
end Go.Proofs.YtcenmdiblbooeaaDoor
