/-
  For all arguments FnExactRatePut returns true: the table with one rate more, or another. No conditions beyond the card's own (the listed variables hold what the program's text lays).
-/
import Derived.Test.YtbpfabicampdkaaDoorJA8
namespace Go.Proofs.YtbpfabicampdkaaDoor
open Go.ChangeShapes Go.WideShapes Go.ChangeAt Go.RowKit
open Go.ChangeMaps (open_string shut_string)

set_option maxHeartbeats 1000000 in
set_option maxRecDepth 100000 in
theorem lawRatePut (va : Value) (vr : Value) (a : TI) (r : EI) (w : World)
    (hI : szT a ≤ 1048576 → szE r ≤ 1048576 → ∀ (ua : Value) (ur : Value) (W : World), OwnT ua a W → OwnE ur r W → CurTab W → Calls Tryd.prog 18 #[ua, ur] W (PostTb ((putT a r).1) ((putT a r).2) W))
    (hca : capT a) (hcr : capE r) (ht0 : CurTab w) (ra : RdT w va a) (rr : RdE w vr r) :
    Calls Tryd.prog 5 #[va, vr] w fun e w' => e = .returned (.bool true) ∧ Below w.heap.size w w' := by
  have hsa := szT_nonneg a
  have hsr := szE_nonneg r
  by_cases hl_0 : szT a ≤ 1048576
  · skip
    by_cases hl : szT a + szE r ≤ 1048576
    · skip
      have hla : szT a ≤ 1048576 := by omega
      have hlr : szE r ≤ 1048576 := by omega
      exact lawRatePut_walk va vr a r ((putT a r).1) ((putT a r).2) w (fun ua ur W ha hr => specRatePut_any ua ur a r W (szT_mem hla).1 (fun x hx => (szE_len ((szT_mem hla).2 x hx)).2.2) (szE_len hlr).2.2 ha.ownR hr) (hI hla hlr) ht0 hl (putT_sz a r) ra rr
    · skip
      obtain ⟨Aa, ca, rfl⟩ := rdT_form ra
      obtain ⟨Ar, cr, rfl⟩ := rdE_form rr
      have bb0 : Below w.heap.size w ((w.alloc (.cells #[.string a.1, .slice Aa a.2.length ca] 41)).alloc (.cells #[.string r.1, .string r.2.1, .bool r.2.2.1.1, .slice Ar r.2.2.1.2.length cr, .int .i64 r.2.2.2] 28)) := below_al (below_al (Below.refl _ _) _) _
      have ka := (box_new w #[.string a.1, .slice Aa a.2.length ca] 41).below (below_al (Below.refl _ _) (.cells #[.string r.1, .string r.2.1, .bool r.2.2.1.1, .slice Ar r.2.2.1.2.length cr, .int .i64 r.2.2.2] 28))
      have kr := (box_new (w.alloc (.cells #[.string a.1, .slice Aa a.2.length ca] 41)) #[.string r.1, .string r.2.1, .bool r.2.2.1.1, .slice Ar r.2.2.1.2.length cr, .int .i64 r.2.2.2] 28)
      rw [show (w.alloc (.cells #[.string a.1, .slice Aa a.2.length ca] 41)).heap.size = w.heap.size + 1 by simp] at kr
      go_enter Tryd.func5, Tryd.ntmps5
      have ka_c0 := ka.here.cell 0 _ rfl
      have ka_c1 := ka.here.cell 1 _ rfl
      go_wp2_with fail
      clear ka_c0 ka_c1
      refine (szT_cal _ a (1048576) _ hca (by omega) (by omega) (ra.below bb0)).mono ?_
      rintro e w1 ⟨rfl, b1⟩
      have bb1 := Below.next bb0 b1
      replace ka := ka.below b1
      replace kr := kr.below b1
      rw [leftI_of (by omega)]
      have hn : decide (((1048576 : Int) - szT a : Int) < 0) = false := decide_eq_false (by omega)
      have kr_c0 := kr.here.cell 0 _ rfl
      have kr_c1 := kr.here.cell 1 _ rfl
      have kr_c2 := kr.here.cell 2 _ rfl
      have kr_c3 := kr.here.cell 3 _ rfl
      have kr_c4 := kr.here.cell 4 _ rfl
      go_wp2_with fail
      clear kr_c0 kr_c1 kr_c2 kr_c3 kr_c4
      clear hn
      refine (szE_cal _ r (1048576 - szT a) _ hcr (by omega) (by omega) (rr.below bb1)).mono ?_
      rintro e w2 ⟨rfl, b2⟩
      have bb2 := Below.next bb1 b2
      replace ka := ka.below b2
      replace kr := kr.below b2
      rw [show leftI (1048576 - szT a) (szE r) = -1 by unfold leftI; rw [if_pos (by omega)]]
      go_wp2
      go_ret
      exact ⟨rfl, bb2⟩
  · skip
    obtain ⟨Aa, ca, rfl⟩ := rdT_form ra
    obtain ⟨Ar, cr, rfl⟩ := rdE_form rr
    have bb0 : Below w.heap.size w ((w.alloc (.cells #[.string a.1, .slice Aa a.2.length ca] 41)).alloc (.cells #[.string r.1, .string r.2.1, .bool r.2.2.1.1, .slice Ar r.2.2.1.2.length cr, .int .i64 r.2.2.2] 28)) := below_al (below_al (Below.refl _ _) _) _
    have ka := (box_new w #[.string a.1, .slice Aa a.2.length ca] 41).below (below_al (Below.refl _ _) (.cells #[.string r.1, .string r.2.1, .bool r.2.2.1.1, .slice Ar r.2.2.1.2.length cr, .int .i64 r.2.2.2] 28))
    go_enter Tryd.func5, Tryd.ntmps5
    have ka_c0 := ka.here.cell 0 _ rfl
    have ka_c1 := ka.here.cell 1 _ rfl
    go_wp2_with fail
    clear ka_c0 ka_c1
    refine (szT_cal _ a (1048576) _ hca (by omega) (by omega) (ra.below bb0)).mono ?_
    rintro e w1 ⟨rfl, b1⟩
    have bb1 := Below.next bb0 b1
    replace ka := ka.below b1
    rw [show leftI (1048576) (szT a) = -1 by unfold leftI; rw [if_pos (by omega)]]
    go_wp2
    go_ret
    exact ⟨rfl, bb1⟩

set_option maxRecDepth 100000 in
theorem fnExactRatePut_met (os : Os) : laidMet Tryd.prog Rows.fnExactRatePutRow.laid ((curWorld os).forCall (fun _ _ => 0) ⟨#[], #[.agg #[.string ⟨#[]⟩, .slice none 0 0], .agg #[.string ⟨#[]⟩, .string ⟨#[]⟩, .bool false, .slice none 0 0, .int .i64 0]], []⟩).memory :=
  laidMet_of_run' 8 (by kernel_rfl) (by kernel_rfl)
set_option maxRecDepth 100000 in
theorem fnExactRatePut_reads (os : Os) {H : Type} (enc : TypeId × Value → H) : ∃ gs places, DataW.whole enc Tryd.prog ((curWorld os).forCall (fun _ _ => 0) ⟨#[], #[.agg #[.string ⟨#[]⟩, .slice none 0 0], .agg #[.string ⟨#[]⟩, .string ⟨#[]⟩, .bool false, .slice none 0 0, .int .i64 0]], []⟩).memory Tryd.f5.params.toList Rows.fnExactRatePutSpec.vars false (#[.agg #[.string ⟨#[]⟩, .slice none 0 0], .agg #[.string ⟨#[]⟩, .string ⟨#[]⟩, .bool false, .slice none 0 0, .int .i64 0]] : Array Value).toList 8 = some ([.agg [.lit (.string []), .nil], .agg [.lit (.string []), .lit (.string []), .agg [.agg [.lit (.bool false), .nil], .lit (.int .i64 0)]]], gs, places) :=
  ⟨[Rows.laid_loop_example_g00793_impl_currencies], MemPlace.row ⟨0, 0, none⟩ 80, by kernel_rfl⟩

set_option maxRecDepth 100000 in
theorem fnExactRatePut_lifted (os : Os) (started : os.Started) (H : Type) (enc : TypeId × Value → H) (F : Stop.Interp) :
    ReturnsInHanded {} Tryd.checked os 5 .any ((OpenSpec.ofChange Rows.fnExactRatePutSpec).preRow enc Tryd.prog Tryd.f5 Rows.fnExactRatePutRow.domain false Rows.fnExactRatePutRow.laid) (((OpenSpec.ofChange Rows.fnExactRatePutSpec).at F).post enc Tryd.prog Tryd.f5 false true false false) := by
  obtain ⟨gs, places, hx⟩ := fnExactRatePut_reads os enc
  refine law_lifted_vars started (by kernel_rfl) Tryd.func5 (by kernel_rfl) (tb := 4) (by kernel_rfl) Tryd.underlying4 (by kernel_rfl)
    (witness_row_at (enc := enc) (C := Tryd.checked) false (curWorld os) #[.agg #[.string ⟨#[]⟩, .slice none 0 0], .agg #[.string ⟨#[]⟩, .string ⟨#[]⟩, .bool false, .slice none 0 0, .int .i64 0]] rfl (by kernel_rfl) (by kernel_rfl) (by kernel_rfl)
      (OpenSpec.preRow_of_cond 8 hx (by kernel_rfl) (fun k hk => by cases hk) (by kernel_rfl) (fnExactRatePut_met os))) ?_
  intro W base args ds p hval hA _ hL
  have ht := curTab_of (l := [("loop.example/g00793/impl.currencies", Rows.laid_loop_example_g00793_impl_currencies)]) (show laidMet Tryd.prog [("loop.example/g00793/impl.currencies", Rows.laid_loop_example_g00793_impl_currencies)] W from hL) (by simp)
  rw [Tryd.params5] at hA hval
  obtain ⟨v0, v1, d0, d1, p0, p1, rfl, rfl, rfl, h0, h1⟩ := trodAll_two hA
  obtain ⟨a, ra, hca⟩ := arg_rates (hval 0 41 v0 rfl rfl) h0
  obtain ⟨r, rr, mr, mr2, mr3⟩ := arg_rate (hval 1 28 v1 rfl rfl) h1
  unfold maxLen at mr mr2 mr3
  have hcr : capE r := by unfold capE; omega
  exact ⟨fun gs hg => by
    match gs, hg with
    | [g], _ => rfl, lawRatePut v0 v1 a r W (fun hla hlr ua ur W ha hr h1 => implRatePut_any ua ur a r W (szT_mem hla).1 (fun x hx => (szE_len ((szT_mem hla).2 x hx)).2.2) (szE_len hlr).2.2 ha.ownR hr h1) hca hcr ht ra rr⟩

set_option maxRecDepth 100000 in
theorem fnExactRatePut_said : Rows.FnExactRatePutSaid :=
  OpenClaim.holds_of_cond 5 Tryd.f5 rfl rfl rfl rfl rfl rfl rfl ⟨rfl, rfl, rfl, rfl, rfl⟩ rfl rfl rfl rfl rfl (by kernel_rfl) Tryd.func5 (by kernel_rfl)
    (of_decide_eq_true (by kernel_rfl)) (by unfold Func.isWrapper; first | (rw [if_pos (by decide +kernel)]; kernel_rfl) | (rw [if_neg (by decide +kernel)]; exact ⟨rfl, rfl⟩))
    (fun os started H enc _ F => by rw [OpenClaim.pre_eq_preRow]; exact fnExactRatePut_lifted os started H enc F)

theorem fnExactRatePut_plain (f : FuncId) (fn : Func) (hf : Tryd.pinned.checked.prog.funcNamed "loop.example/g00793/laws.FnExactRatePut" = some f) (hfn : Tryd.pinned.checked.prog.funcs[f]? = some fn) :
    false = Tryd.pinned.checked.prog.looks [] ∧ ∀ (j : Nat) t, fn.params[j]? = some t → Tryd.pinned.checked.prog.wantsStandIn t = false := by
  obtain rfl : f = 5 := Option.some.inj ((show Tryd.prog.funcNamed "loop.example/g00793/laws.FnExactRatePut" = some 5 by kernel_rfl).symm.trans hf) |>.symm
  obtain rfl : fn = Tryd.f5 := (Option.some.inj (Tryd.func5.symm.trans hfn)).symm
  refine ⟨by kernel_rfl, fun j t ht => ?_⟩
  rw [Tryd.params5] at ht
  have ht2 := Array.mem_of_getElem? ht
  simp at ht2
  rcases ht2 with rfl | rfl
  · exact (show Tryd.prog.wantsStandIn 41 = false by kernel_rfl)
  · exact (show Tryd.prog.wantsStandIn 28 = false by kernel_rfl)

set_option maxRecDepth 100000 in
theorem fnExactRatePut_card : Rows.FnExactRatePutCardSaid :=
  Claim7.holds_tied_plain_at .later [] _ _ _ _ fnExactRatePut_said (fun _ h => by cases h) (by kernel_rfl) (fun _ h => by cases h) fnExactRatePut_row_tie rfl ⟨rfl, rfl⟩ (by kernel_rfl) rfl fnExactRatePut_plain (by kernel_rfl)
end Go.Proofs.YtbpfabicampdkaaDoor
