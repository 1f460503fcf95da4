/-
  For all arguments FnExactConvert returns true: an amount in another currency, converted and rounded once. No conditions beyond the card's own (the listed variables hold what the program's text lays).
-/
import Derived.Test.YtipbdpdmefcofabGreatDoorConvCardConvertG
import Derived.Test.YtipbdpdmefcofabGreatDoorConvCardConvertH
import Derived.Test.YtipbdpdmefcofabGreatDoorJC12
namespace Go.Proofs.YtipbdpdmefcofabGreatDoor
open Go.ChangeShapes Go.WideShapes Go.ChangeAt Go.RowKit
open Go.ChangeMaps (open_string shut_string)

theorem cv_sz (t : TI) (l : List MI) (c : ByteArray) (k : Int) : szM (cvM t l c k) ≤ 1048576 ∧ szQ (cvQ t l c k) ≤ 1048576 := by
  unfold cvM cvQ
  split
  · exact ⟨rm_szC c (sumQ t c l) k, rmQ_szC c (sumQ t c l) k⟩
  · exact ⟨by decide, by decide⟩
theorem szM_SC {a : MI} (h : szM a ≤ 1048576) : szS a.2 ≤ 1048576 := by unfold szM at h; omega
set_option maxHeartbeats 1000000 in
set_option maxRecDepth 100000 in
theorem lawConvert (va vm : Value) (a : TI) (m : MI) (q : ByteArray) (k : Int) (w : World) (hca : capT a) (hcm : capM m) (ht0 : CurTab w) (ht1 : Sen w) (ht2 : ErrTy w) (ra : RdT w va a) (rm : RdM w vm m) :
    Calls Tryz.prog 3 #[va, vm, .string q, .int .i64 k] w fun e w' => e = .returned (.bool true) ∧ Below w.heap.size w w' := by
  have hsa := szT_nonneg a
  have hsm := szM_nonneg m
  by_cases hlq : q.size ≤ 1048576
  · by_cases hl : szT a + szM m ≤ 1048576
    · have hla : szT a ≤ 1048576 := by omega
      have hlm : szM m ≤ 1048576 := by omega
      exact lawConvert_walk va vm a m q k (cvM a [m] q k) (cvQ a [m] q k) (cvN a [m] q k) w (fun ua um W ha hm => specConvert_any ua um a m q k W (by have := (szT_mem hla).1; omega) (fun x hx => (szE_len ((szT_mem hla).2 x hx)).2.2) (szM_SC hlm) ha.ownR hm) (fun ua um W ha hm h1 h2 h3 => implConvert_any ua um a m q k W (by have := (szT_mem hla).1; omega) (fun x hx => (szE_len ((szT_mem hla).2 x hx)).2.2) (szM_SC hlm) ha.ownR hm h1 h2 h3) ht0 ht1 ht2 hl hlq (cv_sz a [m] q k).1 (cv_sz a [m] q k).2 ra rm
    · have hcq : ¬ (1048576 < q.size) := by omega
      obtain ⟨Aa, ca, rfl⟩ := rdT_form ra
      obtain ⟨Am, cm, rfl⟩ := rdM_form rm
      have bb0 : Below w.heap.size w ((w.alloc (.cells #[.string a.1, .slice Aa a.2.length ca] 24)).alloc (.cells #[.string m.1, .bool m.2.1, .slice Am m.2.2.length cm] 29)) := below_al (below_al (Below.refl _ _) _) _
      have ka := (box_new w #[.string a.1, .slice Aa a.2.length ca] 24).below (below_al (Below.refl _ _) (.cells #[.string m.1, .bool m.2.1, .slice Am m.2.2.length cm] 29))
      have km := box_new (w.alloc (.cells #[.string a.1, .slice Aa a.2.length ca] 24)) #[.string m.1, .bool m.2.1, .slice Am m.2.2.length cm] 29
      rw [show (w.alloc (.cells #[.string a.1, .slice Aa a.2.length ca] 24)).heap.size = w.heap.size + 1 by simp] at km
      go_enter Tryz.func3, Tryz.ntmps3
      have ka_c0 := ka.here.cell 0 _ rfl
      have ka_c1 := ka.here.cell 1 _ rfl
      go_wp2_with fail
      clear ka_c0 ka_c1
      refine (szT_cal _ a (1048576) _ hca (by omega) (by omega) (ra.below bb0)).mono ?_
      rintro e w1 ⟨rfl, b1⟩
      have bb1 := Below.next bb0 b1
      by_cases hla : szT a ≤ 1048576
      · rw [leftI_of (by omega)]
        have hn : decide (((1048576 : Int) - szT a : Int) < 0) = false := decide_eq_false (by omega)
        replace km := km.below b1
        have km_c0 := km.here.cell 0 _ rfl
        have km_c1 := km.here.cell 1 _ rfl
        have km_c2 := km.here.cell 2 _ rfl
        go_wp2_with fail
        clear km_c0 km_c1 km_c2 hn
        refine (szM_cal _ m (1048576 - szT a) _ hcm (by omega) (by omega) (rm.below bb1)).mono ?_
        rintro e w2 ⟨rfl, b2⟩
        rw [show leftI (1048576 - szT a) (szM m) = -1 by unfold leftI; rw [if_pos (by omega)]]
        go_wp2
        go_ret
        exact ⟨rfl, Below.next bb1 b2⟩
      · rw [show leftI (1048576) (szT a) = -1 by unfold leftI; rw [if_pos (by omega)]]
        go_wp2
        go_ret
        exact ⟨rfl, bb1⟩
  · obtain ⟨Aa, ca, rfl⟩ := rdT_form ra
    obtain ⟨Am, cm, rfl⟩ := rdM_form rm
    go_enter Tryz.func3, Tryz.ntmps3
    go_wp2
    go_ret
    exact ⟨rfl, below_al (below_al (Below.refl _ _) _) _⟩

set_option maxRecDepth 100000 in
theorem fnExactConvert_met (os : Os) : laidMetH Tryz.prog Rows.fnExactConvertRow.laid ((curErrWorld os).forCall (fun _ _ => 0) ⟨#[], #[.agg #[.string ⟨#[]⟩, .slice none 0 0], .agg #[.string ⟨#[]⟩, .bool false, .slice none 0 0], .string ⟨#[]⟩, .int .i64 0], []⟩).memory :=
  laidMetH_of_parts (laidMet_of_run' 8 (by kernel_rfl) (by kernel_rfl)) (by kernel_rfl)
set_option maxRecDepth 100000 in
theorem fnExactConvert_reads (os : Os) {H : Type} (enc : TypeId × Value → H) : ∃ gs places, DataW.whole enc Tryz.prog ((curErrWorld os).forCall (fun _ _ => 0) ⟨#[], #[.agg #[.string ⟨#[]⟩, .slice none 0 0], .agg #[.string ⟨#[]⟩, .bool false, .slice none 0 0], .string ⟨#[]⟩, .int .i64 0], []⟩).memory Tryz.f3.params.toList Rows.fnExactConvertSpec.vars false (#[.agg #[.string ⟨#[]⟩, .slice none 0 0], .agg #[.string ⟨#[]⟩, .bool false, .slice none 0 0], .string ⟨#[]⟩, .int .i64 0] : Array Value).toList 8 = some ([.agg [.lit (.string []), .nil], .agg [.lit (.string []), .agg [.lit (.bool false), .nil]], .lit (.string []), .lit (.int .i64 0)], gs, places) :=
  ⟨[Rows.laid_loop_example_g00793_impl_currencies, tok enc (.iface 230 (.pointer (some ⟨low, 0, none⟩)))], MemPlace.row ⟨1, 0, none⟩ 80 ++ [.cell 2 0], by kernel_rfl⟩

set_option maxRecDepth 100000 in
theorem fnExactConvert_lifted (os : Os) (started : os.Started) (H : Type) (enc : TypeId × Value → H) (F : Stop.Interp) :
    ReturnsInHanded {} Tryz.checked os 3 .any ((OpenSpec.ofChange Rows.fnExactConvertSpec).preRow enc Tryz.prog Tryz.f3 Rows.fnExactConvertRow.domain false Rows.fnExactConvertRow.laid) (((OpenSpec.ofChange Rows.fnExactConvertSpec).at F).post enc Tryz.prog Tryz.f3 false true false false) := by
  obtain ⟨gs, places, hx⟩ := fnExactConvert_reads os enc
  refine law_lifted_vars started (by kernel_rfl) Tryz.func3 (by kernel_rfl) (tb := 4) (by kernel_rfl) Tryz.underlying4 (by kernel_rfl)
    (witness_row_at (enc := enc) (C := Tryz.checked) false (curErrWorld os) #[.agg #[.string ⟨#[]⟩, .slice none 0 0], .agg #[.string ⟨#[]⟩, .bool false, .slice none 0 0], .string ⟨#[]⟩, .int .i64 0] rfl (by kernel_rfl) (by kernel_rfl) (by kernel_rfl)
      (OpenSpec.preRow_of_cond 8 hx (by kernel_rfl) (fun k hk => by cases hk) (by kernel_rfl) (fnExactConvert_met os))) ?_
  intro W base args ds p hval hA _ hL
  have hLH : laidMet Tryz.prog [("loop.example/g00793/impl.errZeroDivisor", Rows.laid_loop_example_g00793_impl_errZeroDivisor), ("loop.example/g00793/impl.currencies", Rows.laid_loop_example_g00793_impl_currencies)] W ∧ handlesMet Tryz.prog [("errors.errorType", Rows.laid_errors_errorType)] W := hL
  have ht := curTab_of (l := [("loop.example/g00793/impl.errZeroDivisor", Rows.laid_loop_example_g00793_impl_errZeroDivisor), ("loop.example/g00793/impl.currencies", Rows.laid_loop_example_g00793_impl_currencies)]) hLH.1 (by simp)
  rw [Tryz.params3] at hA hval
  obtain ⟨asen, hsen⟩ := sen_of hLH.1
  have hse : Sen W := hsen.sen
  have het := errTy_of hLH.2
  obtain ⟨v0, v1, v2, v3, d0, d1, d2, d3, p0, p1, p2, p3, rfl, rfl, rfl, h0, h1, h2, h3⟩ := trodAll_four hA
  obtain ⟨a, ra, hca⟩ := arg_rates (hval 0 24 v0 rfl rfl) h0
  obtain ⟨m, rm, mm, mm2⟩ := arg_money (hval 1 29 v1 rfl rfl) h1
  unfold maxLen at mm mm2
  have hcm : capM m := by unfold capM; omega
  obtain ⟨q, rfl, rfl, rfl, mq⟩ := open_string Tryz.underlying9 (hval 2 9 v2 rfl rfl) h2
  obtain ⟨k, rfl, rfl, rfl, wk⟩ := open_int Tryz.underlying3 (hval 3 3 v3 rfl rfl) h3
  have jk : -9223372036854775808 ≤ k ∧ k ≤ 9223372036854775807 := by simpa [Lit.wf, IntKind.min, IntKind.max, IntKind.signed, IntKind.bits] using wk
  exact ⟨fun gs hg => by
    match gs, hg with
    | [g1, g2], _ => rfl, lawConvert v0 v1 a m q k W hca hcm ht hse het ra rm⟩

set_option maxRecDepth 100000 in
theorem fnExactConvert_said : Rows.FnExactConvertSaid :=
  OpenClaim.holds_of_cond 3 Tryz.f3 rfl rfl rfl rfl rfl rfl rfl ⟨rfl, rfl, rfl, rfl, rfl⟩ rfl rfl rfl rfl rfl (by kernel_rfl) Tryz.func3 fnExactConvert_closed
    (of_decide_eq_true (by kernel_rfl)) (by unfold Func.isWrapper; first | (rw [if_pos (by decide +kernel)]; kernel_rfl) | (rw [if_neg (by decide +kernel)]; exact ⟨rfl, rfl⟩))
    (fun os started H enc _ F => by rw [OpenClaim.pre_eq_preRow]; exact fnExactConvert_lifted os started H enc F)

theorem fnExactConvert_plain (f : FuncId) (fn : Func) (hf : Tryz.pinned.checked.prog.funcNamed "loop.example/g00793/laws.FnExactConvert" = some f) (hfn : Tryz.pinned.checked.prog.funcs[f]? = some fn) :
    true = Tryz.pinned.checked.prog.looks [] ∧ ∀ (j : Nat) t, fn.params[j]? = some t → Tryz.pinned.checked.prog.wantsStandIn t = false := by
  obtain rfl : f = 3 := Option.some.inj ((show Tryz.prog.funcNamed "loop.example/g00793/laws.FnExactConvert" = some 3 by kernel_rfl).symm.trans hf) |>.symm
  obtain rfl : fn = Tryz.f3 := (Option.some.inj (Tryz.func3.symm.trans hfn)).symm
  refine ⟨by kernel_rfl, fun j t ht => ?_⟩
  rw [Tryz.params3] at ht
  have ht2 := Array.mem_of_getElem? ht
  simp at ht2
  rcases ht2 with rfl | rfl | rfl | rfl
  · exact (show Tryz.prog.wantsStandIn 24 = false by kernel_rfl)
  · exact (show Tryz.prog.wantsStandIn 29 = false by kernel_rfl)
  · exact (show Tryz.prog.wantsStandIn 9 = false by kernel_rfl)
  · exact (show Tryz.prog.wantsStandIn 3 = false by kernel_rfl)

set_option maxRecDepth 100000 in
theorem fnExactConvert_card : Rows.FnExactConvertCardSaid :=
  Claim7.holds_tied_plain_at .later [] _ _ _ _ fnExactConvert_said (fun _ h => by cases h) (by kernel_rfl) (fun _ h => by cases h) fnExactConvert_row_tie rfl ⟨rfl, rfl⟩ (by kernel_rfl) rfl fnExactConvert_plain fnExactConvert_goes
end Go.Proofs.YtipbdpdmefcofabGreatDoor
