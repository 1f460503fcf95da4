/-
  For all arguments FnExactTaxOn returns true: the tax on an amount, and the rest that rounding leaves. No conditions beyond the card's own (the listed variables hold what the program's text lays).
-/
import Derived.Test.YtofehcpapdlcnaaGreatDoorJQ10
namespace Go.Proofs.YtofehcpapdlcnaaGreatDoor
open Go.ChangeShapes Go.WideShapes Go.ChangeAt Go.RowKit
open Go.ChangeMaps (open_string shut_string)

theorem szM_S {a : MI} (h : szM a ≤ 1048576) : szS a.2 ≤ 1048576 := by unfold szM at h; omega
theorem restQ_szM (r : QI) (m : Int) : szQ (restQ r m) ≤ 1048576 := by unfold restQ; split; exact subQ_szQ _ _; decide
set_option maxHeartbeats 1000000 in
set_option maxRecDepth 100000 in
theorem lawTaxOn (vm : Value) (va : Value) (m : MI) (a : DI) (k : Int) (w : World)
    (hI : szM m ≤ 1048576 → szD a ≤ 1048576 → ∀ (um : Value) (ua : Value) (W : World), OwnM um m W → OwnD ua a W → CurTab W → Sen W → Calls Tryz.prog 12 #[um, ua, .int .i64 k] W (PostMQb (rmM m.1 (onX m a) k) (rmQ m.1 (onX m a) k) (rmB m.1 (onX m a) k) W))
    (hcm : capM m) (hca : capD a) (ht0 : CurTab w) (ht1 : Sen w) (rm : RdM w vm m) (ra : RdD w va a) :
    Calls Tryz.prog 3 #[vm, va, .int .i64 k] w fun e w' => e = .returned (.bool true) ∧ Below w.heap.size w w' := by
  have hsm := szM_nonneg m
  have hsa := szD_nonneg a
  by_cases hl_0 : szM m ≤ 1048576
  · skip
    by_cases hl : szM m + szD a ≤ 1048576
    · skip
      have hlm : szM m ≤ 1048576 := by omega
      have hla : szD a ≤ 1048576 := by omega
      exact lawTaxOn_walk vm va m a k (rmM m.1 (onX m a) k) (rmQ m.1 (onX m a) k) (rmB m.1 (onX m a) k) w (fun um ua W hm ha => specTaxOn_any um ua m a k W (szM_S hlm) (szD_len hla) hm ha) (hI hlm hla) ht0 ht1 hl ((rm_sz m.1 (onX m a) k (restQ_szM _ _)).1) ((rm_sz m.1 (onX m a) k (restQ_szM _ _)).2) rm ra
    · skip
      obtain ⟨Am, cm, rfl⟩ := rdM_form rm
      obtain ⟨Aa, ca, rfl⟩ := rdD_form ra
      have bb0 : Below w.heap.size w ((w.alloc (.cells #[.string m.1, .bool m.2.1, .slice Am m.2.2.length cm] 26)).alloc (.cells #[.bool a.1.1, .slice Aa a.1.2.length ca, .int .i64 a.2] 28)) := below_al (below_al (Below.refl _ _) _) _
      have km := (box_new w #[.string m.1, .bool m.2.1, .slice Am m.2.2.length cm] 26).below (below_al (Below.refl _ _) (.cells #[.bool a.1.1, .slice Aa a.1.2.length ca, .int .i64 a.2] 28))
      have ka := (box_new (w.alloc (.cells #[.string m.1, .bool m.2.1, .slice Am m.2.2.length cm] 26)) #[.bool a.1.1, .slice Aa a.1.2.length ca, .int .i64 a.2] 28)
      rw [show (w.alloc (.cells #[.string m.1, .bool m.2.1, .slice Am m.2.2.length cm] 26)).heap.size = w.heap.size + 1 by simp] at ka
      go_enter Tryz.func3, Tryz.ntmps3
      have km_c0 := km.here.cell 0 _ rfl
      have km_c1 := km.here.cell 1 _ rfl
      have km_c2 := km.here.cell 2 _ rfl
      go_wp2_with fail
      clear km_c0 km_c1 km_c2
      refine (szM_cal _ m (1048576) _ hcm (by omega) (by omega) (rm.below bb0)).mono ?_
      rintro e w1 ⟨rfl, b1⟩
      have bb1 := Below.next bb0 b1
      replace km := km.below b1
      replace ka := ka.below b1
      rw [leftI_of (by omega)]
      have hn : decide (((1048576 : Int) - szM m : Int) < 0) = false := decide_eq_false (by omega)
      have ka_c0 := ka.here.cell 0 _ rfl
      have ka_c1 := ka.here.cell 1 _ rfl
      have ka_c2 := ka.here.cell 2 _ rfl
      go_wp2_with fail
      clear ka_c0 ka_c1 ka_c2
      clear hn
      refine (szD_cal _ a (1048576 - szM m) _ hca (by omega) (by omega) (ra.below bb1)).mono ?_
      rintro e w2 ⟨rfl, b2⟩
      have bb2 := Below.next bb1 b2
      replace km := km.below b2
      replace ka := ka.below b2
      rw [show leftI (1048576 - szM m) (szD a) = -1 by unfold leftI; rw [if_pos (by omega)]]
      go_wp2
      go_ret
      exact ⟨rfl, bb2⟩
  · skip
    obtain ⟨Am, cm, rfl⟩ := rdM_form rm
    obtain ⟨Aa, ca, rfl⟩ := rdD_form ra
    have bb0 : Below w.heap.size w ((w.alloc (.cells #[.string m.1, .bool m.2.1, .slice Am m.2.2.length cm] 26)).alloc (.cells #[.bool a.1.1, .slice Aa a.1.2.length ca, .int .i64 a.2] 28)) := below_al (below_al (Below.refl _ _) _) _
    have km := (box_new w #[.string m.1, .bool m.2.1, .slice Am m.2.2.length cm] 26).below (below_al (Below.refl _ _) (.cells #[.bool a.1.1, .slice Aa a.1.2.length ca, .int .i64 a.2] 28))
    go_enter Tryz.func3, Tryz.ntmps3
    have km_c0 := km.here.cell 0 _ rfl
    have km_c1 := km.here.cell 1 _ rfl
    have km_c2 := km.here.cell 2 _ rfl
    go_wp2_with fail
    clear km_c0 km_c1 km_c2
    refine (szM_cal _ m (1048576) _ hcm (by omega) (by omega) (rm.below bb0)).mono ?_
    rintro e w1 ⟨rfl, b1⟩
    have bb1 := Below.next bb0 b1
    replace km := km.below b1
    rw [show leftI (1048576) (szM m) = -1 by unfold leftI; rw [if_pos (by omega)]]
    go_wp2
    go_ret
    exact ⟨rfl, bb1⟩

set_option maxRecDepth 100000 in
theorem fnExactTaxOn_met (os : Os) : laidMet Tryz.prog Rows.fnExactTaxOnRow.laid ((curSenWorld os).forCall (fun _ _ => 0) ⟨#[], #[.agg #[.string ⟨#[]⟩, .bool false, .slice none 0 0], .agg #[.bool false, .slice none 0 0, .int .i64 0], .int .i64 0], []⟩).memory :=
  laidMet_of_run' 8 (by kernel_rfl) (by kernel_rfl)
set_option maxRecDepth 100000 in
theorem fnExactTaxOn_reads (os : Os) {H : Type} (enc : TypeId × Value → H) : ∃ gs places, DataW.whole enc Tryz.prog ((curSenWorld os).forCall (fun _ _ => 0) ⟨#[], #[.agg #[.string ⟨#[]⟩, .bool false, .slice none 0 0], .agg #[.bool false, .slice none 0 0, .int .i64 0], .int .i64 0], []⟩).memory Tryz.f3.params.toList Rows.fnExactTaxOnSpec.vars false (#[.agg #[.string ⟨#[]⟩, .bool false, .slice none 0 0], .agg #[.bool false, .slice none 0 0, .int .i64 0], .int .i64 0] : Array Value).toList 8 = some ([.agg [.lit (.string []), .agg [.lit (.bool false), .nil]], .agg [.agg [.lit (.bool false), .nil], .lit (.int .i64 0)], .lit (.int .i64 0)], gs, places) :=
  ⟨[Rows.laid_loop_example_g00793_impl_currencies, tok enc (.iface 254 (.pointer (some ⟨low, 0, none⟩)))], MemPlace.row ⟨1, 0, none⟩ 80 ++ [.cell 0 0], by kernel_rfl⟩

set_option maxRecDepth 100000 in
theorem fnExactTaxOn_lifted (os : Os) (started : os.Started) (H : Type) (enc : TypeId × Value → H) (F : Stop.Interp) :
    ReturnsInHanded {} Tryz.checked os 3 .any ((OpenSpec.ofChange Rows.fnExactTaxOnSpec).preRow enc Tryz.prog Tryz.f3 Rows.fnExactTaxOnRow.domain false Rows.fnExactTaxOnRow.laid) (((OpenSpec.ofChange Rows.fnExactTaxOnSpec).at F).post enc Tryz.prog Tryz.f3 false true false false) := by
  obtain ⟨gs, places, hx⟩ := fnExactTaxOn_reads os enc
  refine law_lifted_vars started (by kernel_rfl) Tryz.func3 (by kernel_rfl) (tb := 4) (by kernel_rfl) Tryz.underlying4 (by kernel_rfl)
    (witness_row_at (enc := enc) (C := Tryz.checked) false (curSenWorld os) #[.agg #[.string ⟨#[]⟩, .bool false, .slice none 0 0], .agg #[.bool false, .slice none 0 0, .int .i64 0], .int .i64 0] rfl (by kernel_rfl) (by kernel_rfl) (by kernel_rfl)
      (OpenSpec.preRow_of_cond 8 hx (by kernel_rfl) (fun k hk => by cases hk) (by kernel_rfl) (fnExactTaxOn_met os))) ?_
  intro W base args ds p hval hA _ hL
  have ht := curTab_of (l := [("loop.example/g00793/impl.errZeroDivisor", Rows.laid_loop_example_g00793_impl_errZeroDivisor), ("loop.example/g00793/impl.currencies", Rows.laid_loop_example_g00793_impl_currencies)]) (show laidMet Tryz.prog [("loop.example/g00793/impl.errZeroDivisor", Rows.laid_loop_example_g00793_impl_errZeroDivisor), ("loop.example/g00793/impl.currencies", Rows.laid_loop_example_g00793_impl_currencies)] W from hL) (by simp)
  rw [Tryz.params3] at hA hval
  obtain ⟨asen, hsen⟩ := sen_of (show laidMet Tryz.prog [("loop.example/g00793/impl.errZeroDivisor", Rows.laid_loop_example_g00793_impl_errZeroDivisor), ("loop.example/g00793/impl.currencies", Rows.laid_loop_example_g00793_impl_currencies)] W from hL)
  have hse : Sen W := hsen.sen
  obtain ⟨v0, v1, v2, d0, d1, d2, p0, p1, p2, rfl, rfl, rfl, h0, h1, h2⟩ := trodAll_three hA
  obtain ⟨m, rm, mm, mm2⟩ := arg_money (hval 0 26 v0 rfl rfl) h0
  unfold maxLen at mm mm2
  have hcm : capM m := by unfold capM; omega
  obtain ⟨a, ra, ma, ia⟩ := arg_dec (hval 1 28 v1 rfl rfl) h1
  unfold maxLen at ma
  have hca : capD a := by unfold capD; omega
  obtain ⟨k, rfl, rfl, rfl, wk⟩ := open_int Tryz.underlying3 (hval 2 3 v2 rfl rfl) h2
  have jk : -9223372036854775808 ≤ k ∧ k ≤ 9223372036854775807 := by simpa [Lit.wf, IntKind.min, IntKind.max, IntKind.signed, IntKind.bits] using wk
  exact ⟨fun gs hg => by
    match gs, hg with
    | [g1, g2], _ => rfl, lawTaxOn v0 v1 m a k W (fun hlm hla um ua W hm ha h1 h2 => implTaxOn_any um ua m a k W (szM_S hlm) (szD_len hla) hm ha h1 h2)  hcm hca ht hse rm ra⟩

set_option maxRecDepth 100000 in
theorem fnExactTaxOn_said : Rows.FnExactTaxOnSaid :=
  OpenClaim.holds_of_cond 3 Tryz.f3 rfl rfl rfl rfl rfl rfl rfl ⟨rfl, rfl, rfl, rfl, rfl⟩ rfl rfl rfl rfl rfl (by kernel_rfl) Tryz.func3 fnExactTaxOn_closed
    (of_decide_eq_true (by kernel_rfl)) (by unfold Func.isWrapper; first | (rw [if_pos (by decide +kernel)]; kernel_rfl) | (rw [if_neg (by decide +kernel)]; exact ⟨rfl, rfl⟩))
    (fun os started H enc _ F => by rw [OpenClaim.pre_eq_preRow]; exact fnExactTaxOn_lifted os started H enc F)

theorem fnExactTaxOn_plain (f : FuncId) (fn : Func) (hf : Tryz.pinned.checked.prog.funcNamed "loop.example/g00793/laws.FnExactTaxOn" = some f) (hfn : Tryz.pinned.checked.prog.funcs[f]? = some fn) :
    true = Tryz.pinned.checked.prog.looks [] ∧ ∀ (j : Nat) t, fn.params[j]? = some t → Tryz.pinned.checked.prog.wantsStandIn t = false := by
  obtain rfl : f = 3 := Option.some.inj ((show Tryz.prog.funcNamed "loop.example/g00793/laws.FnExactTaxOn" = some 3 by kernel_rfl).symm.trans hf) |>.symm
  obtain rfl : fn = Tryz.f3 := (Option.some.inj (Tryz.func3.symm.trans hfn)).symm
  refine ⟨by kernel_rfl, fun j t ht => ?_⟩
  rw [Tryz.params3] at ht
  have ht2 := Array.mem_of_getElem? ht
  simp at ht2
  rcases ht2 with rfl | rfl | rfl
  · exact (show Tryz.prog.wantsStandIn 26 = false by kernel_rfl)
  · exact (show Tryz.prog.wantsStandIn 28 = false by kernel_rfl)
  · exact (show Tryz.prog.wantsStandIn 3 = false by kernel_rfl)

set_option maxRecDepth 100000 in
theorem fnExactTaxOn_card : Rows.FnExactTaxOnCardSaid :=
  Claim7.holds_tied_plain_at .later [] _ _ _ _ fnExactTaxOn_said (fun _ h => by cases h) (by kernel_rfl) (fun _ h => by cases h) fnExactTaxOn_row_tie rfl ⟨rfl, rfl⟩ (by kernel_rfl) rfl fnExactTaxOn_plain fnExactTaxOn_goes
end Go.Proofs.YtofehcpapdlcnaaGreatDoor
