/-
  For all arguments FnExactRatMoney returns true: a fraction rounded to an amount, and its rest. No conditions beyond the card's own (the listed variables hold what the program's text lays).
-/
import Derived.Test.YtcenmdiblbooeaaGreatDoorJB10
namespace Go.Proofs.YtcenmdiblbooeaaGreatDoor
open Go.ChangeShapes Go.WideShapes Go.ChangeAt Go.RowKit
open Go.ChangeMaps (open_string shut_string)

theorem restQ_szM (r : QI) (m : Int) : szQ (restQ r m) ≤ 1048576 := by unfold restQ; split; exact subQ_szQ _ _; decide
set_option maxHeartbeats 1000000 in
set_option maxRecDepth 100000 in
theorem lawRatMoney (cu : ByteArray) (va : Value) (a : QI) (m : Int) (w : World) (hc : capQ a) (ht : CurTab w) (hs : Sen w) (ra : RdQ w va a) :
    Calls Tryz.prog 5 #[.string cu, va, .int .i64 m] w fun e w' => e = .returned (.bool true) ∧ Below w.heap.size w w' := by
  have hsa := szQ_nonneg a
  by_cases hl : cu.size ≤ 1048576
  · by_cases hla : szQ a ≤ 1048576
    · exact lawRatMoney_walk cu va a m (rmM cu a m) (rmQ cu a m) (rmB cu a m) w (fun ua W h => specRatMoney_any cu ua a m W hla h) (fun ua W h h1 h2 => implRatMoney_any cu ua a m W hla h h1 h2) hl ht hs hla (rm_sz cu a m (restQ_szM a m)).1 (rm_sz cu a m (restQ_szM a m)).2 ra
    · have hcn : ¬ (1048576 < cu.size) := by omega
      obtain ⟨Aa, ca, Ba, da, rfl⟩ := rdQ_form ra
      have bb0 : Below w.heap.size w (w.alloc (.cells #[.bool a.1.1, .slice Aa a.1.2.length ca, .slice Ba a.2.length da] 48)) := below_al (Below.refl _ _) _
      have ka := (box_new w #[.bool a.1.1, .slice Aa a.1.2.length ca, .slice Ba a.2.length da] 48)
      go_enter Tryz.func5, Tryz.ntmps5
      have ka_c0 := ka.here.cell 0 _ rfl
      have ka_c1 := ka.here.cell 1 _ rfl
      have ka_c2 := ka.here.cell 2 _ rfl
      go_wp2_with fail
      clear ka_c0 ka_c1 ka_c2
      refine (szQ_cal _ a (1048576) _ hc (by omega) (by omega) (ra.below bb0)).mono ?_
      rintro e w1 ⟨rfl, b1⟩
      rw [show leftI (1048576) (szQ a) = -1 by unfold leftI; rw [if_pos (by omega)]]
      go_wp2
      go_ret
      exact ⟨rfl, Below.next bb0 b1⟩
  · obtain ⟨Aa, ca, Ba, da, rfl⟩ := rdQ_form ra
    go_enter Tryz.func5, Tryz.ntmps5
    go_wp2
    go_ret
    exact ⟨rfl, below_al (Below.refl _ _) _⟩

set_option maxRecDepth 100000 in
theorem fnExactRatMoney_met (os : Os) : laidMet Tryz.prog Rows.fnExactRatMoneyRow.laid ((curSenWorld os).forCall (fun _ _ => 0) ⟨#[], #[.string ⟨#[]⟩, .agg #[.bool false, .slice none 0 0, .slice none 0 0], .int .i64 0], []⟩).memory :=
  laidMet_of_run' 8 (by kernel_rfl) (by kernel_rfl)
set_option maxRecDepth 100000 in
theorem fnExactRatMoney_reads (os : Os) {H : Type} (enc : TypeId × Value → H) : ∃ gs places, DataW.whole enc Tryz.prog ((curSenWorld os).forCall (fun _ _ => 0) ⟨#[], #[.string ⟨#[]⟩, .agg #[.bool false, .slice none 0 0, .slice none 0 0], .int .i64 0], []⟩).memory Tryz.f5.params.toList Rows.fnExactRatMoneySpec.vars false (#[.string ⟨#[]⟩, .agg #[.bool false, .slice none 0 0, .slice none 0 0], .int .i64 0] : Array Value).toList 8 = some ([.lit (.string []), .agg [.agg [.lit (.bool false), .nil], .nil], .lit (.int .i64 0)], gs, places) :=
  ⟨[tok enc (.iface 251 (.pointer (some ⟨low, 0, none⟩))), Rows.laid_loop_example_g00793_impl_currencies], [.cell 2 0] ++ MemPlace.row ⟨0, 0, none⟩ 80, by kernel_rfl⟩

set_option maxRecDepth 100000 in
theorem fnExactRatMoney_lifted (os : Os) (started : os.Started) (H : Type) (enc : TypeId × Value → H) (F : Stop.Interp) :
    ReturnsInHanded {} Tryz.checked os 5 .any ((OpenSpec.ofChange Rows.fnExactRatMoneySpec).preRow enc Tryz.prog Tryz.f5 Rows.fnExactRatMoneyRow.domain false Rows.fnExactRatMoneyRow.laid) (((OpenSpec.ofChange Rows.fnExactRatMoneySpec).at F).post enc Tryz.prog Tryz.f5 false true false false) := by
  obtain ⟨gs, places, hx⟩ := fnExactRatMoney_reads os enc
  refine law_lifted_vars started (by kernel_rfl) Tryz.func5 (by kernel_rfl) (tb := 4) (by kernel_rfl) Tryz.underlying4 (by kernel_rfl)
    (witness_row_at (enc := enc) (C := Tryz.checked) false (curSenWorld os) #[.string ⟨#[]⟩, .agg #[.bool false, .slice none 0 0, .slice none 0 0], .int .i64 0] rfl (by kernel_rfl) (by kernel_rfl) (by kernel_rfl)
      (OpenSpec.preRow_of_cond 8 hx (by kernel_rfl) (fun k hk => by cases hk) (by kernel_rfl) (fnExactRatMoney_met os))) ?_
  intro W base args ds p hval hA _ hL
  have ht := curTab_of (l := [("loop.example/g00793/impl.errZeroDivisor", Rows.laid_loop_example_g00793_impl_errZeroDivisor), ("loop.example/g00793/impl.currencies", Rows.laid_loop_example_g00793_impl_currencies)]) (show laidMet Tryz.prog [("loop.example/g00793/impl.errZeroDivisor", Rows.laid_loop_example_g00793_impl_errZeroDivisor), ("loop.example/g00793/impl.currencies", Rows.laid_loop_example_g00793_impl_currencies)] W from hL) (by simp)
  rw [Tryz.params5] at hA hval
  obtain ⟨asen, hsen⟩ := sen_of (show laidMet Tryz.prog [("loop.example/g00793/impl.errZeroDivisor", Rows.laid_loop_example_g00793_impl_errZeroDivisor), ("loop.example/g00793/impl.currencies", Rows.laid_loop_example_g00793_impl_currencies)] W from hL)
  have hse : Sen W := hsen.sen
  obtain ⟨v0, v1, v2, d0, d1, d2, p0, p1, p2, rfl, rfl, rfl, h0, h1, h2⟩ := trodAll_three hA
  obtain ⟨cu, rfl, rfl, rfl, mcu⟩ := open_string Tryz.underlying9 (hval 0 9 v0 rfl rfl) h0
  obtain ⟨r, rr, mr, mr2⟩ := arg_rat (hval 1 48 v1 rfl rfl) h1
  unfold maxLen at mr mr2
  have hcr : capQ r := by unfold capQ; omega
  obtain ⟨m, rfl, rfl, rfl, im⟩ := open_int Tryz.underlying3 (hval 2 3 v2 rfl rfl) h2
  have jm : -9223372036854775808 ≤ m ∧ m ≤ 9223372036854775807 := by simpa [Lit.wf, IntKind.min, IntKind.max, IntKind.signed, IntKind.bits] using im
  exact ⟨fun gs hg => by
    match gs, hg with
    | [g1, g2], _ => rfl, lawRatMoney cu v1 r m W hcr ht hse rr⟩

set_option maxRecDepth 100000 in
theorem fnExactRatMoney_said : Rows.FnExactRatMoneySaid :=
  OpenClaim.holds_of_cond 5 Tryz.f5 rfl rfl rfl rfl rfl rfl rfl ⟨rfl, rfl, rfl, rfl, rfl⟩ rfl rfl rfl rfl rfl (by kernel_rfl) Tryz.func5 (by kernel_rfl)
    (of_decide_eq_true (by kernel_rfl)) (by unfold Func.isWrapper; first | (rw [if_pos (by decide +kernel)]; kernel_rfl) | (rw [if_neg (by decide +kernel)]; exact ⟨rfl, rfl⟩))
    (fun os started H enc _ F => by rw [OpenClaim.pre_eq_preRow]; exact fnExactRatMoney_lifted os started H enc F)

theorem fnExactRatMoney_plain (f : FuncId) (fn : Func) (hf : Tryz.pinned.checked.prog.funcNamed "loop.example/g00793/laws.FnExactRatMoney" = some f) (hfn : Tryz.pinned.checked.prog.funcs[f]? = some fn) :
    true = Tryz.pinned.checked.prog.looks [] ∧ ∀ (j : Nat) t, fn.params[j]? = some t → Tryz.pinned.checked.prog.wantsStandIn t = false := by
  obtain rfl : f = 5 := Option.some.inj ((show Tryz.prog.funcNamed "loop.example/g00793/laws.FnExactRatMoney" = some 5 by kernel_rfl).symm.trans hf) |>.symm
  obtain rfl : fn = Tryz.f5 := (Option.some.inj (Tryz.func5.symm.trans hfn)).symm
  refine ⟨by kernel_rfl, fun j t ht => ?_⟩
  rw [Tryz.params5] at ht
  have ht2 := Array.mem_of_getElem? ht
  simp at ht2
  rcases ht2 with rfl | rfl | rfl
  · exact (show Tryz.prog.wantsStandIn 9 = false by kernel_rfl)
  · exact (show Tryz.prog.wantsStandIn 48 = false by kernel_rfl)
  · exact (show Tryz.prog.wantsStandIn 3 = false by kernel_rfl)

set_option maxRecDepth 100000 in
theorem fnExactRatMoney_card : Rows.FnExactRatMoneyCardSaid :=
  Claim7.holds_tied_plain_at .later [] _ _ _ _ fnExactRatMoney_said (fun _ h => by cases h) (by kernel_rfl) (fun _ h => by cases h) fnExactRatMoney_row_tie rfl ⟨rfl, rfl⟩ (by kernel_rfl) rfl fnExactRatMoney_plain (by kernel_rfl)
end Go.Proofs.YtcenmdiblbooeaaGreatDoor
