/-
  For all arguments the law FnExactDecLow of chapter 8 returns true; no conditions beyond the card's own (the listed variables hold what the program's text lays).
-/
import Derived.Test.YthfkdofnoomhaaaGreatDoorJC14
namespace Go.Proofs.YthfkdofnoomhaaaGreatDoor
open Go.ChangeShapes Go.WideShapes Go.ChangeAt Go.RowKit
open Go.ChangeMaps (open_string shut_string)

set_option maxHeartbeats 1000000 in
set_option maxRecDepth 100000 in
theorem lawDecLow (va : Value) (a : DI) (w : World)
    (hI : szD a ≤ 1048576 → ∀ (ua : Value) (W : World), OwnD ua a W → Sen W → Calls Tryz.prog 27 #[ua] W (NewV (fun v => OwnD v (lowD a)) W))
    (hca : capD a) (ht0 : Sen w) (ra : RdD w va a) :
    Calls Tryz.prog 6 #[va] w fun e w' => e = .returned (.bool true) ∧ Below w.heap.size w w' := by
  have hsa := szD_nonneg a
  by_cases hl : szD a ≤ 1048576
  · skip
    have hla : szD a ≤ 1048576 := by omega
    exact lawDecLow_walk va a (lowD a) w (fun ua W ha => specDecLow_any ua a W (szD_len hla) ha) (hI hla) ht0 hl (lowD_sz a) ra
  · skip
    obtain ⟨Aa, ca, rfl⟩ := rdD_form ra
    have bb0 : Below w.heap.size w (w.alloc (.cells #[.bool a.1.1, .slice Aa a.1.2.length ca, .int .i64 a.2] 42)) := below_al (Below.refl _ _) _
    have ka := (box_new w #[.bool a.1.1, .slice Aa a.1.2.length ca, .int .i64 a.2] 42)
    go_enter Tryz.func6, Tryz.ntmps6
    have ka_c0 := ka.here.cell 0 _ rfl
    have ka_c1 := ka.here.cell 1 _ rfl
    have ka_c2 := ka.here.cell 2 _ rfl
    go_wp2_with fail
    clear ka_c0 ka_c1 ka_c2
    refine (szD_cal _ a (1048576) _ hca (by omega) (by omega) (ra.below bb0)).mono ?_
    rintro e w1 ⟨rfl, b1⟩
    have bb1 := Below.next bb0 b1
    replace ka := ka.below b1
    rw [show leftI (1048576) (szD a) = -1 by unfold leftI; rw [if_pos (by omega)]]
    go_wp2
    go_ret
    exact ⟨rfl, bb1⟩
set_option maxRecDepth 100000 in
theorem fnExactDecLow_met (os : Os) : laidMet Tryz.prog Rows.fnExactDecLowRow.laid ((senWorld os).forCall (fun _ _ => 0) ⟨#[], #[.agg #[.bool false, .slice none 0 0, .int .i64 0]], []⟩).memory :=
  laidMet_of_run' 8 (by kernel_rfl) (by kernel_rfl)
set_option maxRecDepth 100000 in
theorem fnExactDecLow_reads (os : Os) {H : Type} (enc : TypeId × Value → H) : ∃ gs places, DataW.whole enc Tryz.prog ((senWorld os).forCall (fun _ _ => 0) ⟨#[], #[.agg #[.bool false, .slice none 0 0, .int .i64 0]], []⟩).memory Tryz.f6.params.toList Rows.fnExactDecLowSpec.vars false (#[.agg #[.bool false, .slice none 0 0, .int .i64 0]] : Array Value).toList 8 = some ([.agg [.agg [.lit (.bool false), .nil], .lit (.int .i64 0)]], gs, places) :=
  ⟨[tok enc (.iface 248 (.pointer (some ⟨low, 0, none⟩)))], [.cell 0 0], by kernel_rfl⟩

set_option maxRecDepth 100000 in
theorem fnExactDecLow_lifted (os : Os) (started : os.Started) (H : Type) (enc : TypeId × Value → H) (F : Stop.Interp) :
    ReturnsInHanded {} Tryz.checked os 6 .any ((OpenSpec.ofChange Rows.fnExactDecLowSpec).preRow enc Tryz.prog Tryz.f6 Rows.fnExactDecLowRow.domain false Rows.fnExactDecLowRow.laid) (((OpenSpec.ofChange Rows.fnExactDecLowSpec).at F).post enc Tryz.prog Tryz.f6 false true false false) := by
  obtain ⟨gs, places, hx⟩ := fnExactDecLow_reads os enc
  refine law_lifted_sen started (by kernel_rfl) Tryz.func6 (by kernel_rfl) (tb := 4) (by kernel_rfl) Tryz.underlying4 rfl (fun W h => sen_of (show laidMet Tryz.prog [("loop.example/g00793/impl.errZeroDivisor", Rows.laid_loop_example_g00793_impl_errZeroDivisor)] W from h))
    (witness_row_at (enc := enc) (C := Tryz.checked) false (senWorld os) #[.agg #[.bool false, .slice none 0 0, .int .i64 0]] rfl (by kernel_rfl) (by kernel_rfl) (by kernel_rfl)
      (OpenSpec.preRow_of_cond 8 hx (by kernel_rfl) (fun k hk => by cases hk) (by kernel_rfl) (fnExactDecLow_met os))) ?_
  intro W base args ds p hval hA _ hL hs
  rw [Tryz.params6] at hA hval
  obtain ⟨v0, d0, rfl, rfl, h0⟩ := trodAll_one hA
  obtain ⟨a, ra, ma, ia⟩ := arg_dec (hval 0 42 v0 rfl rfl) h0
  unfold maxLen at ma
  have hca : capD a := by unfold capD; omega
  exact ⟨fun _ => rfl, lawDecLow v0 a W (fun hla ua W ha hs => implDecLow_any ua a W (szD_len hla) ha hs) hca hs ra⟩

set_option maxRecDepth 100000 in
theorem fnExactDecLow_said : Rows.FnExactDecLowSaid :=
  OpenClaim.holds_of_cond 6 Tryz.f6 rfl rfl rfl rfl rfl rfl rfl ⟨rfl, rfl, rfl, rfl, rfl⟩ rfl rfl rfl rfl rfl (by kernel_rfl) Tryz.func6 (by kernel_rfl)
    (of_decide_eq_true (by kernel_rfl)) (by unfold Func.isWrapper; first | (rw [if_pos (by decide +kernel)]; kernel_rfl) | (rw [if_neg (by decide +kernel)]; exact ⟨rfl, rfl⟩))
    (fun os started H enc _ F => by rw [OpenClaim.pre_eq_preRow]; exact fnExactDecLow_lifted os started H enc F)

theorem fnExactDecLow_plain (f : FuncId) (fn : Func) (hf : Tryz.pinned.checked.prog.funcNamed "loop.example/g00793/laws.FnExactDecLow" = some f) (hfn : Tryz.pinned.checked.prog.funcs[f]? = some fn) :
    true = Tryz.pinned.checked.prog.looks [] ∧ ∀ (j : Nat) t, fn.params[j]? = some t → Tryz.pinned.checked.prog.wantsStandIn t = false := by
  obtain rfl : f = 6 := Option.some.inj ((show Tryz.prog.funcNamed "loop.example/g00793/laws.FnExactDecLow" = some 6 by kernel_rfl).symm.trans hf) |>.symm
  obtain rfl : fn = Tryz.f6 := (Option.some.inj (Tryz.func6.symm.trans hfn)).symm
  refine ⟨by kernel_rfl, fun j t ht => ?_⟩
  rw [Tryz.params6] at ht
  obtain rfl : t = 42 := by simpa using Array.mem_of_getElem? ht
  exact (show Tryz.prog.wantsStandIn 42 = false by kernel_rfl)

set_option maxRecDepth 100000 in
theorem fnExactDecLow_card : Rows.FnExactDecLowCardSaid :=
  Claim7.holds_tied_plain_at .later [] _ _ _ _ fnExactDecLow_said (fun _ h => by cases h) (by kernel_rfl) (fun _ h => by cases h) fnExactDecLow_row_tie rfl ⟨rfl, rfl⟩ (by kernel_rfl) rfl fnExactDecLow_plain (by kernel_rfl)
end Go.Proofs.YthfkdofnoomhaaaGreatDoor
