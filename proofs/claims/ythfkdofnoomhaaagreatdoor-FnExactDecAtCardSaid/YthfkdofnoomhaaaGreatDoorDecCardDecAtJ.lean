/-
  For all arguments the law FnExactDecAt of chapter 8 returns true; no conditions beyond the card's own (the listed variables hold what the program's text lays).
-/
import Derived.Test.YthfkdofnoomhaaaGreatDoorJC14
namespace Go.Proofs.YthfkdofnoomhaaaGreatDoor
open Go.ChangeShapes Go.WideShapes Go.ChangeAt Go.RowKit
open Go.ChangeMaps (open_string shut_string)

set_option maxHeartbeats 1000000 in
set_option maxRecDepth 100000 in
theorem lawDecAt (va : Value) (a : DI) (k : Int) (w : World)
    (hI : szD a ≤ 1048576 → ∀ (ua : Value) (W : World), OwnD ua a W → Sen W → Calls Tryz.prog 25 #[ua, .int .i64 k] W (PostDb ((atD a k).1) ((atD a k).2) W))
    (hca : capD a) (ht0 : Sen w) (ra : RdD w va a) :
    Calls Tryz.prog 5 #[va, .int .i64 k] w fun e w' => e = .returned (.bool true) ∧ Below w.heap.size w w' := by
  have hsa := szD_nonneg a
  by_cases hl : szD a ≤ 1048576
  · skip
    have hla : szD a ≤ 1048576 := by omega
    exact lawDecAt_walk va a k ((atD a k).1) ((atD a k).2) w (fun ua W ha => specDecAt_any ua a k W (szD_len hla) ha) (hI hla) ht0 hl (atD_sz a k) ra
  · skip
    obtain ⟨Aa, ca, rfl⟩ := rdD_form ra
    have bb0 : Below w.heap.size w (w.alloc (.cells #[.bool a.1.1, .slice Aa a.1.2.length ca, .int .i64 a.2] 42)) := below_al (Below.refl _ _) _
    have ka := (box_new w #[.bool a.1.1, .slice Aa a.1.2.length ca, .int .i64 a.2] 42)
    go_enter Tryz.func5, Tryz.ntmps5
    have ka_c0 := ka.here.cell 0 _ rfl
    have ka_c1 := ka.here.cell 1 _ rfl
    have ka_c2 := ka.here.cell 2 _ rfl
    go_wp2_with fail
    clear ka_c0 ka_c1 ka_c2
    refine (szD_cal _ a (1048576) _ hca (by omega) (by omega) (ra.below bb0)).mono ?_
    rintro e w1 ⟨rfl, b1⟩
    have bb1 := Below.next bb0 b1
    replace ka := ka.below b1
    rw [show leftI (1048576) (szD a) = -1 by unfold leftI; rw [if_pos (by omega)]]
    go_wp2
    go_ret
    exact ⟨rfl, bb1⟩
set_option maxRecDepth 100000 in
theorem fnExactDecAt_met (os : Os) : laidMet Tryz.prog Rows.fnExactDecAtRow.laid ((senWorld os).forCall (fun _ _ => 0) ⟨#[], #[.agg #[.bool false, .slice none 0 0, .int .i64 0], .int .i64 0], []⟩).memory :=
  laidMet_of_run' 8 (by kernel_rfl) (by kernel_rfl)
set_option maxRecDepth 100000 in
theorem fnExactDecAt_reads (os : Os) {H : Type} (enc : TypeId × Value → H) : ∃ gs places, DataW.whole enc Tryz.prog ((senWorld os).forCall (fun _ _ => 0) ⟨#[], #[.agg #[.bool false, .slice none 0 0, .int .i64 0], .int .i64 0], []⟩).memory Tryz.f5.params.toList Rows.fnExactDecAtSpec.vars false (#[.agg #[.bool false, .slice none 0 0, .int .i64 0], .int .i64 0] : Array Value).toList 8 = some ([.agg [.agg [.lit (.bool false), .nil], .lit (.int .i64 0)], .lit (.int .i64 0)], gs, places) :=
  ⟨[tok enc (.iface 248 (.pointer (some ⟨low, 0, none⟩)))], [.cell 0 0], by kernel_rfl⟩

set_option maxRecDepth 100000 in
theorem fnExactDecAt_lifted (os : Os) (started : os.Started) (H : Type) (enc : TypeId × Value → H) (F : Stop.Interp) :
    ReturnsInHanded {} Tryz.checked os 5 .any ((OpenSpec.ofChange Rows.fnExactDecAtSpec).preRow enc Tryz.prog Tryz.f5 Rows.fnExactDecAtRow.domain false Rows.fnExactDecAtRow.laid) (((OpenSpec.ofChange Rows.fnExactDecAtSpec).at F).post enc Tryz.prog Tryz.f5 false true false false) := by
  obtain ⟨gs, places, hx⟩ := fnExactDecAt_reads os enc
  refine law_lifted_sen started (by kernel_rfl) Tryz.func5 (by kernel_rfl) (tb := 4) (by kernel_rfl) Tryz.underlying4 rfl (fun W h => sen_of (show laidMet Tryz.prog [("loop.example/g00793/impl.errZeroDivisor", Rows.laid_loop_example_g00793_impl_errZeroDivisor)] W from h))
    (witness_row_at (enc := enc) (C := Tryz.checked) false (senWorld os) #[.agg #[.bool false, .slice none 0 0, .int .i64 0], .int .i64 0] rfl (by kernel_rfl) (by kernel_rfl) (by kernel_rfl)
      (OpenSpec.preRow_of_cond 8 hx (by kernel_rfl) (fun k hk => by cases hk) (by kernel_rfl) (fnExactDecAt_met os))) ?_
  intro W base args ds p hval hA _ hL hs
  rw [Tryz.params5] at hA hval
  obtain ⟨v0, v1, d0, d1, p0, p1, rfl, rfl, rfl, h0, h1⟩ := trodAll_two hA
  obtain ⟨a, ra, ma, ia⟩ := arg_dec (hval 0 42 v0 rfl rfl) h0
  unfold maxLen at ma
  have hca : capD a := by unfold capD; omega
  obtain ⟨k, rfl, rfl, rfl, ik⟩ := open_int Tryz.underlying3 (hval 1 3 v1 rfl rfl) h1
  have jk : -9223372036854775808 ≤ k ∧ k ≤ 9223372036854775807 := by simpa [Lit.wf, IntKind.min, IntKind.max, IntKind.signed, IntKind.bits] using ik
  exact ⟨fun _ => rfl, lawDecAt v0 a k W (fun hla ua W ha hs => implDecAt_any ua a k W (szD_len hla) ha hs) hca hs ra⟩

set_option maxRecDepth 100000 in
theorem fnExactDecAt_said : Rows.FnExactDecAtSaid :=
  OpenClaim.holds_of_cond 5 Tryz.f5 rfl rfl rfl rfl rfl rfl rfl ⟨rfl, rfl, rfl, rfl, rfl⟩ rfl rfl rfl rfl rfl (by kernel_rfl) Tryz.func5 (by kernel_rfl)
    (of_decide_eq_true (by kernel_rfl)) (by unfold Func.isWrapper; first | (rw [if_pos (by decide +kernel)]; kernel_rfl) | (rw [if_neg (by decide +kernel)]; exact ⟨rfl, rfl⟩))
    (fun os started H enc _ F => by rw [OpenClaim.pre_eq_preRow]; exact fnExactDecAt_lifted os started H enc F)

theorem fnExactDecAt_plain (f : FuncId) (fn : Func) (hf : Tryz.pinned.checked.prog.funcNamed "loop.example/g00793/laws.FnExactDecAt" = some f) (hfn : Tryz.pinned.checked.prog.funcs[f]? = some fn) :
    true = Tryz.pinned.checked.prog.looks [] ∧ ∀ (j : Nat) t, fn.params[j]? = some t → Tryz.pinned.checked.prog.wantsStandIn t = false := by
  obtain rfl : f = 5 := Option.some.inj ((show Tryz.prog.funcNamed "loop.example/g00793/laws.FnExactDecAt" = some 5 by kernel_rfl).symm.trans hf) |>.symm
  obtain rfl : fn = Tryz.f5 := (Option.some.inj (Tryz.func5.symm.trans hfn)).symm
  refine ⟨by kernel_rfl, fun j t ht => ?_⟩
  rw [Tryz.params5] at ht
  have ht2 := Array.mem_of_getElem? ht
  simp at ht2
  rcases ht2 with rfl | rfl
  · exact (show Tryz.prog.wantsStandIn 42 = false by kernel_rfl)
  · exact (show Tryz.prog.wantsStandIn 3 = false by kernel_rfl)

set_option maxRecDepth 100000 in
theorem fnExactDecAt_card : Rows.FnExactDecAtCardSaid :=
  Claim7.holds_tied_plain_at .later [] _ _ _ _ fnExactDecAt_said (fun _ h => by cases h) (by kernel_rfl) (fun _ h => by cases h) fnExactDecAt_row_tie rfl ⟨rfl, rfl⟩ (by kernel_rfl) rfl fnExactDecAt_plain (by kernel_rfl)
end Go.Proofs.YthfkdofnoomhaaaGreatDoor
