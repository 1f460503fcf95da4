/-
  For all arguments the law FnExactDecDiv of chapter 8 returns true; no conditions beyond the card's own (the listed variables hold what the program's text lays).
-/
import Derived.Test.YthfkdofnoomhaaaGreatDoorJC14
namespace Go.Proofs.YthfkdofnoomhaaaGreatDoor
open Go.ChangeShapes Go.WideShapes Go.ChangeAt Go.RowKit
open Go.ChangeMaps (open_string shut_string)

set_option maxHeartbeats 1000000 in
set_option maxRecDepth 100000 in
theorem lawDecDiv (va : Value) (vb : Value) (a : DI) (b : DI) (k : Int) (m : Int) (w : World)
    (hI : szD a ≤ 1048576 → szD b ≤ 1048576 → ∀ (ua : Value) (ub : Value) (W : World), OwnD ua a W → OwnD ub b W → Sen W → Calls Tryz.prog 23 #[ua, ub, .int .i64 k, .int .i64 m] W (PostDb ((divD a b k m).1) ((divD a b k m).2) W))
    (hca : capD a) (hcb : capD b) (ht0 : Sen w) (ra : RdD w va a) (rb : RdD w vb b) :
    Calls Tryz.prog 4 #[va, vb, .int .i64 k, .int .i64 m] w fun e w' => e = .returned (.bool true) ∧ Below w.heap.size w w' := by
  have hsa := szD_nonneg a
  have hsb := szD_nonneg b
  by_cases hl_0 : szD a ≤ 1048576
  · skip
    by_cases hl : szD a + szD b ≤ 1048576
    · skip
      have hla : szD a ≤ 1048576 := by omega
      have hlb : szD b ≤ 1048576 := by omega
      exact lawDecDiv_walk va vb a b k m ((divD a b k m).1) ((divD a b k m).2) w (fun ua ub W ha hb => specDecDiv_any ua ub a b k m W (szD_len hla) (szD_len hlb) ha hb) (hI hla hlb) ht0 hl (divD_sz a b k m) ra rb
    · skip
      obtain ⟨Aa, ca, rfl⟩ := rdD_form ra
      obtain ⟨Ab, cb, rfl⟩ := rdD_form rb
      have bb0 : Below w.heap.size w ((w.alloc (.cells #[.bool a.1.1, .slice Aa a.1.2.length ca, .int .i64 a.2] 42)).alloc (.cells #[.bool b.1.1, .slice Ab b.1.2.length cb, .int .i64 b.2] 42)) := below_al (below_al (Below.refl _ _) _) _
      have ka := (box_new w #[.bool a.1.1, .slice Aa a.1.2.length ca, .int .i64 a.2] 42).below (below_al (Below.refl _ _) (.cells #[.bool b.1.1, .slice Ab b.1.2.length cb, .int .i64 b.2] 42))
      have kb := (box_new (w.alloc (.cells #[.bool a.1.1, .slice Aa a.1.2.length ca, .int .i64 a.2] 42)) #[.bool b.1.1, .slice Ab b.1.2.length cb, .int .i64 b.2] 42)
      rw [show (w.alloc (.cells #[.bool a.1.1, .slice Aa a.1.2.length ca, .int .i64 a.2] 42)).heap.size = w.heap.size + 1 by simp] at kb
      go_enter Tryz.func4, Tryz.ntmps4
      have ka_c0 := ka.here.cell 0 _ rfl
      have ka_c1 := ka.here.cell 1 _ rfl
      have ka_c2 := ka.here.cell 2 _ rfl
      go_wp2_with fail
      clear ka_c0 ka_c1 ka_c2
      refine (szD_cal _ a (1048576) _ hca (by omega) (by omega) (ra.below bb0)).mono ?_
      rintro e w1 ⟨rfl, b1⟩
      have bb1 := Below.next bb0 b1
      replace ka := ka.below b1
      replace kb := kb.below b1
      rw [leftI_of (by omega)]
      have hn : decide (((1048576 : Int) - szD a : Int) < 0) = false := decide_eq_false (by omega)
      have kb_c0 := kb.here.cell 0 _ rfl
      have kb_c1 := kb.here.cell 1 _ rfl
      have kb_c2 := kb.here.cell 2 _ rfl
      go_wp2_with fail
      clear kb_c0 kb_c1 kb_c2
      clear hn
      refine (szD_cal _ b (1048576 - szD a) _ hcb (by omega) (by omega) (rb.below bb1)).mono ?_
      rintro e w2 ⟨rfl, b2⟩
      have bb2 := Below.next bb1 b2
      replace ka := ka.below b2
      replace kb := kb.below b2
      rw [show leftI (1048576 - szD a) (szD b) = -1 by unfold leftI; rw [if_pos (by omega)]]
      go_wp2
      go_ret
      exact ⟨rfl, bb2⟩
  · skip
    obtain ⟨Aa, ca, rfl⟩ := rdD_form ra
    obtain ⟨Ab, cb, rfl⟩ := rdD_form rb
    have bb0 : Below w.heap.size w ((w.alloc (.cells #[.bool a.1.1, .slice Aa a.1.2.length ca, .int .i64 a.2] 42)).alloc (.cells #[.bool b.1.1, .slice Ab b.1.2.length cb, .int .i64 b.2] 42)) := below_al (below_al (Below.refl _ _) _) _
    have ka := (box_new w #[.bool a.1.1, .slice Aa a.1.2.length ca, .int .i64 a.2] 42).below (below_al (Below.refl _ _) (.cells #[.bool b.1.1, .slice Ab b.1.2.length cb, .int .i64 b.2] 42))
    go_enter Tryz.func4, Tryz.ntmps4
    have ka_c0 := ka.here.cell 0 _ rfl
    have ka_c1 := ka.here.cell 1 _ rfl
    have ka_c2 := ka.here.cell 2 _ rfl
    go_wp2_with fail
    clear ka_c0 ka_c1 ka_c2
    refine (szD_cal _ a (1048576) _ hca (by omega) (by omega) (ra.below bb0)).mono ?_
    rintro e w1 ⟨rfl, b1⟩
    have bb1 := Below.next bb0 b1
    replace ka := ka.below b1
    rw [show leftI (1048576) (szD a) = -1 by unfold leftI; rw [if_pos (by omega)]]
    go_wp2
    go_ret
    exact ⟨rfl, bb1⟩
set_option maxRecDepth 100000 in
theorem fnExactDecDiv_met (os : Os) : laidMet Tryz.prog Rows.fnExactDecDivRow.laid ((senWorld os).forCall (fun _ _ => 0) ⟨#[], #[.agg #[.bool false, .slice none 0 0, .int .i64 0], .agg #[.bool false, .slice none 0 0, .int .i64 0], .int .i64 0, .int .i64 0], []⟩).memory :=
  laidMet_of_run' 8 (by kernel_rfl) (by kernel_rfl)
set_option maxRecDepth 100000 in
theorem fnExactDecDiv_reads (os : Os) {H : Type} (enc : TypeId × Value → H) : ∃ gs places, DataW.whole enc Tryz.prog ((senWorld os).forCall (fun _ _ => 0) ⟨#[], #[.agg #[.bool false, .slice none 0 0, .int .i64 0], .agg #[.bool false, .slice none 0 0, .int .i64 0], .int .i64 0, .int .i64 0], []⟩).memory Tryz.f4.params.toList Rows.fnExactDecDivSpec.vars false (#[.agg #[.bool false, .slice none 0 0, .int .i64 0], .agg #[.bool false, .slice none 0 0, .int .i64 0], .int .i64 0, .int .i64 0] : Array Value).toList 8 = some ([.agg [.agg [.lit (.bool false), .nil], .lit (.int .i64 0)], .agg [.agg [.lit (.bool false), .nil], .lit (.int .i64 0)], .lit (.int .i64 0), .lit (.int .i64 0)], gs, places) :=
  ⟨[tok enc (.iface 248 (.pointer (some ⟨low, 0, none⟩)))], [.cell 0 0], by kernel_rfl⟩

set_option maxRecDepth 100000 in
theorem fnExactDecDiv_lifted (os : Os) (started : os.Started) (H : Type) (enc : TypeId × Value → H) (F : Stop.Interp) :
    ReturnsInHanded {} Tryz.checked os 4 .any ((OpenSpec.ofChange Rows.fnExactDecDivSpec).preRow enc Tryz.prog Tryz.f4 Rows.fnExactDecDivRow.domain false Rows.fnExactDecDivRow.laid) (((OpenSpec.ofChange Rows.fnExactDecDivSpec).at F).post enc Tryz.prog Tryz.f4 false true false false) := by
  obtain ⟨gs, places, hx⟩ := fnExactDecDiv_reads os enc
  refine law_lifted_sen started (by kernel_rfl) Tryz.func4 (by kernel_rfl) (tb := 4) (by kernel_rfl) Tryz.underlying4 rfl (fun W h => sen_of (show laidMet Tryz.prog [("loop.example/g00793/impl.errZeroDivisor", Rows.laid_loop_example_g00793_impl_errZeroDivisor)] W from h))
    (witness_row_at (enc := enc) (C := Tryz.checked) false (senWorld os) #[.agg #[.bool false, .slice none 0 0, .int .i64 0], .agg #[.bool false, .slice none 0 0, .int .i64 0], .int .i64 0, .int .i64 0] rfl (by kernel_rfl) (by kernel_rfl) (by kernel_rfl)
      (OpenSpec.preRow_of_cond 8 hx (by kernel_rfl) (fun k hk => by cases hk) (by kernel_rfl) (fnExactDecDiv_met os))) ?_
  intro W base args ds p hval hA _ hL hs
  rw [Tryz.params4] at hA hval
  obtain ⟨v0, v1, v2, v3, d0, d1, d2, d3, p0, p1, p2, p3, rfl, rfl, rfl, h0, h1, h2, h3⟩ := trodAll_four hA
  obtain ⟨a, ra, ma, ia⟩ := arg_dec (hval 0 42 v0 rfl rfl) h0
  unfold maxLen at ma
  have hca : capD a := by unfold capD; omega
  obtain ⟨b, rb, mb, ib⟩ := arg_dec (hval 1 42 v1 rfl rfl) h1
  unfold maxLen at mb
  have hcb : capD b := by unfold capD; omega
  obtain ⟨k, rfl, rfl, rfl, ik⟩ := open_int Tryz.underlying3 (hval 2 3 v2 rfl rfl) h2
  have jk : -9223372036854775808 ≤ k ∧ k ≤ 9223372036854775807 := by simpa [Lit.wf, IntKind.min, IntKind.max, IntKind.signed, IntKind.bits] using ik
  obtain ⟨m, rfl, rfl, rfl, im⟩ := open_int Tryz.underlying3 (hval 3 3 v3 rfl rfl) h3
  have jm : -9223372036854775808 ≤ m ∧ m ≤ 9223372036854775807 := by simpa [Lit.wf, IntKind.min, IntKind.max, IntKind.signed, IntKind.bits] using im
  exact ⟨fun _ => rfl, lawDecDiv v0 v1 a b k m W (fun hla hlb ua ub W ha hb hs => implDecDiv_any ua ub a b k m W (szD_len hla) (szD_len hlb) ha hb hs) hca hcb hs ra rb⟩

set_option maxRecDepth 100000 in
theorem fnExactDecDiv_said : Rows.FnExactDecDivSaid :=
  OpenClaim.holds_of_cond 4 Tryz.f4 rfl rfl rfl rfl rfl rfl rfl ⟨rfl, rfl, rfl, rfl, rfl⟩ rfl rfl rfl rfl rfl (by kernel_rfl) Tryz.func4 (by kernel_rfl)
    (of_decide_eq_true (by kernel_rfl)) (by unfold Func.isWrapper; first | (rw [if_pos (by decide +kernel)]; kernel_rfl) | (rw [if_neg (by decide +kernel)]; exact ⟨rfl, rfl⟩))
    (fun os started H enc _ F => by rw [OpenClaim.pre_eq_preRow]; exact fnExactDecDiv_lifted os started H enc F)

theorem fnExactDecDiv_plain (f : FuncId) (fn : Func) (hf : Tryz.pinned.checked.prog.funcNamed "loop.example/g00793/laws.FnExactDecDiv" = some f) (hfn : Tryz.pinned.checked.prog.funcs[f]? = some fn) :
    true = Tryz.pinned.checked.prog.looks [] ∧ ∀ (j : Nat) t, fn.params[j]? = some t → Tryz.pinned.checked.prog.wantsStandIn t = false := by
  obtain rfl : f = 4 := Option.some.inj ((show Tryz.prog.funcNamed "loop.example/g00793/laws.FnExactDecDiv" = some 4 by kernel_rfl).symm.trans hf) |>.symm
  obtain rfl : fn = Tryz.f4 := (Option.some.inj (Tryz.func4.symm.trans hfn)).symm
  refine ⟨by kernel_rfl, fun j t ht => ?_⟩
  rw [Tryz.params4] at ht
  have ht2 := Array.mem_of_getElem? ht
  simp at ht2
  rcases ht2 with rfl | rfl
  · exact (show Tryz.prog.wantsStandIn 42 = false by kernel_rfl)
  · exact (show Tryz.prog.wantsStandIn 3 = false by kernel_rfl)

set_option maxRecDepth 100000 in
theorem fnExactDecDiv_card : Rows.FnExactDecDivCardSaid :=
  Claim7.holds_tied_plain_at .later [] _ _ _ _ fnExactDecDiv_said (fun _ h => by cases h) (by kernel_rfl) (fun _ h => by cases h) fnExactDecDiv_row_tie rfl ⟨rfl, rfl⟩ (by kernel_rfl) rfl fnExactDecDiv_plain (by kernel_rfl)
end Go.Proofs.YthfkdofnoomhaaaGreatDoor
