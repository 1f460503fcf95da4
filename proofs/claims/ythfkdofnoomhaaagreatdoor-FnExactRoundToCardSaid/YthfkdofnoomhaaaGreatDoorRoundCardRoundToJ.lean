/-
  For all arguments the law FnExactRoundTo of chapter 7 returns true; no conditions beyond the card's own (the listed variable holds what the program's text lays).
-/
import Derived.Test.YthfkdofnoomhaaaGreatDoorJB12
namespace Go.Proofs.YthfkdofnoomhaaaGreatDoor
open Go.ChangeShapes Go.WideShapes Go.ChangeAt Go.RowKit
open Go.ChangeMaps (open_string shut_string)

set_option maxHeartbeats 1000000 in
set_option maxRecDepth 100000 in
theorem lawRoundTo (va : Value) (a : SI) (n : Int) (m : Int) (w : World)
    (hI : szS a ≤ 1048576 → ∀ (ua : Value) (W : World), OwnS ua a W → Sen W → Calls Tryz.prog 49 #[ua, .int .i64 n, .int .i64 m] W (PostSb (stepS a n m) (stepB a n m) W))
    (hca : capS a) (ht0 : Sen w) (ra : RdS w va a) :
    Calls Tryz.prog 9 #[va, .int .i64 n, .int .i64 m] w fun e w' => e = .returned (.bool true) ∧ Below w.heap.size w w' := by
  have hsa := szS_nonneg a
  by_cases hl : szS a ≤ 1048576
  · skip
    have hla : szS a ≤ 1048576 := by omega
    exact lawRoundTo_walk va a n m (stepS a n m) (stepB a n m) w (fun ua W ha => specRoundTo_any ua a n m W hla ha) (hI hla) ht0 hl (stepS_sz a n m) ra
  · skip
    obtain ⟨Aa, ca, rfl⟩ := rdS_form ra
    have bb0 : Below w.heap.size w (w.alloc (.cells #[.bool a.1, .slice Aa a.2.length ca] 24)) := below_al (Below.refl _ _) _
    have ka := (box_new w #[.bool a.1, .slice Aa a.2.length ca] 24)
    go_enter Tryz.func9, Tryz.ntmps9
    have ka_c0 := ka.here.cell 0 _ rfl
    have ka_c1 := ka.here.cell 1 _ rfl
    go_wp2_with fail
    clear ka_c0 ka_c1
    refine (szS_cal _ a (1048576) _ hca (by omega) (by omega) (ra.below bb0)).mono ?_
    rintro e w1 ⟨rfl, b1⟩
    have bb1 := Below.next bb0 b1
    replace ka := ka.below b1
    rw [show leftI (1048576) (szS a) = -1 by unfold leftI; rw [if_pos (by omega)]]
    go_wp2
    go_ret
    exact ⟨rfl, bb1⟩
set_option maxRecDepth 100000 in
theorem fnExactRoundTo_met (os : Os) : laidMet Tryz.prog Rows.fnExactRoundToRow.laid ((senWorld os).forCall (fun _ _ => 0) ⟨#[], #[.agg #[.bool false, .slice none 0 0], .int .i64 0, .int .i64 0], []⟩).memory :=
  laidMet_of_run' 8 (by kernel_rfl) (by kernel_rfl)
set_option maxRecDepth 100000 in
theorem fnExactRoundTo_reads (os : Os) {H : Type} (enc : TypeId × Value → H) : ∃ gs places, DataW.whole enc Tryz.prog ((senWorld os).forCall (fun _ _ => 0) ⟨#[], #[.agg #[.bool false, .slice none 0 0], .int .i64 0, .int .i64 0], []⟩).memory Tryz.f9.params.toList Rows.fnExactRoundToSpec.vars false (#[.agg #[.bool false, .slice none 0 0], .int .i64 0, .int .i64 0] : Array Value).toList 8 = some ([.agg [.lit (.bool false), .nil], .lit (.int .i64 0), .lit (.int .i64 0)], gs, places) :=
  ⟨[tok enc (.iface 248 (.pointer (some ⟨low, 0, none⟩)))], [.cell 0 0], by kernel_rfl⟩

set_option maxRecDepth 100000 in
theorem fnExactRoundTo_lifted (os : Os) (started : os.Started) (H : Type) (enc : TypeId × Value → H) (F : Stop.Interp) :
    ReturnsInHanded {} Tryz.checked os 9 .any ((OpenSpec.ofChange Rows.fnExactRoundToSpec).preRow enc Tryz.prog Tryz.f9 Rows.fnExactRoundToRow.domain false Rows.fnExactRoundToRow.laid) (((OpenSpec.ofChange Rows.fnExactRoundToSpec).at F).post enc Tryz.prog Tryz.f9 false true false false) := by
  obtain ⟨gs, places, hx⟩ := fnExactRoundTo_reads os enc
  refine law_lifted_sen started (by kernel_rfl) Tryz.func9 (by kernel_rfl) (tb := 4) (by kernel_rfl) Tryz.underlying4 rfl (fun W h => sen_of (show laidMet Tryz.prog [("loop.example/g00793/impl.errZeroDivisor", Rows.laid_loop_example_g00793_impl_errZeroDivisor)] W from h))
    (witness_row_at (enc := enc) (C := Tryz.checked) false (senWorld os) #[.agg #[.bool false, .slice none 0 0], .int .i64 0, .int .i64 0] rfl (by kernel_rfl) (by kernel_rfl) (by kernel_rfl)
      (OpenSpec.preRow_of_cond 8 hx (by kernel_rfl) (fun k hk => by cases hk) (by kernel_rfl) (fnExactRoundTo_met os))) ?_
  intro W base args ds p hval hA _ hL hs
  rw [Tryz.params9] at hA hval
  obtain ⟨v0, v1, v2, d0, d1, d2, p0, p1, p2, rfl, rfl, rfl, h0, h1, h2⟩ := trodAll_three hA
  obtain ⟨a, ra, ma⟩ := arg_signed (hval 0 24 v0 rfl rfl) h0
  unfold maxLen at ma
  have hca : capS a := by unfold capS; omega
  obtain ⟨n, rfl, rfl, rfl, _⟩ := open_int Tryz.underlying3 (hval 1 3 v1 rfl rfl) h1
  obtain ⟨m, rfl, rfl, rfl, _⟩ := open_int Tryz.underlying3 (hval 2 3 v2 rfl rfl) h2
  exact ⟨fun _ => rfl, lawRoundTo v0 a n m W (fun hla ua W ha hs => implRoundTo_any ua a n m W hla ha hs)  hca hs ra⟩

set_option maxRecDepth 100000 in
theorem fnExactRoundTo_said : Rows.FnExactRoundToSaid :=
  OpenClaim.holds_of_cond 9 Tryz.f9 rfl rfl rfl rfl rfl rfl rfl ⟨rfl, rfl, rfl, rfl, rfl⟩ rfl rfl rfl rfl rfl (by kernel_rfl) Tryz.func9 (by kernel_rfl)
    (of_decide_eq_true (by kernel_rfl)) (by unfold Func.isWrapper; first | (rw [if_pos (by decide +kernel)]; kernel_rfl) | (rw [if_neg (by decide +kernel)]; exact ⟨rfl, rfl⟩))
    (fun os started H enc _ F => by rw [OpenClaim.pre_eq_preRow]; exact fnExactRoundTo_lifted os started H enc F)

theorem fnExactRoundTo_plain (f : FuncId) (fn : Func) (hf : Tryz.pinned.checked.prog.funcNamed "loop.example/g00793/laws.FnExactRoundTo" = some f) (hfn : Tryz.pinned.checked.prog.funcs[f]? = some fn) :
    true = Tryz.pinned.checked.prog.looks [] ∧ ∀ (j : Nat) t, fn.params[j]? = some t → Tryz.pinned.checked.prog.wantsStandIn t = false := by
  obtain rfl : f = 9 := Option.some.inj ((show Tryz.prog.funcNamed "loop.example/g00793/laws.FnExactRoundTo" = some 9 by kernel_rfl).symm.trans hf) |>.symm
  obtain rfl : fn = Tryz.f9 := (Option.some.inj (Tryz.func9.symm.trans hfn)).symm
  refine ⟨by kernel_rfl, fun j t ht => ?_⟩
  rw [Tryz.params9] at ht
  have ht2 := Array.mem_of_getElem? ht
  simp at ht2
  rcases ht2 with rfl | rfl
  · exact (show Tryz.prog.wantsStandIn 24 = false by kernel_rfl)
  · exact (show Tryz.prog.wantsStandIn 3 = false by kernel_rfl)

set_option maxRecDepth 100000 in
theorem fnExactRoundTo_card : Rows.FnExactRoundToCardSaid :=
  Claim7.holds_tied_plain_at .later [] _ _ _ _ fnExactRoundTo_said (fun _ h => by cases h) (by kernel_rfl) (fun _ h => by cases h) fnExactRoundTo_row_tie rfl ⟨rfl, rfl⟩ (by kernel_rfl) rfl fnExactRoundTo_plain (by kernel_rfl)
end Go.Proofs.YthfkdofnoomhaaaGreatDoor
