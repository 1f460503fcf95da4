/-
  For all arguments the law FnExactRatDec of chapter 8 returns true; no conditions beyond the card's own (the listed variables hold what the program's text lays).
-/
import Derived.Test.YthfkdofnoomhaaaGreatDoorJC14
namespace Go.Proofs.YthfkdofnoomhaaaGreatDoor
open Go.ChangeShapes Go.WideShapes Go.ChangeAt Go.RowKit
open Go.ChangeMaps (open_string shut_string)

set_option maxHeartbeats 1000000 in
set_option maxRecDepth 100000 in
theorem lawRatDec (vr : Value) (r : QI) (k : Int) (m : Int) (w : World)
    (hI : szQ r ≤ 1048576 → ∀ (ur : Value) (W : World), OwnQ ur r W → Sen W → Calls Tryz.prog 14 #[ur, .int .i64 k, .int .i64 m] W (PostDb ((ratDecD r k m).1) ((ratDecD r k m).2) W))
    (hcr : capQ r) (ht0 : Sen w) (rr : RdQ w vr r) :
    Calls Tryz.prog 3 #[vr, .int .i64 k, .int .i64 m] w fun e w' => e = .returned (.bool true) ∧ Below w.heap.size w w' := by
  have hsr := szQ_nonneg r
  by_cases hl : szQ r ≤ 1048576
  · skip
    have hlr : szQ r ≤ 1048576 := by omega
    exact lawRatDec_walk vr r k m ((ratDecD r k m).1) ((ratDecD r k m).2) w (fun ur W hr => specRatDec_any ur r k m W hlr hr) (hI hlr) ht0 hl (ratDecD_sz r k m) rr
  · skip
    obtain ⟨Ar, cr, Br, dr, rfl⟩ := rdQ_form rr
    have bb0 : Below w.heap.size w (w.alloc (.cells #[.bool r.1.1, .slice Ar r.1.2.length cr, .slice Br r.2.length dr] 26)) := below_al (Below.refl _ _) _
    have kr := (box_new w #[.bool r.1.1, .slice Ar r.1.2.length cr, .slice Br r.2.length dr] 26)
    go_enter Tryz.func3, Tryz.ntmps3
    have kr_c0 := kr.here.cell 0 _ rfl
    have kr_c1 := kr.here.cell 1 _ rfl
    have kr_c2 := kr.here.cell 2 _ rfl
    go_wp2_with fail
    clear kr_c0 kr_c1 kr_c2
    refine (szQ_cal _ r (1048576) _ hcr (by omega) (by omega) (rr.below bb0)).mono ?_
    rintro e w1 ⟨rfl, b1⟩
    have bb1 := Below.next bb0 b1
    replace kr := kr.below b1
    rw [show leftI (1048576) (szQ r) = -1 by unfold leftI; rw [if_pos (by omega)]]
    go_wp2
    go_ret
    exact ⟨rfl, bb1⟩
set_option maxRecDepth 100000 in
theorem fnExactRatDec_met (os : Os) : laidMet Tryz.prog Rows.fnExactRatDecRow.laid ((senWorld os).forCall (fun _ _ => 0) ⟨#[], #[.agg #[.bool false, .slice none 0 0, .slice none 0 0], .int .i64 0, .int .i64 0], []⟩).memory :=
  laidMet_of_run' 8 (by kernel_rfl) (by kernel_rfl)
set_option maxRecDepth 100000 in
theorem fnExactRatDec_reads (os : Os) {H : Type} (enc : TypeId × Value → H) : ∃ gs places, DataW.whole enc Tryz.prog ((senWorld os).forCall (fun _ _ => 0) ⟨#[], #[.agg #[.bool false, .slice none 0 0, .slice none 0 0], .int .i64 0, .int .i64 0], []⟩).memory Tryz.f3.params.toList Rows.fnExactRatDecSpec.vars false (#[.agg #[.bool false, .slice none 0 0, .slice none 0 0], .int .i64 0, .int .i64 0] : Array Value).toList 8 = some ([.agg [.agg [.lit (.bool false), .nil], .nil], .lit (.int .i64 0), .lit (.int .i64 0)], gs, places) :=
  ⟨[tok enc (.iface 248 (.pointer (some ⟨low, 0, none⟩)))], [.cell 0 0], by kernel_rfl⟩

set_option maxRecDepth 100000 in
theorem fnExactRatDec_lifted (os : Os) (started : os.Started) (H : Type) (enc : TypeId × Value → H) (F : Stop.Interp) :
    ReturnsInHanded {} Tryz.checked os 3 .any ((OpenSpec.ofChange Rows.fnExactRatDecSpec).preRow enc Tryz.prog Tryz.f3 Rows.fnExactRatDecRow.domain false Rows.fnExactRatDecRow.laid) (((OpenSpec.ofChange Rows.fnExactRatDecSpec).at F).post enc Tryz.prog Tryz.f3 false true false false) := by
  obtain ⟨gs, places, hx⟩ := fnExactRatDec_reads os enc
  refine law_lifted_sen started (by kernel_rfl) Tryz.func3 (by kernel_rfl) (tb := 4) (by kernel_rfl) Tryz.underlying4 rfl (fun W h => sen_of (show laidMet Tryz.prog [("loop.example/g00793/impl.errZeroDivisor", Rows.laid_loop_example_g00793_impl_errZeroDivisor)] W from h))
    (witness_row_at (enc := enc) (C := Tryz.checked) false (senWorld os) #[.agg #[.bool false, .slice none 0 0, .slice none 0 0], .int .i64 0, .int .i64 0] rfl (by kernel_rfl) (by kernel_rfl) (by kernel_rfl)
      (OpenSpec.preRow_of_cond 8 hx (by kernel_rfl) (fun k hk => by cases hk) (by kernel_rfl) (fnExactRatDec_met os))) ?_
  intro W base args ds p hval hA _ hL hs
  rw [Tryz.params3] at hA hval
  obtain ⟨v0, v1, v2, d0, d1, d2, p0, p1, p2, rfl, rfl, rfl, h0, h1, h2⟩ := trodAll_three hA
  obtain ⟨r, rr, mr, mr2⟩ := arg_rat (hval 0 26 v0 rfl rfl) h0
  unfold maxLen at mr mr2
  have hcr : capQ r := by unfold capQ; omega
  obtain ⟨k, rfl, rfl, rfl, ik⟩ := open_int Tryz.underlying3 (hval 1 3 v1 rfl rfl) h1
  have jk : -9223372036854775808 ≤ k ∧ k ≤ 9223372036854775807 := by simpa [Lit.wf, IntKind.min, IntKind.max, IntKind.signed, IntKind.bits] using ik
  obtain ⟨m, rfl, rfl, rfl, im⟩ := open_int Tryz.underlying3 (hval 2 3 v2 rfl rfl) h2
  have jm : -9223372036854775808 ≤ m ∧ m ≤ 9223372036854775807 := by simpa [Lit.wf, IntKind.min, IntKind.max, IntKind.signed, IntKind.bits] using im
  exact ⟨fun _ => rfl, lawRatDec v0 r k m W (fun hlr ur W hr hs => implRatDec_any ur r k m W hlr hr hs) hcr hs rr⟩

set_option maxRecDepth 100000 in
theorem fnExactRatDec_said : Rows.FnExactRatDecSaid :=
  OpenClaim.holds_of_cond 3 Tryz.f3 rfl rfl rfl rfl rfl rfl rfl ⟨rfl, rfl, rfl, rfl, rfl⟩ rfl rfl rfl rfl rfl (by kernel_rfl) Tryz.func3 (by kernel_rfl)
    (of_decide_eq_true (by kernel_rfl)) (by unfold Func.isWrapper; first | (rw [if_pos (by decide +kernel)]; kernel_rfl) | (rw [if_neg (by decide +kernel)]; exact ⟨rfl, rfl⟩))
    (fun os started H enc _ F => by rw [OpenClaim.pre_eq_preRow]; exact fnExactRatDec_lifted os started H enc F)

theorem fnExactRatDec_plain (f : FuncId) (fn : Func) (hf : Tryz.pinned.checked.prog.funcNamed "loop.example/g00793/laws.FnExactRatDec" = some f) (hfn : Tryz.pinned.checked.prog.funcs[f]? = some fn) :
    true = Tryz.pinned.checked.prog.looks [] ∧ ∀ (j : Nat) t, fn.params[j]? = some t → Tryz.pinned.checked.prog.wantsStandIn t = false := by
  obtain rfl : f = 3 := Option.some.inj ((show Tryz.prog.funcNamed "loop.example/g00793/laws.FnExactRatDec" = some 3 by kernel_rfl).symm.trans hf) |>.symm
  obtain rfl : fn = Tryz.f3 := (Option.some.inj (Tryz.func3.symm.trans hfn)).symm
  refine ⟨by kernel_rfl, fun j t ht => ?_⟩
  rw [Tryz.params3] at ht
  have ht2 := Array.mem_of_getElem? ht
  simp at ht2
  rcases ht2 with rfl | rfl
  · exact (show Tryz.prog.wantsStandIn 26 = false by kernel_rfl)
  · exact (show Tryz.prog.wantsStandIn 3 = false by kernel_rfl)

set_option maxRecDepth 100000 in
theorem fnExactRatDec_card : Rows.FnExactRatDecCardSaid :=
  Claim7.holds_tied_plain_at .later [] _ _ _ _ fnExactRatDec_said (fun _ h => by cases h) (by kernel_rfl) (fun _ h => by cases h) fnExactRatDec_row_tie rfl ⟨rfl, rfl⟩ (by kernel_rfl) rfl fnExactRatDec_plain (by kernel_rfl)
end Go.Proofs.YthfkdofnoomhaaaGreatDoor
