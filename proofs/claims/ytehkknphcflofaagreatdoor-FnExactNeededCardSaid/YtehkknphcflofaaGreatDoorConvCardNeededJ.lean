/-
  For all arguments FnExactNeeded returns true: the smallest amount in a currency that suffices. No conditions beyond the card's own (the listed variables hold what the program's text lays).
-/
import Derived.Test.YtehkknphcflofaaGreatDoorConvCardNeededGJ
import Derived.Test.YtehkknphcflofaaGreatDoorConvCardNeededHJ
import Derived.Test.YtehkknphcflofaaGreatDoorConvLawNeededJ
import Derived.Test.YtehkknphcflofaaGreatDoorConvNeedSJ
import Derived.Test.YtehkknphcflofaaGreatDoorConvNeedIJ
import Derived.Test.YtehkknphcflofaaGreatDoorJU10
namespace Go.Proofs.YtehkknphcflofaaGreatDoor
open Go.ChangeShapes Go.WideShapes Go.ChangeAt Go.RowKit
open Go.ChangeMaps (open_string shut_string)

theorem needR_sz (t : TI) (m : MI) (q : ByteArray) : szM (needR t m q).1 ≤ 1048576 := (rm_szC q (costR t m q).1 3)
theorem szM_SC {a : MI} (h : szM a ≤ 1048576) : szS a.2 ≤ 1048576 := by unfold szM at h; omega
set_option maxHeartbeats 1000000 in
set_option maxRecDepth 100000 in
theorem lawNeeded (va vm : Value) (a : TI) (m : MI) (q : ByteArray) (w : World) (hca : capT a) (hcm : capM m) (ht0 : CurTab w) (ht1 : Sen w) (ra : RdT w va a) (rm : RdM w vm m) :
    Calls Tryz.prog 11 #[va, vm, .string q] w fun e w' => e = .returned (.bool true) ∧ Below w.heap.size w w' := by
  have hsa := szT_nonneg a
  have hsm := szM_nonneg m
  by_cases hlq : q.size ≤ 1048576
  · by_cases hl : szT a + szM m ≤ 1048576
    · have hla : szT a ≤ 1048576 := by omega
      have hlm : szM m ≤ 1048576 := by omega
      exact lawNeeded_walk va vm a m q (needR a m q).1 (needR a m q).2 w (fun ua um W ha hm => specNeeded_any ua um a m q W (by have := (szT_mem hla).1; omega) (fun x hx => (szE_len ((szT_mem hla).2 x hx)).2.2) (szM_SC hlm) ha.ownR hm) (fun ua um W ha hm h1 h2 => implNeeded_any ua um a m q W (by have := (szT_mem hla).1; omega) (fun x hx => (szE_len ((szT_mem hla).2 x hx)).2.2) (szM_SC hlm) ha.ownR hm h1 h2) ht0 ht1 hl hlq (needR_sz a m q) ra rm
    · have hcq : ¬ (1048576 < q.size) := by omega
      obtain ⟨Aa, ca, rfl⟩ := rdT_form ra
      obtain ⟨Am, cm, rfl⟩ := rdM_form rm
      have bb0 : Below w.heap.size w ((w.alloc (.cells #[.string a.1, .slice Aa a.2.length ca] 78)).alloc (.cells #[.string m.1, .bool m.2.1, .slice Am m.2.2.length cm] 88)) := below_al (below_al (Below.refl _ _) _) _
      have ka := (box_new w #[.string a.1, .slice Aa a.2.length ca] 78).below (below_al (Below.refl _ _) (.cells #[.string m.1, .bool m.2.1, .slice Am m.2.2.length cm] 88))
      have km := box_new (w.alloc (.cells #[.string a.1, .slice Aa a.2.length ca] 78)) #[.string m.1, .bool m.2.1, .slice Am m.2.2.length cm] 88
      rw [show (w.alloc (.cells #[.string a.1, .slice Aa a.2.length ca] 78)).heap.size = w.heap.size + 1 by simp] at km
      go_enter Tryz.func11, Tryz.ntmps11
      have ka_c0 := ka.here.cell 0 _ rfl
      have ka_c1 := ka.here.cell 1 _ rfl
      go_wp2_with fail
      clear ka_c0 ka_c1
      refine (szT_cal _ a (1048576) _ hca (by omega) (by omega) (ra.below bb0)).mono ?_
      rintro e w1 ⟨rfl, b1⟩
      have bb1 := Below.next bb0 b1
      by_cases hla : szT a ≤ 1048576
      · rw [leftI_of (by omega)]
        have hn : decide (((1048576 : Int) - szT a : Int) < 0) = false := decide_eq_false (by omega)
        replace km := km.below b1
        have km_c0 := km.here.cell 0 _ rfl
        have km_c1 := km.here.cell 1 _ rfl
        have km_c2 := km.here.cell 2 _ rfl
        go_wp2_with fail
        clear km_c0 km_c1 km_c2 hn
        refine (szM_cal _ m (1048576 - szT a) _ hcm (by omega) (by omega) (rm.below bb1)).mono ?_
        rintro e w2 ⟨rfl, b2⟩
        rw [show leftI (1048576 - szT a) (szM m) = -1 by unfold leftI; rw [if_pos (by omega)]]
        go_wp2
        go_ret
        exact ⟨rfl, Below.next bb1 b2⟩
      · rw [show leftI (1048576) (szT a) = -1 by unfold leftI; rw [if_pos (by omega)]]
        go_wp2
        go_ret
        exact ⟨rfl, bb1⟩
  · obtain ⟨Aa, ca, rfl⟩ := rdT_form ra
    obtain ⟨Am, cm, rfl⟩ := rdM_form rm
    go_enter Tryz.func11, Tryz.ntmps11
    go_wp2
    go_ret
    exact ⟨rfl, below_al (below_al (Below.refl _ _) _) _⟩

set_option maxRecDepth 100000 in
theorem fnExactNeeded_met (os : Os) : laidMet Tryz.prog Rows.fnExactNeededRow.laid ((curSenWorld os).forCall (fun _ _ => 0) ⟨#[], #[.agg #[.string ⟨#[]⟩, .slice none 0 0], .agg #[.string ⟨#[]⟩, .bool false, .slice none 0 0], .string ⟨#[]⟩], []⟩).memory :=
  laidMet_of_run' 8 (by kernel_rfl) (by kernel_rfl)
set_option maxRecDepth 100000 in
theorem fnExactNeeded_reads (os : Os) {H : Type} (enc : TypeId × Value → H) : ∃ gs places, DataW.whole enc Tryz.prog ((curSenWorld os).forCall (fun _ _ => 0) ⟨#[], #[.agg #[.string ⟨#[]⟩, .slice none 0 0], .agg #[.string ⟨#[]⟩, .bool false, .slice none 0 0], .string ⟨#[]⟩], []⟩).memory Tryz.f11.params.toList Rows.fnExactNeededSpec.vars false (#[.agg #[.string ⟨#[]⟩, .slice none 0 0], .agg #[.string ⟨#[]⟩, .bool false, .slice none 0 0], .string ⟨#[]⟩] : Array Value).toList 8 = some ([.agg [.lit (.string []), .nil], .agg [.lit (.string []), .agg [.lit (.bool false), .nil]], .lit (.string [])], gs, places) :=
  ⟨[Rows.laid_loop_example_g00793_impl_currencies, tok enc (.iface 349 (.pointer (some ⟨low, 0, none⟩)))], MemPlace.row ⟨1, 0, none⟩ 80 ++ [.cell 2 0], by kernel_rfl⟩

set_option maxRecDepth 100000 in
theorem fnExactNeeded_lifted (os : Os) (started : os.Started) (H : Type) (enc : TypeId × Value → H) (F : Stop.Interp) :
    ReturnsInHanded {} Tryz.checked os 11 .any ((OpenSpec.ofChange Rows.fnExactNeededSpec).preRow enc Tryz.prog Tryz.f11 Rows.fnExactNeededRow.domain false Rows.fnExactNeededRow.laid) (((OpenSpec.ofChange Rows.fnExactNeededSpec).at F).post enc Tryz.prog Tryz.f11 false true false false) := by
  obtain ⟨gs, places, hx⟩ := fnExactNeeded_reads os enc
  refine law_lifted_vars started (by kernel_rfl) Tryz.func11 (by kernel_rfl) (tb := 4) (by kernel_rfl) Tryz.underlying4 (by kernel_rfl)
    (witness_row_at (enc := enc) (C := Tryz.checked) false (curSenWorld os) #[.agg #[.string ⟨#[]⟩, .slice none 0 0], .agg #[.string ⟨#[]⟩, .bool false, .slice none 0 0], .string ⟨#[]⟩] rfl (by kernel_rfl) (by kernel_rfl) (by kernel_rfl)
      (OpenSpec.preRow_of_cond 8 hx (by kernel_rfl) (fun k hk => by cases hk) (by kernel_rfl) (fnExactNeeded_met os))) ?_
  intro W base args ds p hval hA _ hL
  have ht := curTab_of (l := [("loop.example/g00793/impl.errZeroDivisor", Rows.laid_loop_example_g00793_impl_errZeroDivisor), ("loop.example/g00793/impl.currencies", Rows.laid_loop_example_g00793_impl_currencies)]) (show laidMet Tryz.prog [("loop.example/g00793/impl.errZeroDivisor", Rows.laid_loop_example_g00793_impl_errZeroDivisor), ("loop.example/g00793/impl.currencies", Rows.laid_loop_example_g00793_impl_currencies)] W from hL) (by simp)
  rw [Tryz.params11] at hA hval
  obtain ⟨asen, hsen⟩ := sen_of (show laidMet Tryz.prog [("loop.example/g00793/impl.errZeroDivisor", Rows.laid_loop_example_g00793_impl_errZeroDivisor), ("loop.example/g00793/impl.currencies", Rows.laid_loop_example_g00793_impl_currencies)] W from hL)
  have hse : Sen W := hsen.sen
  obtain ⟨v0, v1, v2, d0, d1, d2, p0, p1, p2, rfl, rfl, rfl, h0, h1, h2⟩ := trodAll_three hA
  obtain ⟨a, ra, hca⟩ := arg_rates (hval 0 78 v0 rfl rfl) h0
  obtain ⟨m, rm, mm, mm2⟩ := arg_money (hval 1 88 v1 rfl rfl) h1
  unfold maxLen at mm mm2
  have hcm : capM m := by unfold capM; omega
  obtain ⟨q, rfl, rfl, rfl, mq⟩ := open_string Tryz.underlying9 (hval 2 9 v2 rfl rfl) h2
  exact ⟨fun gs hg => by
    match gs, hg with
    | [g1, g2], _ => rfl, lawNeeded v0 v1 a m q W hca hcm ht hse ra rm⟩

set_option maxRecDepth 100000 in
theorem fnExactNeeded_said : Rows.FnExactNeededSaid :=
  OpenClaim.holds_of_cond 11 Tryz.f11 rfl rfl rfl rfl rfl rfl rfl ⟨rfl, rfl, rfl, rfl, rfl⟩ rfl rfl rfl rfl rfl (by kernel_rfl) Tryz.func11 fnExactNeeded_closed
    (of_decide_eq_true (by kernel_rfl)) (by unfold Func.isWrapper; first | (rw [if_pos (by decide +kernel)]; kernel_rfl) | (rw [if_neg (by decide +kernel)]; exact ⟨rfl, rfl⟩))
    (fun os started H enc _ F => by rw [OpenClaim.pre_eq_preRow]; exact fnExactNeeded_lifted os started H enc F)

theorem fnExactNeeded_plain (f : FuncId) (fn : Func) (hf : Tryz.pinned.checked.prog.funcNamed "loop.example/g00793/laws.FnExactNeeded" = some f) (hfn : Tryz.pinned.checked.prog.funcs[f]? = some fn) :
    true = Tryz.pinned.checked.prog.looks [] ∧ ∀ (j : Nat) t, fn.params[j]? = some t → Tryz.pinned.checked.prog.wantsStandIn t = false := by
  obtain rfl : f = 11 := Option.some.inj ((show Tryz.prog.funcNamed "loop.example/g00793/laws.FnExactNeeded" = some 11 by kernel_rfl).symm.trans hf) |>.symm
  obtain rfl : fn = Tryz.f11 := (Option.some.inj (Tryz.func11.symm.trans hfn)).symm
  refine ⟨by kernel_rfl, fun j t ht => ?_⟩
  rw [Tryz.params11] at ht
  have ht2 := Array.mem_of_getElem? ht
  simp at ht2
  rcases ht2 with rfl | rfl | rfl
  · exact (show Tryz.prog.wantsStandIn 78 = false by kernel_rfl)
  · exact (show Tryz.prog.wantsStandIn 88 = false by kernel_rfl)
  · exact (show Tryz.prog.wantsStandIn 9 = false by kernel_rfl)

set_option maxRecDepth 100000 in
theorem fnExactNeeded_card : Rows.FnExactNeededCardSaid :=
  Claim7.holds_tied_plain_at .later [] _ _ _ _ fnExactNeeded_said (fun _ h => by cases h) (by kernel_rfl) (fun _ h => by cases h) fnExactNeeded_row_tie rfl ⟨rfl, rfl⟩ (by kernel_rfl) rfl fnExactNeeded_plain fnExactNeeded_goes
end Go.Proofs.YtehkknphcflofaaGreatDoor
