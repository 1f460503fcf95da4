/-
  For all arguments FnExactRateOf returns true: the rate of two currencies. No conditions beyond the card's own (the listed variables hold what the program's text lays).
-/
import Derived.Test.YtbpfabicampdkaaGreatDoorRateLawRateOf
import Derived.Test.YtbpfabicampdkaaGreatDoorRateOfS2
import Derived.Test.YtbpfabicampdkaaGreatDoorRateFindI2
import Derived.Test.YtbpfabicampdkaaGreatDoorJC1
namespace Go.Proofs.YtbpfabicampdkaaGreatDoor
open Go.ChangeShapes Go.WideShapes Go.ChangeAt Go.RowKit
open Go.ChangeMaps (open_string shut_string)

theorem rateT_sz (t : TI) (a b : ByteArray) : szQ (rateT t a b).1 ≤ 1048576 := by rw [find_rate]; exact findT_sz t a b
set_option maxHeartbeats 1000000 in
set_option maxRecDepth 100000 in
theorem lawRateOf (va : Value) (a : TI) (p q : ByteArray) (w : World) (hca : capT a) (ht0 : CurTab w) (ht1 : Sen w) (ra : RdT w va a) :
    Calls Tryz.prog 6 #[va, .string p, .string q] w fun e w' => e = .returned (.bool true) ∧ Below w.heap.size w w' := by
  have hsa := szT_nonneg a
  by_cases hlp : p.size ≤ 1048576
  · by_cases hlq : q.size ≤ 1048576
    · by_cases hla : szT a ≤ 1048576
      · exact lawRateOf_walk va a p q (rateT a p q).1 (rateT a p q).2 w (fun ua W ha => specRateOf_all ua a p q W (by have := (szT_mem hla).1; omega) (fun x hx => (szE_len ((szT_mem hla).2 x hx)).2.2) ha.ownR) (fun ua W ha h1 h2 => implRateOf_any ua a p q W (by have := (szT_mem hla).1; omega) (fun x hx => (szE_len ((szT_mem hla).2 x hx)).2.2) ha.ownR h1 h2) ht0 ht1 hla hlp hlq (rateT_sz a p q) ra
      · have hcp : ¬ (1048576 < p.size) := by omega
        have hcq : ¬ (1048576 < q.size) := by omega
        obtain ⟨Aa, ca, rfl⟩ := rdT_form ra
        have bb0 : Below w.heap.size w (w.alloc (.cells #[.string a.1, .slice Aa a.2.length ca] 60)) := below_al (Below.refl _ _) _
        have ka := (box_new w #[.string a.1, .slice Aa a.2.length ca] 60)
        go_enter Tryz.func6, Tryz.ntmps6
        have ka_c0 := ka.here.cell 0 _ rfl
        have ka_c1 := ka.here.cell 1 _ rfl
        go_wp2_with fail
        clear ka_c0 ka_c1
        refine (szT_cal _ a (1048576) _ hca (by omega) (by omega) (ra.below bb0)).mono ?_
        rintro e w1 ⟨rfl, b1⟩
        rw [show leftI (1048576) (szT a) = -1 by unfold leftI; rw [if_pos (by omega)]]
        go_wp2
        go_ret
        exact ⟨rfl, Below.next bb0 b1⟩
    · have hcp : ¬ (1048576 < p.size) := by omega
      obtain ⟨Aa, ca, rfl⟩ := rdT_form ra
      go_enter Tryz.func6, Tryz.ntmps6
      go_wp2
      go_ret
      exact ⟨rfl, below_al (Below.refl _ _) _⟩
  · obtain ⟨Aa, ca, rfl⟩ := rdT_form ra
    go_enter Tryz.func6, Tryz.ntmps6
    go_wp2
    go_ret
    exact ⟨rfl, below_al (Below.refl _ _) _⟩

set_option maxRecDepth 100000 in
theorem fnExactRateOf_met (os : Os) : laidMet Tryz.prog Rows.fnExactRateOfRow.laid ((curSenWorld os).forCall (fun _ _ => 0) ⟨#[], #[.agg #[.string ⟨#[]⟩, .slice none 0 0], .string ⟨#[]⟩, .string ⟨#[]⟩], []⟩).memory :=
  laidMet_of_run' 8 (by kernel_rfl) (by kernel_rfl)
set_option maxRecDepth 100000 in
theorem fnExactRateOf_reads (os : Os) {H : Type} (enc : TypeId × Value → H) : ∃ gs places, DataW.whole enc Tryz.prog ((curSenWorld os).forCall (fun _ _ => 0) ⟨#[], #[.agg #[.string ⟨#[]⟩, .slice none 0 0], .string ⟨#[]⟩, .string ⟨#[]⟩], []⟩).memory Tryz.f6.params.toList Rows.fnExactRateOfSpec.vars false (#[.agg #[.string ⟨#[]⟩, .slice none 0 0], .string ⟨#[]⟩, .string ⟨#[]⟩] : Array Value).toList 8 = some ([.agg [.lit (.string []), .nil], .lit (.string []), .lit (.string [])], gs, places) :=
  ⟨[Rows.laid_loop_example_g00793_impl_currencies, tok enc (.iface 269 (.pointer (some ⟨low, 0, none⟩)))], MemPlace.row ⟨1, 0, none⟩ 80 ++ [.cell 0 0], by kernel_rfl⟩

set_option maxRecDepth 100000 in
theorem fnExactRateOf_lifted (os : Os) (started : os.Started) (H : Type) (enc : TypeId × Value → H) (F : Stop.Interp) :
    ReturnsInHanded {} Tryz.checked os 6 .any ((OpenSpec.ofChange Rows.fnExactRateOfSpec).preRow enc Tryz.prog Tryz.f6 Rows.fnExactRateOfRow.domain false Rows.fnExactRateOfRow.laid) (((OpenSpec.ofChange Rows.fnExactRateOfSpec).at F).post enc Tryz.prog Tryz.f6 false true false false) := by
  obtain ⟨gs, places, hx⟩ := fnExactRateOf_reads os enc
  refine law_lifted_vars started (by kernel_rfl) Tryz.func6 (by kernel_rfl) (tb := 4) (by kernel_rfl) Tryz.underlying4 (by kernel_rfl)
    (witness_row_at (enc := enc) (C := Tryz.checked) false (curSenWorld os) #[.agg #[.string ⟨#[]⟩, .slice none 0 0], .string ⟨#[]⟩, .string ⟨#[]⟩] rfl (by kernel_rfl) (by kernel_rfl) (by kernel_rfl)
      (OpenSpec.preRow_of_cond 8 hx (by kernel_rfl) (fun k hk => by cases hk) (by kernel_rfl) (fnExactRateOf_met os))) ?_
  intro W base args ds p hval hA _ hL
  have ht := curTab_of (l := [("loop.example/g00793/impl.errZeroDivisor", Rows.laid_loop_example_g00793_impl_errZeroDivisor), ("loop.example/g00793/impl.currencies", Rows.laid_loop_example_g00793_impl_currencies)]) (show laidMet Tryz.prog [("loop.example/g00793/impl.errZeroDivisor", Rows.laid_loop_example_g00793_impl_errZeroDivisor), ("loop.example/g00793/impl.currencies", Rows.laid_loop_example_g00793_impl_currencies)] W from hL) (by simp)
  rw [Tryz.params6] at hA hval
  obtain ⟨asen, hsen⟩ := sen_of (show laidMet Tryz.prog [("loop.example/g00793/impl.errZeroDivisor", Rows.laid_loop_example_g00793_impl_errZeroDivisor), ("loop.example/g00793/impl.currencies", Rows.laid_loop_example_g00793_impl_currencies)] W from hL)
  have hse : Sen W := hsen.sen
  obtain ⟨v0, v1, v2, d0, d1, d2, p0, p1, p2, rfl, rfl, rfl, h0, h1, h2⟩ := trodAll_three hA
  obtain ⟨a, ra, hca⟩ := arg_rates (hval 0 60 v0 rfl rfl) h0
  obtain ⟨p, rfl, rfl, rfl, mp⟩ := open_string Tryz.underlying9 (hval 1 9 v1 rfl rfl) h1
  obtain ⟨q, rfl, rfl, rfl, mq⟩ := open_string Tryz.underlying9 (hval 2 9 v2 rfl rfl) h2
  exact ⟨fun gs hg => by
    match gs, hg with
    | [g1, g2], _ => rfl, lawRateOf v0 a p q W hca ht hse ra⟩

set_option maxRecDepth 100000 in
theorem fnExactRateOf_said : Rows.FnExactRateOfSaid :=
  OpenClaim.holds_of_cond 6 Tryz.f6 rfl rfl rfl rfl rfl rfl rfl ⟨rfl, rfl, rfl, rfl, rfl⟩ rfl rfl rfl rfl rfl (by kernel_rfl) Tryz.func6 (by kernel_rfl)
    (of_decide_eq_true (by kernel_rfl)) (by unfold Func.isWrapper; first | (rw [if_pos (by decide +kernel)]; kernel_rfl) | (rw [if_neg (by decide +kernel)]; exact ⟨rfl, rfl⟩))
    (fun os started H enc _ F => by rw [OpenClaim.pre_eq_preRow]; exact fnExactRateOf_lifted os started H enc F)

theorem fnExactRateOf_plain (f : FuncId) (fn : Func) (hf : Tryz.pinned.checked.prog.funcNamed "loop.example/g00793/laws.FnExactRateOf" = some f) (hfn : Tryz.pinned.checked.prog.funcs[f]? = some fn) :
    true = Tryz.pinned.checked.prog.looks [] ∧ ∀ (j : Nat) t, fn.params[j]? = some t → Tryz.pinned.checked.prog.wantsStandIn t = false := by
  obtain rfl : f = 6 := Option.some.inj ((show Tryz.prog.funcNamed "loop.example/g00793/laws.FnExactRateOf" = some 6 by kernel_rfl).symm.trans hf) |>.symm
  obtain rfl : fn = Tryz.f6 := (Option.some.inj (Tryz.func6.symm.trans hfn)).symm
  refine ⟨by kernel_rfl, fun j t ht => ?_⟩
  rw [Tryz.params6] at ht
  have ht2 := Array.mem_of_getElem? ht
  simp at ht2
  rcases ht2 with rfl | rfl
  · exact (show Tryz.prog.wantsStandIn 60 = false by kernel_rfl)
  · exact (show Tryz.prog.wantsStandIn 9 = false by kernel_rfl)

set_option maxRecDepth 100000 in
theorem fnExactRateOf_card : Rows.FnExactRateOfCardSaid :=
  Claim7.holds_tied_plain_at .later [] _ _ _ _ fnExactRateOf_said (fun _ h => by cases h) (by kernel_rfl) (fun _ h => by cases h) fnExactRateOf_row_tie rfl ⟨rfl, rfl⟩ (by kernel_rfl) rfl fnExactRateOf_plain (by kernel_rfl)
end Go.Proofs.YtbpfabicampdkaaGreatDoor
