/-
  For all arguments FnExactMoneyText returns true: the text of an amount. No conditions beyond the card's own (the listed variables hold what the program's text lays).
-/
import Derived.Test.YtcenmdiblbooeaaDoorJA11
namespace Go.Proofs.YtcenmdiblbooeaaDoor
open Go.ChangeShapes Go.WideShapes Go.ChangeAt Go.RowKit
open Go.ChangeMaps (open_string shut_string)

set_option maxHeartbeats 1000000 in
set_option maxRecDepth 100000 in
theorem lawMoneyText (va : Value) (a : MI) (w : World)
    (hI : szM a ≤ 1048576 → ∀ (ua : Value) (W : World), OwnM ua a W → CurTab W → Tab W → Calls Tryd.prog 26 #[ua] W (PostT (textM a) W))
    (hca : capM a) (ht0 : CurTab w) (ht1 : Tab w) (ra : RdM w va a) :
    Calls Tryd.prog 6 #[va] w fun e w' => e = .returned (.bool true) ∧ Below w.heap.size w w' := by
  have hsa := szM_nonneg a
  by_cases hl : szM a ≤ 1048576
  · skip
    have hla : szM a ≤ 1048576 := by omega
    exact lawMoneyText_walk va a (textM a) w (fun ua W ha => specMoneyText_any ua a W (szM_len hla).2 ha) (hI hla) ht0 ht1 hl  ra
  · skip
    obtain ⟨Aa, ca, rfl⟩ := rdM_form ra
    have bb0 : Below w.heap.size w (w.alloc (.cells #[.string a.1, .bool a.2.1, .slice Aa a.2.2.length ca] 27)) := below_al (Below.refl _ _) _
    have ka := (box_new w #[.string a.1, .bool a.2.1, .slice Aa a.2.2.length ca] 27)
    go_enter Tryd.func6, Tryd.ntmps6
    have ka_c0 := ka.here.cell 0 _ rfl
    have ka_c1 := ka.here.cell 1 _ rfl
    have ka_c2 := ka.here.cell 2 _ rfl
    go_wp2_with fail
    clear ka_c0 ka_c1 ka_c2
    refine (szM_cal _ a (1048576) _ hca (by omega) (by omega) (ra.below bb0)).mono ?_
    rintro e w1 ⟨rfl, b1⟩
    have bb1 := Below.next bb0 b1
    replace ka := ka.below b1
    rw [show leftI (1048576) (szM a) = -1 by unfold leftI; rw [if_pos (by omega)]]
    go_wp2
    go_ret
    exact ⟨rfl, bb1⟩

set_option maxRecDepth 100000 in
theorem fnExactMoneyText_met (os : Os) : laidMet Tryd.prog Rows.fnExactMoneyTextRow.laid ((curLaidWorld os).forCall (fun _ _ => 0) ⟨#[], #[.agg #[.string ⟨#[]⟩, .bool false, .slice none 0 0]], []⟩).memory :=
  laidMet_of_run' 8 (by kernel_rfl) (by kernel_rfl)
set_option maxRecDepth 100000 in
theorem fnExactMoneyText_reads (os : Os) {H : Type} (enc : TypeId × Value → H) : ∃ gs places, DataW.whole enc Tryd.prog ((curLaidWorld os).forCall (fun _ _ => 0) ⟨#[], #[.agg #[.string ⟨#[]⟩, .bool false, .slice none 0 0]], []⟩).memory Tryd.f6.params.toList Rows.fnExactMoneyTextSpec.vars false (#[.agg #[.string ⟨#[]⟩, .bool false, .slice none 0 0]] : Array Value).toList 8 = some ([.agg [.lit (.string []), .agg [.lit (.bool false), .nil]]], gs, places) :=
  ⟨[Rows.laid_loop_example_g00793_impl_currencies], MemPlace.row ⟨0, 0, none⟩ 80, by kernel_rfl⟩

set_option maxRecDepth 100000 in
theorem fnExactMoneyText_lifted (os : Os) (started : os.Started) (H : Type) (enc : TypeId × Value → H) (F : Stop.Interp) :
    ReturnsInHanded {} Tryd.checked os 6 .any ((OpenSpec.ofChange Rows.fnExactMoneyTextSpec).preRow enc Tryd.prog Tryd.f6 Rows.fnExactMoneyTextRow.domain false Rows.fnExactMoneyTextRow.laid) (((OpenSpec.ofChange Rows.fnExactMoneyTextSpec).at F).post enc Tryd.prog Tryd.f6 false true false false) := by
  obtain ⟨gs, places, hx⟩ := fnExactMoneyText_reads os enc
  refine law_lifted_vars started (by kernel_rfl) Tryd.func6 (by kernel_rfl) (tb := 4) (by kernel_rfl) Tryd.underlying4 (by kernel_rfl)
    (witness_row_at (enc := enc) (C := Tryd.checked) false (curLaidWorld os) #[.agg #[.string ⟨#[]⟩, .bool false, .slice none 0 0]] rfl (by kernel_rfl) (by kernel_rfl) (by kernel_rfl)
      (OpenSpec.preRow_of_cond 8 hx (by kernel_rfl) (fun k hk => by cases hk) (by kernel_rfl) (fnExactMoneyText_met os))) ?_
  intro W base args ds p hval hA _ hL
  have ht := curTab_of (l := [("math/bits.deBruijn32tab", Rows.laid_math_bits_deBruijn32tab), ("math/bits.deBruijn64tab", Rows.laid_math_bits_deBruijn64tab), ("internal/strconv.uint64pow10", Rows.laid_internal_strconv_uint64pow10), ("loop.example/g00793/impl.currencies", Rows.laid_loop_example_g00793_impl_currencies)]) (show laidMet Tryd.prog [("math/bits.deBruijn32tab", Rows.laid_math_bits_deBruijn32tab), ("math/bits.deBruijn64tab", Rows.laid_math_bits_deBruijn64tab), ("internal/strconv.uint64pow10", Rows.laid_internal_strconv_uint64pow10), ("loop.example/g00793/impl.currencies", Rows.laid_loop_example_g00793_impl_currencies)] W from hL) (by simp)
  rw [Tryd.params6] at hA hval
  have htb := tab_any (show laidMet Tryd.prog [("math/bits.deBruijn32tab", Rows.laid_math_bits_deBruijn32tab), ("math/bits.deBruijn64tab", Rows.laid_math_bits_deBruijn64tab), ("internal/strconv.uint64pow10", Rows.laid_internal_strconv_uint64pow10), ("loop.example/g00793/impl.currencies", Rows.laid_loop_example_g00793_impl_currencies)] W from hL) (by simp)
  obtain ⟨v0, d0, rfl, rfl, h0⟩ := trodAll_one hA
  obtain ⟨a, ra, ma, ma2⟩ := arg_money (hval 0 27 v0 rfl rfl) h0
  unfold maxLen at ma ma2
  have hca : capM a := by unfold capM; omega
  exact ⟨fun gs hg => by
    match gs, hg with
    | [g], _ => rfl, lawMoneyText v0 a W (fun hla ua W ha h1 h3 => implMoneyText_any ua a W (szM_len hla).2 ha h1 h3)  hca ht htb ra⟩

set_option maxRecDepth 100000 in
theorem fnExactMoneyText_said : Rows.FnExactMoneyTextSaid :=
  OpenClaim.holds_of_cond 6 Tryd.f6 rfl rfl rfl rfl rfl rfl rfl ⟨rfl, rfl, rfl, rfl, rfl⟩ rfl rfl rfl rfl rfl (by kernel_rfl) Tryd.func6 (by kernel_rfl)
    (of_decide_eq_true (by kernel_rfl)) (by unfold Func.isWrapper; first | (rw [if_pos (by decide +kernel)]; kernel_rfl) | (rw [if_neg (by decide +kernel)]; exact ⟨rfl, rfl⟩))
    (fun os started H enc _ F => by rw [OpenClaim.pre_eq_preRow]; exact fnExactMoneyText_lifted os started H enc F)

theorem fnExactMoneyText_plain (f : FuncId) (fn : Func) (hf : Tryd.pinned.checked.prog.funcNamed "loop.example/g00793/laws.FnExactMoneyText" = some f) (hfn : Tryd.pinned.checked.prog.funcs[f]? = some fn) :
    true = Tryd.pinned.checked.prog.looks [] ∧ ∀ (j : Nat) t, fn.params[j]? = some t → Tryd.pinned.checked.prog.wantsStandIn t = false := by
  obtain rfl : f = 6 := Option.some.inj ((show Tryd.prog.funcNamed "loop.example/g00793/laws.FnExactMoneyText" = some 6 by kernel_rfl).symm.trans hf) |>.symm
  obtain rfl : fn = Tryd.f6 := (Option.some.inj (Tryd.func6.symm.trans hfn)).symm
  refine ⟨by kernel_rfl, fun j t ht => ?_⟩
  rw [Tryd.params6] at ht
  obtain rfl : t = 27 := by simpa using Array.mem_of_getElem? ht
  exact (show Tryd.prog.wantsStandIn 27 = false by kernel_rfl)

set_option maxRecDepth 100000 in
theorem fnExactMoneyText_card : Rows.FnExactMoneyTextCardSaid :=
  Claim7.holds_tied_plain_at .later [] _ _ _ _ fnExactMoneyText_said (fun _ h => by cases h) (by kernel_rfl) (fun _ h => by cases h) fnExactMoneyText_row_tie rfl ⟨rfl, rfl⟩ (by kernel_rfl) rfl fnExactMoneyText_plain (by kernel_rfl)
end Go.Proofs.YtcenmdiblbooeaaDoor
