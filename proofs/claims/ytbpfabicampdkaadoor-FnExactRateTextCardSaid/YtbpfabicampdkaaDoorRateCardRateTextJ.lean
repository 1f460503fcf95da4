/-
  For all arguments FnExactRateText returns true: the text of a rate. No conditions beyond the card's own (the listed variables hold what the program's text lays).
-/
import Derived.Test.YtbpfabicampdkaaDoorJA8
namespace Go.Proofs.YtbpfabicampdkaaDoor
open Go.ChangeShapes Go.WideShapes Go.ChangeAt Go.RowKit
open Go.ChangeMaps (open_string shut_string)

set_option maxHeartbeats 1000000 in
set_option maxRecDepth 100000 in
theorem lawRateText (va : Value) (a : EI) (w : World)
    (hI : szE a ≤ 1048576 → ∀ (ua : Value) (W : World), OwnE ua a W → CurTab W → Tab W → Calls Tryd.prog 23 #[ua] W (PostT (textE a) W))
    (hca : capE a) (ht0 : CurTab w) (ht1 : Tab w) (ra : RdE w va a) :
    Calls Tryd.prog 6 #[va] w fun e w' => e = .returned (.bool true) ∧ Below w.heap.size w w' := by
  have hsa := szE_nonneg a
  by_cases hl : szE a ≤ 1048576
  · skip
    have hla : szE a ≤ 1048576 := by omega
    exact lawRateText_walk va a (textE a) w (fun ua W ha => specRateText_any ua a W (szE_len hla).2.2 ha) (hI hla) ht0 ht1 hl  ra
  · skip
    obtain ⟨Aa, ca, rfl⟩ := rdE_form ra
    have bb0 : Below w.heap.size w (w.alloc (.cells #[.string a.1, .string a.2.1, .bool a.2.2.1.1, .slice Aa a.2.2.1.2.length ca, .int .i64 a.2.2.2] 28)) := below_al (Below.refl _ _) _
    have ka := (box_new w #[.string a.1, .string a.2.1, .bool a.2.2.1.1, .slice Aa a.2.2.1.2.length ca, .int .i64 a.2.2.2] 28)
    go_enter Tryd.func6, Tryd.ntmps6
    have ka_c0 := ka.here.cell 0 _ rfl
    have ka_c1 := ka.here.cell 1 _ rfl
    have ka_c2 := ka.here.cell 2 _ rfl
    have ka_c3 := ka.here.cell 3 _ rfl
    have ka_c4 := ka.here.cell 4 _ rfl
    go_wp2_with fail
    clear ka_c0 ka_c1 ka_c2 ka_c3 ka_c4
    refine (szE_cal _ a (1048576) _ hca (by omega) (by omega) (ra.below bb0)).mono ?_
    rintro e w1 ⟨rfl, b1⟩
    have bb1 := Below.next bb0 b1
    replace ka := ka.below b1
    rw [show leftI (1048576) (szE a) = -1 by unfold leftI; rw [if_pos (by omega)]]
    go_wp2
    go_ret
    exact ⟨rfl, bb1⟩

set_option maxRecDepth 100000 in
theorem fnExactRateText_met (os : Os) : laidMet Tryd.prog Rows.fnExactRateTextRow.laid ((curLaidWorld os).forCall (fun _ _ => 0) ⟨#[], #[.agg #[.string ⟨#[]⟩, .string ⟨#[]⟩, .bool false, .slice none 0 0, .int .i64 0]], []⟩).memory :=
  laidMet_of_run' 8 (by kernel_rfl) (by kernel_rfl)
set_option maxRecDepth 100000 in
theorem fnExactRateText_reads (os : Os) {H : Type} (enc : TypeId × Value → H) : ∃ gs places, DataW.whole enc Tryd.prog ((curLaidWorld os).forCall (fun _ _ => 0) ⟨#[], #[.agg #[.string ⟨#[]⟩, .string ⟨#[]⟩, .bool false, .slice none 0 0, .int .i64 0]], []⟩).memory Tryd.f6.params.toList Rows.fnExactRateTextSpec.vars false (#[.agg #[.string ⟨#[]⟩, .string ⟨#[]⟩, .bool false, .slice none 0 0, .int .i64 0]] : Array Value).toList 8 = some ([.agg [.lit (.string []), .lit (.string []), .agg [.agg [.lit (.bool false), .nil], .lit (.int .i64 0)]]], gs, places) :=
  ⟨[Rows.laid_loop_example_g00793_impl_currencies], MemPlace.row ⟨0, 0, none⟩ 80, by kernel_rfl⟩

set_option maxRecDepth 100000 in
theorem fnExactRateText_lifted (os : Os) (started : os.Started) (H : Type) (enc : TypeId × Value → H) (F : Stop.Interp) :
    ReturnsInHanded {} Tryd.checked os 6 .any ((OpenSpec.ofChange Rows.fnExactRateTextSpec).preRow enc Tryd.prog Tryd.f6 Rows.fnExactRateTextRow.domain false Rows.fnExactRateTextRow.laid) (((OpenSpec.ofChange Rows.fnExactRateTextSpec).at F).post enc Tryd.prog Tryd.f6 false true false false) := by
  obtain ⟨gs, places, hx⟩ := fnExactRateText_reads os enc
  refine law_lifted_vars started (by kernel_rfl) Tryd.func6 (by kernel_rfl) (tb := 4) (by kernel_rfl) Tryd.underlying4 (by kernel_rfl)
    (witness_row_at (enc := enc) (C := Tryd.checked) false (curLaidWorld os) #[.agg #[.string ⟨#[]⟩, .string ⟨#[]⟩, .bool false, .slice none 0 0, .int .i64 0]] rfl (by kernel_rfl) (by kernel_rfl) (by kernel_rfl)
      (OpenSpec.preRow_of_cond 8 hx (by kernel_rfl) (fun k hk => by cases hk) (by kernel_rfl) (fnExactRateText_met os))) ?_
  intro W base args ds p hval hA _ hL
  have ht := curTab_of (l := [("math/bits.deBruijn32tab", Rows.laid_math_bits_deBruijn32tab), ("math/bits.deBruijn64tab", Rows.laid_math_bits_deBruijn64tab), ("internal/strconv.uint64pow10", Rows.laid_internal_strconv_uint64pow10), ("loop.example/g00793/impl.currencies", Rows.laid_loop_example_g00793_impl_currencies)]) (show laidMet Tryd.prog [("math/bits.deBruijn32tab", Rows.laid_math_bits_deBruijn32tab), ("math/bits.deBruijn64tab", Rows.laid_math_bits_deBruijn64tab), ("internal/strconv.uint64pow10", Rows.laid_internal_strconv_uint64pow10), ("loop.example/g00793/impl.currencies", Rows.laid_loop_example_g00793_impl_currencies)] W from hL) (by simp)
  rw [Tryd.params6] at hA hval
  have htb := tab_any (show laidMet Tryd.prog [("math/bits.deBruijn32tab", Rows.laid_math_bits_deBruijn32tab), ("math/bits.deBruijn64tab", Rows.laid_math_bits_deBruijn64tab), ("internal/strconv.uint64pow10", Rows.laid_internal_strconv_uint64pow10), ("loop.example/g00793/impl.currencies", Rows.laid_loop_example_g00793_impl_currencies)] W from hL) (by simp)
  obtain ⟨v0, d0, rfl, rfl, h0⟩ := trodAll_one hA
  obtain ⟨a, ra, ma, ma2, ma3⟩ := arg_rate (hval 0 28 v0 rfl rfl) h0
  unfold maxLen at ma ma2 ma3
  have hca : capE a := by unfold capE; omega
  exact ⟨fun gs hg => by
    match gs, hg with
    | [g], _ => rfl, lawRateText v0 a W (fun hla ua W ha h1 h3 => implRateText_any ua a W (szE_len hla).2.2 ha h1 h3) hca ht htb ra⟩

set_option maxRecDepth 100000 in
theorem fnExactRateText_said : Rows.FnExactRateTextSaid :=
  OpenClaim.holds_of_cond 6 Tryd.f6 rfl rfl rfl rfl rfl rfl rfl ⟨rfl, rfl, rfl, rfl, rfl⟩ rfl rfl rfl rfl rfl (by kernel_rfl) Tryd.func6 (by kernel_rfl)
    (of_decide_eq_true (by kernel_rfl)) (by unfold Func.isWrapper; first | (rw [if_pos (by decide +kernel)]; kernel_rfl) | (rw [if_neg (by decide +kernel)]; exact ⟨rfl, rfl⟩))
    (fun os started H enc _ F => by rw [OpenClaim.pre_eq_preRow]; exact fnExactRateText_lifted os started H enc F)

theorem fnExactRateText_plain (f : FuncId) (fn : Func) (hf : Tryd.pinned.checked.prog.funcNamed "loop.example/g00793/laws.FnExactRateText" = some f) (hfn : Tryd.pinned.checked.prog.funcs[f]? = some fn) :
    false = Tryd.pinned.checked.prog.looks [] ∧ ∀ (j : Nat) t, fn.params[j]? = some t → Tryd.pinned.checked.prog.wantsStandIn t = false := by
  obtain rfl : f = 6 := Option.some.inj ((show Tryd.prog.funcNamed "loop.example/g00793/laws.FnExactRateText" = some 6 by kernel_rfl).symm.trans hf) |>.symm
  obtain rfl : fn = Tryd.f6 := (Option.some.inj (Tryd.func6.symm.trans hfn)).symm
  refine ⟨by kernel_rfl, fun j t ht => ?_⟩
  rw [Tryd.params6] at ht
  obtain rfl : t = 28 := by simpa using Array.mem_of_getElem? ht
  exact (show Tryd.prog.wantsStandIn 28 = false by kernel_rfl)

set_option maxRecDepth 100000 in
theorem fnExactRateText_card : Rows.FnExactRateTextCardSaid :=
  Claim7.holds_tied_plain_at .later [] _ _ _ _ fnExactRateText_said (fun _ h => by cases h) (by kernel_rfl) (fun _ h => by cases h) fnExactRateText_row_tie rfl ⟨rfl, rfl⟩ (by kernel_rfl) rfl fnExactRateText_plain (by kernel_rfl)
end Go.Proofs.YtbpfabicampdkaaDoor
