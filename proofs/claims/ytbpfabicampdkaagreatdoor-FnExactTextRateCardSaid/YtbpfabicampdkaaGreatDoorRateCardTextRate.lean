/-
  For all arguments FnExactTextRate returns true: the rate that a text is written for. No conditions beyond the card's own (the listed variables hold what the program's text lays).
-/
import Derived.Test.YtbpfabicampdkaaGreatDoorRateWorlds
import Derived.Test.YtbpfabicampdkaaGreatDoorRateLawTextRate
import Derived.Test.YtbpfabicampdkaaGreatDoorRateReadI
import Derived.Test.YtbpfabicampdkaaGreatDoorRateReadS
import Derived.Test.YtbpfabicampdkaaGreatDoorJB13
namespace Go.Proofs.YtbpfabicampdkaaGreatDoor
open Go.ChangeShapes Go.WideShapes Go.ChangeAt Go.RowKit
open Go.ChangeMaps (open_string shut_string)

theorem lawTextRate (s : ByteArray) (w : World) (ht : CurTab w) (hd : Tab w) :
    Calls Tryz.prog 8 #[.string s] w fun e w' => e = .returned (.bool true) ∧ Below w.heap.size w w' := by
  by_cases hl : s.size ≤ 1048576
  · exact lawTextRate_walk s (trE s).1 (trE s).2 w (fun W => specTextRate_any s W hl) (fun W h1 h2 => implTextRate_any s W hl h1 h2) ht hd hl (trE_sz s)
  · go_enter Tryz.func8, Tryz.ntmps8
    go_wp2
    go_ret
    exact ⟨rfl, Below.refl _ _⟩

set_option maxRecDepth 100000 in
theorem fnExactTextRate_met (os : Os) : laidMet Tryz.prog Rows.fnExactTextRateRow.laid ((curUtfWorldE os).forCall (fun _ _ => 0) ⟨#[], #[.string ⟨#[]⟩], []⟩).memory :=
  laidMet_of_run' 8 (by kernel_rfl) (by kernel_rfl)
set_option maxRecDepth 100000 in
theorem fnExactTextRate_reads (os : Os) {H : Type} (enc : TypeId × Value → H) : ∃ gs places, DataW.whole enc Tryz.prog ((curUtfWorldE os).forCall (fun _ _ => 0) ⟨#[], #[.string ⟨#[]⟩], []⟩).memory Tryz.f8.params.toList Rows.fnExactTextRateSpec.vars false (#[.string ⟨#[]⟩] : Array Value).toList 8 = some ([.lit (.string [])], gs, places) :=
  ⟨[Rows.laid_loop_example_g00793_impl_currencies], MemPlace.row ⟨1, 0, none⟩ 80, by kernel_rfl⟩

set_option maxRecDepth 100000 in
theorem fnExactTextRate_lifted (os : Os) (started : os.Started) (H : Type) (enc : TypeId × Value → H) (F : Stop.Interp) :
    ReturnsInHanded {} Tryz.checked os 8 .any ((OpenSpec.ofChange Rows.fnExactTextRateSpec).preRow enc Tryz.prog Tryz.f8 Rows.fnExactTextRateRow.domain false Rows.fnExactTextRateRow.laid) (((OpenSpec.ofChange Rows.fnExactTextRateSpec).at F).post enc Tryz.prog Tryz.f8 false true false false) := by
  obtain ⟨gs, places, hx⟩ := fnExactTextRate_reads os enc
  refine law_lifted_vars started (by kernel_rfl) Tryz.func8 (by kernel_rfl) (tb := 4) (by kernel_rfl) Tryz.underlying4 (by kernel_rfl)
    (witness_row_at (enc := enc) (C := Tryz.checked) false (curUtfWorldE os) #[.string ⟨#[]⟩] rfl (by kernel_rfl) (by kernel_rfl) (by kernel_rfl)
      (OpenSpec.preRow_of_cond 8 hx (by kernel_rfl) (fun k hk => by cases hk) (by kernel_rfl) (fnExactTextRate_met os))) ?_
  intro W base args ds p hval hA _ hL
  have ht := curTab_of (l := [("math/bits.deBruijn32tab", Rows.laid_math_bits_deBruijn32tab), ("math/bits.deBruijn64tab", Rows.laid_math_bits_deBruijn64tab), ("internal/strconv.uint64pow10", Rows.laid_internal_strconv_uint64pow10), ("unicode/utf8.acceptRanges", Rows.laid_unicode_utf8_acceptRanges), ("loop.example/g00793/impl.currencies", Rows.laid_loop_example_g00793_impl_currencies), ("unicode/utf8.first", Rows.laid_unicode_utf8_first)]) (show laidMet Tryz.prog [("math/bits.deBruijn32tab", Rows.laid_math_bits_deBruijn32tab), ("math/bits.deBruijn64tab", Rows.laid_math_bits_deBruijn64tab), ("internal/strconv.uint64pow10", Rows.laid_internal_strconv_uint64pow10), ("unicode/utf8.acceptRanges", Rows.laid_unicode_utf8_acceptRanges), ("loop.example/g00793/impl.currencies", Rows.laid_loop_example_g00793_impl_currencies), ("unicode/utf8.first", Rows.laid_unicode_utf8_first)] W from hL) (by simp)
  rw [Tryz.params8] at hA hval
  have htb := tab_any (show laidMet Tryz.prog [("math/bits.deBruijn32tab", Rows.laid_math_bits_deBruijn32tab), ("math/bits.deBruijn64tab", Rows.laid_math_bits_deBruijn64tab), ("internal/strconv.uint64pow10", Rows.laid_internal_strconv_uint64pow10), ("unicode/utf8.acceptRanges", Rows.laid_unicode_utf8_acceptRanges), ("loop.example/g00793/impl.currencies", Rows.laid_loop_example_g00793_impl_currencies), ("unicode/utf8.first", Rows.laid_unicode_utf8_first)] W from hL) (by simp)
  obtain ⟨v0, d0, rfl, rfl, h0⟩ := trodAll_one hA
  obtain ⟨s, rfl, rfl, rfl, ms⟩ := open_string Tryz.underlying9 (hval 0 9 v0 rfl rfl) h0
  exact ⟨fun gs hg => by
    match gs, hg with
    | [g], _ => rfl, lawTextRate s W ht htb⟩

set_option maxRecDepth 100000 in
theorem fnExactTextRate_said : Rows.FnExactTextRateSaid :=
  OpenClaim.holds_of_cond 8 Tryz.f8 rfl rfl rfl rfl rfl rfl rfl ⟨rfl, rfl, rfl, rfl, rfl⟩ rfl rfl rfl rfl rfl (by kernel_rfl) Tryz.func8 (by kernel_rfl)
    (of_decide_eq_true (by kernel_rfl)) (by unfold Func.isWrapper; first | (rw [if_pos (by decide +kernel)]; kernel_rfl) | (rw [if_neg (by decide +kernel)]; exact ⟨rfl, rfl⟩))
    (fun os started H enc _ F => by rw [OpenClaim.pre_eq_preRow]; exact fnExactTextRate_lifted os started H enc F)

theorem fnExactTextRate_plain (f : FuncId) (fn : Func) (hf : Tryz.pinned.checked.prog.funcNamed "loop.example/g00793/laws.FnExactTextRate" = some f) (hfn : Tryz.pinned.checked.prog.funcs[f]? = some fn) :
    true = Tryz.pinned.checked.prog.looks [] ∧ ∀ (j : Nat) t, fn.params[j]? = some t → Tryz.pinned.checked.prog.wantsStandIn t = false := by
  obtain rfl : f = 8 := Option.some.inj ((show Tryz.prog.funcNamed "loop.example/g00793/laws.FnExactTextRate" = some 8 by kernel_rfl).symm.trans hf) |>.symm
  obtain rfl : fn = Tryz.f8 := (Option.some.inj (Tryz.func8.symm.trans hfn)).symm
  refine ⟨by kernel_rfl, fun j t ht => ?_⟩
  rw [Tryz.params8] at ht
  obtain rfl : t = 9 := by simpa using Array.mem_of_getElem? ht
  exact (show Tryz.prog.wantsStandIn 9 = false by kernel_rfl)

set_option maxRecDepth 100000 in
theorem fnExactTextRate_card : Rows.FnExactTextRateCardSaid :=
  Claim7.holds_tied_plain_at .later [] _ _ _ _ fnExactTextRate_said (fun _ h => by cases h) (by kernel_rfl) (fun _ h => by cases h) fnExactTextRate_row_tie rfl ⟨rfl, rfl⟩ (by kernel_rfl) rfl fnExactTextRate_plain (by kernel_rfl)
end Go.Proofs.YtbpfabicampdkaaGreatDoor
