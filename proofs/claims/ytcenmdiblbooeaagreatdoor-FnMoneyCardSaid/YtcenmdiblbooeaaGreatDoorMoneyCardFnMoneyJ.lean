/-
  For all arguments FnMoney returns true: amounts are recovered from their strings, addition is undone by subtraction, and currencies do not mix. No conditions beyond the card's own (the listed variables hold what the program's text lays).
-/
import Derived.Test.YtcenmdiblbooeaaGreatDoorJA10
namespace Go.Proofs.YtcenmdiblbooeaaGreatDoor
open Go.ChangeShapes Go.WideShapes Go.ChangeAt Go.RowKit
open Go.ChangeMaps (open_string shut_string)

theorem lawMoney (v : Value) (bs : List Nat) (w : World) (hb : ∀ b ∈ bs, b < 256) (hr : Row w 0 w.heap.size v (bytesV bs)) (ht : CurTab w) (hd : Tab w) :
    Calls Tryz.prog 3 #[v] w fun e w' => e = .returned (.bool true) ∧ Below w.heap.size w w' := by
  by_cases hn : bs.length ≤ 1048576
  · exact lawMoney_small v bs w hb hn hr ht hd
  · obtain ⟨A0, c0, rfl, _⟩ := hr
    have hlen : (bytesV bs).length = bs.length := by simp [bytesV]
    rw [hlen]
    go_enter Tryz.func3, Tryz.ntmps3
    go_wp2
    go_ret
    exact ⟨rfl, Below.refl _ _⟩

set_option maxRecDepth 100000 in
theorem fnMoney_met (os : Os) : laidMet Tryz.prog Rows.fnMoneyRow.laid ((curUtfWorld os).forCall (fun _ _ => 0) ⟨#[], #[.slice none 0 0], []⟩).memory :=
  laidMet_of_run' 8 (by kernel_rfl) (by kernel_rfl)
set_option maxRecDepth 100000 in
theorem fnMoney_reads (os : Os) {H : Type} (enc : TypeId × Value → H) : ∃ gs places, DataW.whole enc Tryz.prog ((curUtfWorld os).forCall (fun _ _ => 0) ⟨#[], #[.slice none 0 0], []⟩).memory Tryz.f3.params.toList Rows.fnMoneySpec.vars false (#[.slice none 0 0] : Array Value).toList 8 = some ([.nil], gs, places) :=
  ⟨[Rows.laid_loop_example_g00793_impl_currencies], MemPlace.row ⟨0, 0, none⟩ 80, by kernel_rfl⟩

set_option maxRecDepth 100000 in
theorem fnMoney_lifted (os : Os) (started : os.Started) (H : Type) (enc : TypeId × Value → H) (F : Stop.Interp) :
    ReturnsInHanded {} Tryz.checked os 3 .any ((OpenSpec.ofChange Rows.fnMoneySpec).preRow enc Tryz.prog Tryz.f3 Rows.fnMoneyRow.domain false Rows.fnMoneyRow.laid) (((OpenSpec.ofChange Rows.fnMoneySpec).at F).post enc Tryz.prog Tryz.f3 false true false false) := by
  obtain ⟨gs, places, hx⟩ := fnMoney_reads os enc
  refine law_lifted_vars started (by kernel_rfl) Tryz.func3 (by kernel_rfl) (tb := 4) (by kernel_rfl) Tryz.underlying4 (by kernel_rfl)
    (witness_row_at (enc := enc) (C := Tryz.checked) false (curUtfWorld os) #[.slice none 0 0] rfl (by kernel_rfl) (by kernel_rfl) (by kernel_rfl)
      (OpenSpec.preRow_of_cond 8 hx (by kernel_rfl) (fun k hk => by cases hk) (by kernel_rfl) (fnMoney_met os))) ?_
  intro W base args ds p hval hA _ hL
  have ht := curTab_of (l := [("math/bits.deBruijn32tab", Rows.laid_math_bits_deBruijn32tab), ("math/bits.deBruijn64tab", Rows.laid_math_bits_deBruijn64tab), ("internal/strconv.uint64pow10", Rows.laid_internal_strconv_uint64pow10), ("unicode/utf8.acceptRanges", Rows.laid_unicode_utf8_acceptRanges), ("loop.example/g00793/impl.currencies", Rows.laid_loop_example_g00793_impl_currencies), ("unicode/utf8.first", Rows.laid_unicode_utf8_first)]) (show laidMet Tryz.prog [("math/bits.deBruijn32tab", Rows.laid_math_bits_deBruijn32tab), ("math/bits.deBruijn64tab", Rows.laid_math_bits_deBruijn64tab), ("internal/strconv.uint64pow10", Rows.laid_internal_strconv_uint64pow10), ("unicode/utf8.acceptRanges", Rows.laid_unicode_utf8_acceptRanges), ("loop.example/g00793/impl.currencies", Rows.laid_loop_example_g00793_impl_currencies), ("unicode/utf8.first", Rows.laid_unicode_utf8_first)] W from hL) (by simp)
  rw [Tryz.params3] at hA hval
  have htb := tab_any (show laidMet Tryz.prog [("math/bits.deBruijn32tab", Rows.laid_math_bits_deBruijn32tab), ("math/bits.deBruijn64tab", Rows.laid_math_bits_deBruijn64tab), ("internal/strconv.uint64pow10", Rows.laid_internal_strconv_uint64pow10), ("unicode/utf8.acceptRanges", Rows.laid_unicode_utf8_acceptRanges), ("loop.example/g00793/impl.currencies", Rows.laid_loop_example_g00793_impl_currencies), ("unicode/utf8.first", Rows.laid_unicode_utf8_first)] W from hL) (by simp)
  obtain ⟨v0, d0, rfl, rfl, h0⟩ := trodAll_one hA
  obtain ⟨bs, rbs, mbs, bbs⟩ := arg_bytes Tryz.underlying22 Tryz.underlying5 (by kernel_rfl) (hval 0 22 v0 rfl rfl) h0
  unfold maxLen at mbs
  exact ⟨fun gs hg => by
    match gs, hg with
    | [g], _ => rfl, lawMoney v0 bs W bbs rbs ht htb⟩

set_option maxRecDepth 100000 in
theorem fnMoney_said : Rows.FnMoneySaid :=
  OpenClaim.holds_of_cond 3 Tryz.f3 rfl rfl rfl rfl rfl rfl rfl ⟨rfl, rfl, rfl, rfl, rfl⟩ rfl rfl rfl rfl rfl (by kernel_rfl) Tryz.func3 (by kernel_rfl)
    (of_decide_eq_true (by kernel_rfl)) (by unfold Func.isWrapper; first | (rw [if_pos (by decide +kernel)]; kernel_rfl) | (rw [if_neg (by decide +kernel)]; exact ⟨rfl, rfl⟩))
    (fun os started H enc _ F => by rw [OpenClaim.pre_eq_preRow]; exact fnMoney_lifted os started H enc F)

theorem fnMoney_plain (f : FuncId) (fn : Func) (hf : Tryz.pinned.checked.prog.funcNamed "loop.example/g00793/laws.FnMoney" = some f) (hfn : Tryz.pinned.checked.prog.funcs[f]? = some fn) :
    true = Tryz.pinned.checked.prog.looks [] ∧ ∀ (j : Nat) t, fn.params[j]? = some t → Tryz.pinned.checked.prog.wantsStandIn t = false := by
  obtain rfl : f = 3 := Option.some.inj ((show Tryz.prog.funcNamed "loop.example/g00793/laws.FnMoney" = some 3 by kernel_rfl).symm.trans hf) |>.symm
  obtain rfl : fn = Tryz.f3 := (Option.some.inj (Tryz.func3.symm.trans hfn)).symm
  refine ⟨by kernel_rfl, fun j t ht => ?_⟩
  rw [Tryz.params3] at ht
  obtain rfl : t = 22 := by simpa using Array.mem_of_getElem? ht
  exact (show Tryz.prog.wantsStandIn 22 = false by kernel_rfl)

set_option maxRecDepth 100000 in
theorem fnMoney_card : Rows.FnMoneyCardSaid :=
  Claim7.holds_tied_plain_at .later [] _ _ _ _ fnMoney_said (fun _ h => by cases h) (by kernel_rfl) (fun _ h => by cases h) fnMoney_row_tie rfl ⟨rfl, rfl⟩ (by kernel_rfl) rfl fnMoney_plain (by kernel_rfl)
end Go.Proofs.YtcenmdiblbooeaaGreatDoor
