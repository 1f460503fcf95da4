/-
  For all arguments the law FnExactRatText of chapter 6 returns true; no conditions beyond the card's own (the listed variables hold what the program's text lays).
-/
import Derived.Test.YtkkdlgiilhngcaaGreatDoorRatLawRatTextJ
import Derived.Test.YtkkdlgiilhngcaaGreatDoorJ10
namespace Go.Proofs.YtkkdlgiilhngcaaGreatDoor
open Go.ChangeShapes Go.WideShapes Go.ChangeAt Go.RowKit
open Go.ChangeMaps (open_string shut_string)

theorem fnExactRatText_tab {W : World} (h : laidMetH Tryz.prog Rows.fnExactRatTextRow.laid W) : Tab W := by
  obtain ⟨ps, ⟨_, _, _, _, _, _, _, _, _, _, ⟨_, _, _, _, _, _, _, _, _, _, ⟨g3, t3, cs3, fuel3, p3, q3, hg3, ht3, hvar3, hd3, _, _⟩, _⟩, _⟩, _⟩ := (show laidMet Tryz.prog Rows.fnExactRatTextRow.laid W from h)
  obtain rfl := Option.some.inj (powGlobal.symm.trans hg3)
  obtain rfl := Option.some.inj (powType.symm.trans ht3)
  rw [powData] at hd3
  unfold Tab Lib.TabIs
  rw [hvar3, ← Lib.cells_of_tab Tryz.underlying179 Tryz.underlying168 u64Cells powCells hd3]
set_option maxHeartbeats 1000000 in
set_option maxRecDepth 100000 in
theorem lawRatText (va : Value) (a : QI) (w : World)
    (hI : szQ a ≤ 1048576 → ∀ (ua : Value) (W : World), OwnQ ua a W → Sen W → Tab W → Calls Tryz.prog 13 #[ua] W (PostT (ratTextB a) W))
    (hca : capQ a) (ht0 : Sen w) (ht1 : Tab w) (ra : RdQ w va a) :
    Calls Tryz.prog 5 #[va] w fun e w' => e = .returned (.bool true) ∧ Below w.heap.size w w' := by
  have hsa := szQ_nonneg a
  by_cases hl : szQ a ≤ 1048576
  · skip
    have hla : szQ a ≤ 1048576 := by omega
    exact lawRatText_walk va a (ratTextB a) w (fun ua W ha => specRatText_any ua a W hla ha) (hI hla) ht0 ht1 hl  ra
  · skip
    obtain ⟨Aa, ca, Ba, da, rfl⟩ := rdQ_form ra
    have bb0 : Below w.heap.size w (w.alloc (.cells #[.bool a.1.1, .slice Aa a.1.2.length ca, .slice Ba a.2.length da] 40)) := below_al (Below.refl _ _) _
    have ka := (box_new w #[.bool a.1.1, .slice Aa a.1.2.length ca, .slice Ba a.2.length da] 40)
    go_enter Tryz.func5, Tryz.ntmps5
    have ka_c0 := ka.here.cell 0 _ rfl
    have ka_c1 := ka.here.cell 1 _ rfl
    have ka_c2 := ka.here.cell 2 _ rfl
    go_wp2_with fail
    clear ka_c0 ka_c1 ka_c2
    refine (szQ_cal _ a (1048576) _ hca (by omega) (by omega) (ra.below bb0)).mono ?_
    rintro e w1 ⟨rfl, b1⟩
    have bb1 := Below.next bb0 b1
    replace ka := ka.below b1
    rw [show leftI (1048576) (szQ a) = -1 by unfold leftI; rw [if_pos (by omega)]]
    go_wp2
    go_ret
    exact ⟨rfl, bb1⟩
set_option maxRecDepth 100000 in
theorem fnExactRatText_met (os : Os) : laidMet Tryz.prog Rows.fnExactRatTextRow.laid ((senWorld os).forCall (fun _ _ => 0) ⟨#[], #[.agg #[.bool false, .slice none 0 0, .slice none 0 0]], []⟩).memory :=
  laidMet_of_run' 8 (by kernel_rfl) (by kernel_rfl)
set_option maxRecDepth 100000 in
theorem fnExactRatText_reads (os : Os) {H : Type} (enc : TypeId × Value → H) : ∃ gs places, DataW.whole enc Tryz.prog ((senWorld os).forCall (fun _ _ => 0) ⟨#[], #[.agg #[.bool false, .slice none 0 0, .slice none 0 0]], []⟩).memory Tryz.f5.params.toList Rows.fnExactRatTextSpec.vars false (#[.agg #[.bool false, .slice none 0 0, .slice none 0 0]] : Array Value).toList 8 = some ([.agg [.agg [.lit (.bool false), .nil], .nil]], gs, places) :=
  ⟨[tok enc (.iface 185 (.pointer (some ⟨low, 0, none⟩)))], [.cell 0 0], by kernel_rfl⟩

set_option maxRecDepth 100000 in
theorem fnExactRatText_lifted (os : Os) (started : os.Started) (H : Type) (enc : TypeId × Value → H) (F : Stop.Interp) :
    ReturnsInHanded {} Tryz.checked os 5 .any ((OpenSpec.ofChange Rows.fnExactRatTextSpec).preRow enc Tryz.prog Tryz.f5 Rows.fnExactRatTextRow.domain false Rows.fnExactRatTextRow.laid) (((OpenSpec.ofChange Rows.fnExactRatTextSpec).at F).post enc Tryz.prog Tryz.f5 false true false false) := by
  obtain ⟨gs, places, hx⟩ := fnExactRatText_reads os enc
  refine law_lifted_sen started (by kernel_rfl) Tryz.func5 (by kernel_rfl) (tb := 4) (by kernel_rfl) Tryz.underlying4 rfl (fun W h => sen_of (show laidMet Tryz.prog Rows.fnExactRatTextRow.laid W from h).tail.tail.tail)
    (witness_row_at (enc := enc) (C := Tryz.checked) false (senWorld os) #[.agg #[.bool false, .slice none 0 0, .slice none 0 0]] rfl (by kernel_rfl) (by kernel_rfl) (by kernel_rfl)
      (OpenSpec.preRow_of_cond 8 hx (by kernel_rfl) (fun k hk => by cases hk) (by kernel_rfl) (fnExactRatText_met os))) ?_
  intro W base args ds p hval hA _ hL hs
  rw [Tryz.params5] at hA hval
  obtain ⟨v0, d0, rfl, rfl, h0⟩ := trodAll_one hA
  obtain ⟨a, ra, ma, ma2⟩ := arg_rat (hval 0 40 v0 rfl rfl) h0
  unfold maxLen at ma ma2
  have hca : capQ a := by unfold capQ; omega
  exact ⟨fun _ => rfl, lawRatText v0 a W (fun hla ua W ha hs ht => implRatText_any ua a W hla ha hs ht) hca hs (fnExactRatText_tab hL) ra⟩

set_option maxRecDepth 100000 in
theorem fnExactRatText_said : Rows.FnExactRatTextSaid :=
  OpenClaim.holds_of_cond 5 Tryz.f5 rfl rfl rfl rfl rfl rfl rfl ⟨rfl, rfl, rfl, rfl, rfl⟩ rfl rfl rfl rfl rfl (by kernel_rfl) Tryz.func5 (by kernel_rfl)
    (of_decide_eq_true (by kernel_rfl)) (by unfold Func.isWrapper; first | (rw [if_pos (by decide +kernel)]; kernel_rfl) | (rw [if_neg (by decide +kernel)]; exact ⟨rfl, rfl⟩))
    (fun os started H enc _ F => by rw [OpenClaim.pre_eq_preRow]; exact fnExactRatText_lifted os started H enc F)

theorem fnExactRatText_plain (f : FuncId) (fn : Func) (hf : Tryz.pinned.checked.prog.funcNamed "loop.example/g00793/laws.FnExactRatText" = some f) (hfn : Tryz.pinned.checked.prog.funcs[f]? = some fn) :
    true = Tryz.pinned.checked.prog.looks [] ∧ ∀ (j : Nat) t, fn.params[j]? = some t → Tryz.pinned.checked.prog.wantsStandIn t = false := by
  obtain rfl : f = 5 := Option.some.inj ((show Tryz.prog.funcNamed "loop.example/g00793/laws.FnExactRatText" = some 5 by kernel_rfl).symm.trans hf) |>.symm
  obtain rfl : fn = Tryz.f5 := (Option.some.inj (Tryz.func5.symm.trans hfn)).symm
  refine ⟨by kernel_rfl, fun j t ht => ?_⟩
  rw [Tryz.params5] at ht
  obtain rfl : t = 40 := by simpa using Array.mem_of_getElem? ht
  exact (show Tryz.prog.wantsStandIn 40 = false by kernel_rfl)

set_option maxRecDepth 100000 in
theorem fnExactRatText_card : Rows.FnExactRatTextCardSaid :=
  Claim7.holds_tied_plain_at .later [] _ _ _ _ fnExactRatText_said (fun _ h => by cases h) (by kernel_rfl) (fun _ h => by cases h) fnExactRatText_row_tie rfl ⟨rfl, rfl⟩ (by kernel_rfl) rfl fnExactRatText_plain (by kernel_rfl)
end Go.Proofs.YtkkdlgiilhngcaaGreatDoor
