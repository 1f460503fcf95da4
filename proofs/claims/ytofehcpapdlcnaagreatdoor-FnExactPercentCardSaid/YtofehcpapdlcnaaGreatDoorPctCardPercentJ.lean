/-
  For all arguments the law FnExactPercent of chapter 14 returns true: a tax rate as a text in percent. No conditions beyond the card's own (the listed variables hold what the program's text lays).
-/
import Derived.Test.YtofehcpapdlcnaaGreatDoorJP8
namespace Go.Proofs.YtofehcpapdlcnaaGreatDoor
open Go.ChangeShapes Go.WideShapes Go.ChangeAt Go.RowKit
open Go.ChangeMaps (open_string shut_string)

theorem fnExactPercent_tab {W : World} (h : laidMetH Tryz.prog Rows.fnExactPercentRow.laid W) : Tab W := by
  obtain ⟨ps, ⟨_, _, _, _, _, _, _, _, _, _, ⟨_, _, _, _, _, _, _, _, _, _, ⟨g3, t3, cs3, fuel3, p3, q3, hg3, ht3, hvar3, hd3, _, _⟩, _⟩, _⟩, _⟩ := (show laidMet Tryz.prog Rows.fnExactPercentRow.laid W from h)
  obtain rfl := Option.some.inj (powGlobal.symm.trans hg3)
  obtain rfl := Option.some.inj (powType.symm.trans ht3)
  rw [powData] at hd3
  unfold Tab Lib.TabIs
  rw [hvar3, ← Lib.cells_of_tab Tryz.underlying248 Tryz.underlying209 u64Cells powCells hd3]
set_option maxHeartbeats 1000000 in
set_option maxRecDepth 100000 in
theorem lawPercent (va : Value) (a : DI) (w : World)
    (hI : szD a ≤ 1048576 → ∀ (ua : Value) (W : World), OwnD ua a W → Tab W → Sen W → Calls Tryz.prog 24 #[ua] W (PostT (pctT a) W))
    (hca : capD a) (ht0 : Tab w) (ht1 : Sen w) (ra : RdD w va a) :
    Calls Tryz.prog 5 #[va] w fun e w' => e = .returned (.bool true) ∧ Below w.heap.size w w' := by
  have hsa := szD_nonneg a
  by_cases hl : szD a ≤ 1048576
  · skip
    have hla : szD a ≤ 1048576 := by omega
    exact lawPercent_walk va a (pctT a) w (fun ua W ha => specPercent_any ua a W (szD_len hla) ha) (hI hla) ht0 ht1 hl  ra
  · skip
    obtain ⟨Aa, ca, rfl⟩ := rdD_form ra
    have bb0 : Below w.heap.size w (w.alloc (.cells #[.bool a.1.1, .slice Aa a.1.2.length ca, .int .i64 a.2] 28)) := below_al (Below.refl _ _) _
    have ka := (box_new w #[.bool a.1.1, .slice Aa a.1.2.length ca, .int .i64 a.2] 28)
    go_enter Tryz.func5, Tryz.ntmps5
    have ka_c0 := ka.here.cell 0 _ rfl
    have ka_c1 := ka.here.cell 1 _ rfl
    have ka_c2 := ka.here.cell 2 _ rfl
    go_wp2_with fail
    clear ka_c0 ka_c1 ka_c2
    refine (szD_cal _ a (1048576) _ hca (by omega) (by omega) (ra.below bb0)).mono ?_
    rintro e w1 ⟨rfl, b1⟩
    have bb1 := Below.next bb0 b1
    replace ka := ka.below b1
    rw [show leftI (1048576) (szD a) = -1 by unfold leftI; rw [if_pos (by omega)]]
    go_wp2
    go_ret
    exact ⟨rfl, bb1⟩
set_option maxRecDepth 100000 in
theorem fnExactPercent_met (os : Os) : laidMet Tryz.prog Rows.fnExactPercentRow.laid ((senWorld os).forCall (fun _ _ => 0) ⟨#[], #[.agg #[.bool false, .slice none 0 0, .int .i64 0]], []⟩).memory :=
  laidMet_of_run' 8 (by kernel_rfl) (by kernel_rfl)
set_option maxRecDepth 100000 in
theorem fnExactPercent_reads (os : Os) {H : Type} (enc : TypeId × Value → H) : ∃ gs places, DataW.whole enc Tryz.prog ((senWorld os).forCall (fun _ _ => 0) ⟨#[], #[.agg #[.bool false, .slice none 0 0, .int .i64 0]], []⟩).memory Tryz.f5.params.toList Rows.fnExactPercentSpec.vars false (#[.agg #[.bool false, .slice none 0 0, .int .i64 0]] : Array Value).toList 8 = some ([.agg [.agg [.lit (.bool false), .nil], .lit (.int .i64 0)]], gs, places) :=
  ⟨[tok enc (.iface 254 (.pointer (some ⟨low, 0, none⟩)))], [.cell 0 0], by kernel_rfl⟩

set_option maxRecDepth 100000 in
theorem fnExactPercent_lifted (os : Os) (started : os.Started) (H : Type) (enc : TypeId × Value → H) (F : Stop.Interp) :
    ReturnsInHanded {} Tryz.checked os 5 .any ((OpenSpec.ofChange Rows.fnExactPercentSpec).preRow enc Tryz.prog Tryz.f5 Rows.fnExactPercentRow.domain false Rows.fnExactPercentRow.laid) (((OpenSpec.ofChange Rows.fnExactPercentSpec).at F).post enc Tryz.prog Tryz.f5 false true false false) := by
  obtain ⟨gs, places, hx⟩ := fnExactPercent_reads os enc
  refine law_lifted_sen started (by kernel_rfl) Tryz.func5 (by kernel_rfl) (tb := 4) (by kernel_rfl) Tryz.underlying4 rfl (fun W h => sen_of (show laidMet Tryz.prog Rows.fnExactPercentRow.laid W from h).tail.tail.tail)
    (witness_row_at (enc := enc) (C := Tryz.checked) false (senWorld os) #[.agg #[.bool false, .slice none 0 0, .int .i64 0]] rfl (by kernel_rfl) (by kernel_rfl) (by kernel_rfl)
      (OpenSpec.preRow_of_cond 8 hx (by kernel_rfl) (fun k hk => by cases hk) (by kernel_rfl) (fnExactPercent_met os))) ?_
  intro W base args ds p hval hA _ hL hs
  rw [Tryz.params5] at hA hval
  obtain ⟨v0, d0, rfl, rfl, h0⟩ := trodAll_one hA
  obtain ⟨a, ra, ma, ia⟩ := arg_dec (hval 0 28 v0 rfl rfl) h0
  unfold maxLen at ma
  have hca : capD a := by unfold capD; omega
  exact ⟨fun _ => rfl, lawPercent v0 a W (fun hla ua W ha ht hs => implPercent_any ua a W (szD_len hla) ha ht hs) hca (fnExactPercent_tab hL) hs ra⟩

set_option maxRecDepth 100000 in
theorem fnExactPercent_said : Rows.FnExactPercentSaid :=
  OpenClaim.holds_of_cond 5 Tryz.f5 rfl rfl rfl rfl rfl rfl rfl ⟨rfl, rfl, rfl, rfl, rfl⟩ rfl rfl rfl rfl rfl (by kernel_rfl) Tryz.func5 (by kernel_rfl)
    (of_decide_eq_true (by kernel_rfl)) (by unfold Func.isWrapper; first | (rw [if_pos (by decide +kernel)]; kernel_rfl) | (rw [if_neg (by decide +kernel)]; exact ⟨rfl, rfl⟩))
    (fun os started H enc _ F => by rw [OpenClaim.pre_eq_preRow]; exact fnExactPercent_lifted os started H enc F)

theorem fnExactPercent_plain (f : FuncId) (fn : Func) (hf : Tryz.pinned.checked.prog.funcNamed "loop.example/g00793/laws.FnExactPercent" = some f) (hfn : Tryz.pinned.checked.prog.funcs[f]? = some fn) :
    true = Tryz.pinned.checked.prog.looks [] ∧ ∀ (j : Nat) t, fn.params[j]? = some t → Tryz.pinned.checked.prog.wantsStandIn t = false := by
  obtain rfl : f = 5 := Option.some.inj ((show Tryz.prog.funcNamed "loop.example/g00793/laws.FnExactPercent" = some 5 by kernel_rfl).symm.trans hf) |>.symm
  obtain rfl : fn = Tryz.f5 := (Option.some.inj (Tryz.func5.symm.trans hfn)).symm
  refine ⟨by kernel_rfl, fun j t ht => ?_⟩
  rw [Tryz.params5] at ht
  obtain rfl : t = 28 := by simpa using Array.mem_of_getElem? ht
  exact (show Tryz.prog.wantsStandIn 28 = false by kernel_rfl)

set_option maxRecDepth 100000 in
theorem fnExactPercent_card : Rows.FnExactPercentCardSaid :=
  Claim7.holds_tied_plain_at .later [] _ _ _ _ fnExactPercent_said (fun _ h => by cases h) (by kernel_rfl) (fun _ h => by cases h) fnExactPercent_row_tie rfl ⟨rfl, rfl⟩ (by kernel_rfl) rfl fnExactPercent_plain (by kernel_rfl)
end Go.Proofs.YtofehcpapdlcnaaGreatDoor
