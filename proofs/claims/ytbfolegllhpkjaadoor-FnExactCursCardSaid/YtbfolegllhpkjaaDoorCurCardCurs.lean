/-
  FnExactCurs returns true: the list of all codes in alphabetical order, in new memory at each call. No conditions beyond the card's own (the table of currencies holds what the program's text lays).
-/
import Derived.Test.YtbfolegllhpkjaaDoorCurTab
import Derived.Test.YtbfolegllhpkjaaDoorCurCurs
import Derived.Test.YtbfolegllhpkjaaDoorCurWorld
namespace Go.Proofs.YtbfolegllhpkjaaDoor
open Go.ChangeShapes Go.WideShapes Go.ChangeAt Go.RowKit
open Go.ChangeMaps (open_string shut_string)


theorem own_drewN' {w : World} {base size n : Nat} {e : TypeId} {v : Value} {xs : List Value} (h : w.ownsRow base e size v n xs) (q : Nat) : (w.drewN q).ownsRow base e size v n xs := h
set_option maxHeartbeats 1000000 in
set_option maxRecDepth 100000 in
theorem lawCurs (w : World) (ht : CurTab w) :
    Calls Tryd.prog 4 #[] w fun e w' => e = .returned (.bool true) ∧ Below w.heap.size w w' := by
  have HT := Lib.hid ht
  clear ht
  have hPl : (codesT specT).length = 20 := rfl
  generalize hP : codesT specT = P at hPl
  have HP := Lib.hid hP
  clear hP
  go_enter Tryd.func4, Tryd.ntmps4
  go_wp2_with fail
  refine (specCurs_any _).mono ?_
  rintro e w1 ⟨v0, rfl, o0, b1⟩
  rw [HP.out] at o0
  go_wp2_with fail
  refine (implCurs_any _ (HT.out.below b1)).mono ?_
  rintro e w2 ⟨v1, rfl, o1, b2⟩
  rw [HP.out] at o1
  have o02 := own_below o0 b2
  go_wp2_with fail
  refine (eqStringS_any v1 v0 P P _ _ _ _ _ (by omega) (Row.of_own o1) (Row.of_own o02)).mono ?_
  rintro e w3 ⟨rfl, q3, rfl⟩
  rw [show decide (P = P) = true from decide_eq_true rfl]
  go_wp2_with fail
  refine (markStringS_any v1 _ _ _ 1 _ (by omega) (by omega) (own_drewN' o1 q3)).mono ?_
  rintro e w4 ⟨rfl, o4, g4⟩
  go_wp2_with fail
  refine (heldStringS_any v1 20 _ _ 1 _ (by omega) (by omega) (Nat.le_refl _) (Row.of_own o4)).mono ?_
  rintro e w5 ⟨rfl, b5⟩
  have z2 := b2.size
  have z4 := g4.size
  have o04 : w4.ownsRow w.heap.size 9 1 v0 20 (strsC P) := own_stays (own_drewN' o02 q3) fun g hg => g4.block g (own_lt (own_drewN' o02 q3) hg).2 (fun e => by have h1 := (own_lt o1 e.symm).1; have h2 := (own_lt o0 hg).2; omega)
  have o05 := own_below o04 b5
  have o15 := own_below o4 b5
  have z1 := b1.size
  have bb : Below w.heap.size w w4 := (below_drewN (Below.next b1 b2) q3).grown g4 (by simp; omega) (fun k hk => by have := (own_lt o1 hk).1; omega)
  have HBB := Lib.hid (Below.next bb b5)
  go_wp2_with fail
  refine (implCurs_any _ (HT.out.below HBB.out)).mono ?_
  rintro e w6 ⟨v2, rfl, o6, b6⟩
  rw [HP.out] at o6
  have o06 := own_below o05 b6
  have o16 := own_below o15 b6
  go_wp2_with fail
  refine (eqStringS_any v2 v0 P P _ _ _ _ _ (by omega) (Row.of_own o6) (Row.of_own o06)).mono ?_
  rintro e w7 ⟨rfl, q7, rfl⟩
  rw [show decide (P = P) = true from decide_eq_true rfl]
  go_wp2_with fail
  refine (heldStringS_any v1 20 _ _ 1 _ (by omega) (by omega) (Nat.le_refl _) (Row.of_own (own_drewN' o16 q7))).mono ?_
  rintro e w8 ⟨rfl, b8⟩
  go_wp2
  go_ret
  exact ⟨rfl, Below.next (below_drewN (Below.next HBB.out b6) q7) b8⟩

set_option maxRecDepth 100000 in
theorem fnExactCurs_met (os : Os) : laidMet Tryd.prog Rows.fnExactCursRow.laid ((curWorld os).forCall (fun _ _ => 0) ⟨#[], #[], []⟩).memory :=
  laidMet_of_run' 8 (by kernel_rfl) (by kernel_rfl)
set_option maxRecDepth 100000 in
theorem fnExactCurs_reads (os : Os) {H : Type} (enc : TypeId × Value → H) : ∃ gs places, DataW.whole enc Tryd.prog ((curWorld os).forCall (fun _ _ => 0) ⟨#[], #[], []⟩).memory Tryd.f4.params.toList Rows.fnExactCursSpec.vars false (#[] : Array Value).toList 8 = some ([], gs, places) :=
  ⟨[Rows.laid_loop_example_g00793_impl_currencies], MemPlace.row ⟨0, 0, none⟩ 80, by kernel_rfl⟩

set_option maxRecDepth 100000 in
theorem fnExactCurs_lifted (os : Os) (started : os.Started) (H : Type) (enc : TypeId × Value → H) (F : Stop.Interp) :
    ReturnsInHanded {} Tryd.checked os 4 .any ((OpenSpec.ofChange Rows.fnExactCursSpec).preRow enc Tryd.prog Tryd.f4 Rows.fnExactCursRow.domain false Rows.fnExactCursRow.laid) (((OpenSpec.ofChange Rows.fnExactCursSpec).at F).post enc Tryd.prog Tryd.f4 false true false false) := by
  obtain ⟨gs, places, hx⟩ := fnExactCurs_reads os enc
  refine law_lifted_vars started (by kernel_rfl) Tryd.func4 (by kernel_rfl) (tb := 4) (by kernel_rfl) Tryd.underlying4 (by kernel_rfl)
    (witness_row_at (enc := enc) (C := Tryd.checked) false (curWorld os) #[] rfl (by kernel_rfl) (by kernel_rfl) (by kernel_rfl)
      (OpenSpec.preRow_of_cond 8 hx (by kernel_rfl) (fun k hk => by cases hk) (by kernel_rfl) (fnExactCurs_met os))) ?_
  intro W base args ds p hval hA _ hL
  have ht := curTab_of (l := [("loop.example/g00793/impl.currencies", Rows.laid_loop_example_g00793_impl_currencies)]) (show laidMet Tryd.prog [("loop.example/g00793/impl.currencies", Rows.laid_loop_example_g00793_impl_currencies)] W from hL) (by simp)
  rw [Tryd.params4] at hA hval
  obtain ⟨ha, rfl, rfl⟩ := trodAll_nil hA
  obtain rfl : args = #[] := Array.toList_inj.1 ha
  exact ⟨fun gs hg => by
    match gs, hg with
    | [g], _ => rfl, lawCurs W ht⟩

set_option maxRecDepth 100000 in
theorem fnExactCurs_said : Rows.FnExactCursSaid :=
  OpenClaim.holds_of_cond 4 Tryd.f4 rfl rfl rfl rfl rfl rfl rfl ⟨rfl, rfl, rfl, rfl, rfl⟩ rfl rfl rfl rfl rfl (by kernel_rfl) Tryd.func4 (by kernel_rfl)
    (of_decide_eq_true (by kernel_rfl)) (by unfold Func.isWrapper; first | (rw [if_pos (by decide +kernel)]; kernel_rfl) | (rw [if_neg (by decide +kernel)]; exact ⟨rfl, rfl⟩))
    (fun os started H enc _ F => by rw [OpenClaim.pre_eq_preRow]; exact fnExactCurs_lifted os started H enc F)

theorem fnExactCurs_plain (f : FuncId) (fn : Func) (hf : Tryd.pinned.checked.prog.funcNamed "loop.example/g00793/laws.FnExactCurs" = some f) (hfn : Tryd.pinned.checked.prog.funcs[f]? = some fn) :
    false = Tryd.pinned.checked.prog.looks [] ∧ ∀ (j : Nat) t, fn.params[j]? = some t → Tryd.pinned.checked.prog.wantsStandIn t = false := by
  obtain rfl : f = 4 := Option.some.inj ((show Tryd.prog.funcNamed "loop.example/g00793/laws.FnExactCurs" = some 4 by kernel_rfl).symm.trans hf) |>.symm
  obtain rfl : fn = Tryd.f4 := (Option.some.inj (Tryd.func4.symm.trans hfn)).symm
  refine ⟨by kernel_rfl, fun j t ht => ?_⟩
  rw [Tryd.params4] at ht
  simp at ht

set_option maxRecDepth 100000 in
theorem fnExactCurs_card : Rows.FnExactCursCardSaid :=
  Claim7.holds_tied_plain_at .later [] _ _ _ _ fnExactCurs_said (fun _ h => by cases h) (by kernel_rfl) (fun _ h => by cases h) fnExactCurs_row_tie rfl ⟨rfl, rfl⟩ (by kernel_rfl) rfl fnExactCurs_plain (by kernel_rfl)
end Go.Proofs.YtbfolegllhpkjaaDoor
