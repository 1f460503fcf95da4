/-
  For all arguments the law FnExactTextPercent of chapter 14 returns true: a text in percent is read as the tax rate that the model reads. No conditions beyond the card's own (the listed variables hold what the program's text lays).
-/
import Derived.Test.YtofehcpapdlcnaaGreatDoorJP8
namespace Go.Proofs.YtofehcpapdlcnaaGreatDoor
open Go.ChangeShapes Go.WideShapes Go.ChangeAt Go.RowKit
open Go.ChangeMaps (open_string shut_string)

theorem fnExactTextPercent_tab {W : World} (h : laidMetH Tryz.prog Rows.fnExactTextPercentRow.laid W) : Tab W := by
  obtain ⟨ps, ⟨_, _, _, _, _, _, _, _, _, _, ⟨_, _, _, _, _, _, _, _, _, _, ⟨g3, t3, cs3, fuel3, p3, q3, hg3, ht3, hvar3, hd3, _, _⟩, _⟩, _⟩, _⟩ := (show laidMet Tryz.prog Rows.fnExactTextPercentRow.laid W from h)
  obtain rfl := Option.some.inj (powGlobal.symm.trans hg3)
  obtain rfl := Option.some.inj (powType.symm.trans ht3)
  rw [powData] at hd3
  unfold Tab Lib.TabIs
  rw [hvar3, ← Lib.cells_of_tab Tryz.underlying248 Tryz.underlying209 u64Cells powCells hd3]
/-- a world for the witness: the settled one, the listed variables holding what their initialisers lay -/
noncomputable def senUtfWorld (os : Os) : World :=
  { senWorld os with heap := ((senWorld os).heap.modify 4 (putCells ((aggOf Rows.laid_unicode_utf8_acceptRanges).flatMap fun x => tabCells .u8 (aggOf x)).toArray)).modify 3 (putCells (tabCells .u8 (aggOf Rows.laid_unicode_utf8_first)).toArray) }
theorem lawTextPercent (s : ByteArray) (w : World) (ht : Tab w) (hs : Sen w) :
    Calls Tryz.prog 6 #[.string s] w fun e w' => e = .returned (.bool true) ∧ Below w.heap.size w w' := by
  by_cases hl : s.size ≤ 1048576
  · exact lawTextPercent_walk s (trP s).1 (trP s).2 w (fun W => specTextPercent_any s W hl) (fun W h1 h2 => implTextPercent_any s W hl h1 h2) ht hs hl (trP_sz s)
  · go_enter Tryz.func6, Tryz.ntmps6
    go_wp2
    go_ret
    exact ⟨rfl, Below.refl _ _⟩
set_option maxRecDepth 100000 in
theorem fnExactTextPercent_met (os : Os) : laidMet Tryz.prog Rows.fnExactTextPercentRow.laid ((senUtfWorld os).forCall (fun _ _ => 0) ⟨#[], #[.string ⟨#[]⟩], []⟩).memory :=
  laidMet_of_run' 8 (by kernel_rfl) (by kernel_rfl)
set_option maxRecDepth 100000 in
theorem fnExactTextPercent_reads (os : Os) {H : Type} (enc : TypeId × Value → H) : ∃ gs places, DataW.whole enc Tryz.prog ((senUtfWorld os).forCall (fun _ _ => 0) ⟨#[], #[.string ⟨#[]⟩], []⟩).memory Tryz.f6.params.toList Rows.fnExactTextPercentSpec.vars false (#[.string ⟨#[]⟩] : Array Value).toList 8 = some ([.lit (.string [])], gs, places) :=
  ⟨[tok enc (.iface 254 (.pointer (some ⟨low, 0, none⟩)))], [.cell 0 0], by kernel_rfl⟩

set_option maxRecDepth 100000 in
theorem fnExactTextPercent_lifted (os : Os) (started : os.Started) (H : Type) (enc : TypeId × Value → H) (F : Stop.Interp) :
    ReturnsInHanded {} Tryz.checked os 6 .any ((OpenSpec.ofChange Rows.fnExactTextPercentSpec).preRow enc Tryz.prog Tryz.f6 Rows.fnExactTextPercentRow.domain false Rows.fnExactTextPercentRow.laid) (((OpenSpec.ofChange Rows.fnExactTextPercentSpec).at F).post enc Tryz.prog Tryz.f6 false true false false) := by
  obtain ⟨gs, places, hx⟩ := fnExactTextPercent_reads os enc
  refine law_lifted_sen started (by kernel_rfl) Tryz.func6 (by kernel_rfl) (tb := 4) (by kernel_rfl) Tryz.underlying4 rfl (fun W h => sen_of (show laidMet Tryz.prog Rows.fnExactTextPercentRow.laid W from h).tail.tail.tail.tail)
    (witness_row_at (enc := enc) (C := Tryz.checked) false (senUtfWorld os) #[.string ⟨#[]⟩] rfl (by kernel_rfl) (by kernel_rfl) (by kernel_rfl)
      (OpenSpec.preRow_of_cond 8 hx (by kernel_rfl) (fun k hk => by cases hk) (by kernel_rfl) (fnExactTextPercent_met os))) ?_
  intro W base args ds p hval hA _ hL hs
  rw [Tryz.params6] at hA hval
  obtain ⟨v0, d0, rfl, rfl, h0⟩ := trodAll_one hA
  obtain ⟨s, rfl, rfl, rfl, ms⟩ := open_string Tryz.underlying9 (hval 0 9 v0 rfl rfl) h0
  exact ⟨fun _ => rfl, lawTextPercent s W (fnExactTextPercent_tab hL) hs⟩

set_option maxRecDepth 100000 in
theorem fnExactTextPercent_said : Rows.FnExactTextPercentSaid :=
  OpenClaim.holds_of_cond 6 Tryz.f6 rfl rfl rfl rfl rfl rfl rfl ⟨rfl, rfl, rfl, rfl, rfl⟩ rfl rfl rfl rfl rfl (by kernel_rfl) Tryz.func6 (by kernel_rfl)
    (of_decide_eq_true (by kernel_rfl)) (by unfold Func.isWrapper; first | (rw [if_pos (by decide +kernel)]; kernel_rfl) | (rw [if_neg (by decide +kernel)]; exact ⟨rfl, rfl⟩))
    (fun os started H enc _ F => by rw [OpenClaim.pre_eq_preRow]; exact fnExactTextPercent_lifted os started H enc F)

theorem fnExactTextPercent_plain (f : FuncId) (fn : Func) (hf : Tryz.pinned.checked.prog.funcNamed "loop.example/g00793/laws.FnExactTextPercent" = some f) (hfn : Tryz.pinned.checked.prog.funcs[f]? = some fn) :
    true = Tryz.pinned.checked.prog.looks [] ∧ ∀ (j : Nat) t, fn.params[j]? = some t → Tryz.pinned.checked.prog.wantsStandIn t = false := by
  obtain rfl : f = 6 := Option.some.inj ((show Tryz.prog.funcNamed "loop.example/g00793/laws.FnExactTextPercent" = some 6 by kernel_rfl).symm.trans hf) |>.symm
  obtain rfl : fn = Tryz.f6 := (Option.some.inj (Tryz.func6.symm.trans hfn)).symm
  refine ⟨by kernel_rfl, fun j t ht => ?_⟩
  rw [Tryz.params6] at ht
  obtain rfl : t = 9 := by simpa using Array.mem_of_getElem? ht
  exact (show Tryz.prog.wantsStandIn 9 = false by kernel_rfl)

set_option maxRecDepth 100000 in
theorem fnExactTextPercent_card : Rows.FnExactTextPercentCardSaid :=
  Claim7.holds_tied_plain_at .later [] _ _ _ _ fnExactTextPercent_said (fun _ h => by cases h) (by kernel_rfl) (fun _ h => by cases h) fnExactTextPercent_row_tie rfl ⟨rfl, rfl⟩ (by kernel_rfl) rfl fnExactTextPercent_plain (by kernel_rfl)
end Go.Proofs.YtofehcpapdlcnaaGreatDoor
