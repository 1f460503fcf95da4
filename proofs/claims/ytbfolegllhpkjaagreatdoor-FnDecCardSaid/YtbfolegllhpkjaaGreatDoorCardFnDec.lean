/-
  For every code FnDec returns true: decimal numbers are recovered from their strings and agree with the fractions they represent. No conditions beyond the card's own (the listed variables hold what the program's text lays).
-/
import Derived.Test.YtbfolegllhpkjaaGreatDoorFnDecLaw
namespace Go.Proofs.YtbfolegllhpkjaaGreatDoor
open Go.ChangeShapes Go.WideShapes Go.ChangeAt Go.RowKit

/-- a world for the witness: the settled one, the listed variables holding what their initialisers lay -/
noncomputable def senUtfWorld (os : Os) : World :=
  { senWorld os with heap := ((senWorld os).heap.modify 3 (putCells ((aggOf Rows.laid_unicode_utf8_acceptRanges).flatMap fun x => tabCells .u8 (aggOf x)).toArray)).modify 2 (putCells (tabCells .u8 (aggOf Rows.laid_unicode_utf8_first)).toArray) }
theorem fnDec_tab {W : World} (h : laidMetH Tryz.prog Rows.fnDecRow.laid W) : Tab W := by
  obtain ⟨ps, ⟨_, _, _, _, _, _, _, _, _, _, ⟨_, _, _, _, _, _, _, _, _, _, ⟨g3, t3, cs3, fuel3, p3, q3, hg3, ht3, hvar3, hd3, _, _⟩, _⟩, _⟩, _⟩ := (show laidMet Tryz.prog Rows.fnDecRow.laid W from h)
  obtain rfl := Option.some.inj (powGlobal.symm.trans hg3)
  obtain rfl := Option.some.inj (powType.symm.trans ht3)
  rw [powData] at hd3
  unfold Tab Lib.TabIs
  rw [hvar3, ← Lib.cells_of_tab Tryz.underlying197 Tryz.underlying160 u64Cells powCells hd3]
theorem lawDec (v : Value) (bs : List Nat) (w : World) (hb : ∀ b ∈ bs, b < 256) (hm : bs.length ≤ 9223372036854775807) (hr : Row w 0 w.heap.size v (bytesV bs)) (ht : Tab w) (hs : Sen w) :
    Calls Tryz.prog 3 #[v] w fun e w' => e = .returned (.bool true) ∧ Below w.heap.size w w' := by
  by_cases hn : bs.length ≤ 1048576
  · exact lawDec_small v bs w hb hn hr ht hs
  · obtain ⟨A0, c0, rfl, _⟩ := hr
    have hlen : (bytesV bs).length = bs.length := by simp [bytesV]
    rw [hlen]
    go_enter Tryz.func3, Tryz.ntmps3
    go_wp2
    go_ret
    exact ⟨rfl, Below.refl _ _⟩

set_option maxRecDepth 100000 in
theorem fnDec_met (os : Os) : laidMet Tryz.prog Rows.fnDecRow.laid ((senUtfWorld os).forCall (fun _ _ => 0) ⟨#[], #[.slice none 0 0], []⟩).memory :=
  laidMet_of_run' 8 (by kernel_rfl) (by kernel_rfl)
set_option maxRecDepth 100000 in
theorem fnDec_reads (os : Os) {H : Type} (enc : TypeId × Value → H) : ∃ gs places, DataW.whole enc Tryz.prog ((senUtfWorld os).forCall (fun _ _ => 0) ⟨#[], #[.slice none 0 0], []⟩).memory Tryz.f3.params.toList Rows.fnDecSpec.vars false (#[.slice none 0 0] : Array Value).toList 8 = some ([.nil], gs, places) :=
  ⟨[tok enc (.iface 203 (.pointer (some ⟨low, 0, none⟩)))], [.cell 0 0], by kernel_rfl⟩

set_option maxRecDepth 100000 in
theorem fnDec_lifted (os : Os) (started : os.Started) (H : Type) (enc : TypeId × Value → H) (F : Stop.Interp) :
    ReturnsInHanded {} Tryz.checked os 3 .any ((OpenSpec.ofChange Rows.fnDecSpec).preRow enc Tryz.prog Tryz.f3 Rows.fnDecRow.domain false Rows.fnDecRow.laid) (((OpenSpec.ofChange Rows.fnDecSpec).at F).post enc Tryz.prog Tryz.f3 false true false false) := by
  obtain ⟨gs, places, hx⟩ := fnDec_reads os enc
  refine law_lifted_sen started (by kernel_rfl) Tryz.func3 (by kernel_rfl) (tb := 4) (by kernel_rfl) Tryz.underlying4 rfl (fun W h => sen_of (show laidMet Tryz.prog Rows.fnDecRow.laid W from h).tail.tail.tail.tail)
    (witness_row_at (enc := enc) (C := Tryz.checked) false (senUtfWorld os) #[.slice none 0 0] rfl (by kernel_rfl) (by kernel_rfl) (by kernel_rfl)
      (OpenSpec.preRow_of_cond 8 hx (by kernel_rfl) (fun k hk => by cases hk) (by kernel_rfl) (fnDec_met os))) ?_
  intro W base args ds p hval hA _ hL hs
  rw [Tryz.params3] at hA hval
  obtain ⟨v0, d0, rfl, rfl, h0⟩ := trodAll_one hA
  obtain ⟨bs, hr, hl, hb⟩ := arg_bytes Tryz.underlying22 Tryz.underlying5 (by kernel_rfl) (hval 0 22 v0 rfl rfl) h0
  unfold maxLen at hl
  exact ⟨fun _ => rfl, lawDec v0 bs W hb (by omega) hr (fnDec_tab hL) hs⟩

set_option maxRecDepth 100000 in
theorem fnDec_said : Rows.FnDecSaid :=
  OpenClaim.holds_of_cond 3 Tryz.f3 rfl rfl rfl rfl rfl rfl rfl ⟨rfl, rfl, rfl, rfl, rfl⟩ rfl rfl rfl rfl rfl (by kernel_rfl) Tryz.func3 (by kernel_rfl)
    (of_decide_eq_true (by kernel_rfl)) (by unfold Func.isWrapper; first | (rw [if_pos (by decide +kernel)]; kernel_rfl) | (rw [if_neg (by decide +kernel)]; exact ⟨rfl, rfl⟩))
    (fun os started H enc _ F => by rw [OpenClaim.pre_eq_preRow]; exact fnDec_lifted os started H enc F)

theorem fnDec_plain (f : FuncId) (fn : Func) (hf : Tryz.pinned.checked.prog.funcNamed "loop.example/g00793/laws.FnDec" = some f) (hfn : Tryz.pinned.checked.prog.funcs[f]? = some fn) :
    true = Tryz.pinned.checked.prog.looks [] ∧ ∀ (j : Nat) t, fn.params[j]? = some t → Tryz.pinned.checked.prog.wantsStandIn t = false := by
  obtain rfl : f = 3 := Option.some.inj ((show Tryz.prog.funcNamed "loop.example/g00793/laws.FnDec" = some 3 by kernel_rfl).symm.trans hf) |>.symm
  obtain rfl : fn = Tryz.f3 := (Option.some.inj (Tryz.func3.symm.trans hfn)).symm
  refine ⟨by kernel_rfl, fun j t ht => ?_⟩
  rw [Tryz.params3] at ht
  obtain rfl : t = 22 := by simpa using Array.mem_of_getElem? ht
  exact (show Tryz.prog.wantsStandIn 22 = false by kernel_rfl)

set_option maxRecDepth 100000 in
theorem fnDec_card : Rows.FnDecCardSaid :=
  Claim7.holds_tied_plain_at .later [] _ _ _ _ fnDec_said (fun _ h => by cases h) (by kernel_rfl) (fun _ h => by cases h) fnDec_row_tie rfl ⟨rfl, rfl⟩ (by kernel_rfl) rfl fnDec_plain (by kernel_rfl)
end Go.Proofs.YtbfolegllhpkjaaGreatDoor
