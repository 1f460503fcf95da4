/-
  For every string FnExactTextInt returns true; no conditions beyond the card's own (the library's number tables hold what the program's text lays).
-/
import Derived.Test.YtppgdekcngkijaaDoorLaidLaw
import Derived.Test.YtppgdekcngkijaaDoorTextInt
namespace Go.Proofs.YtppgdekcngkijaaDoor
open Go.ChangeShapes Go.WideShapes Go.ChangeAt Go.RowKit
open Go.ChangeMaps (open_string shut_string)

set_option maxHeartbeats 1000000 in
theorem lawTextInt (s : ByteArray) (w : World) (hs : s.size ≤ maxLen) (ht : Tab w) :
    Calls Tryd.prog 5 #[.string s] w fun e w' => e = .returned (.bool true) ∧ Below w.heap.size w w' := by
  by_cases hbig : 1048576 < s.size
  · unfold maxLen at hs
    go_enter Tryd.func5, Tryd.ntmps5
    go_wp2
    go_ret
    exact ⟨rfl, Below.refl _ _⟩
  · clear hs
    go_enter Tryd.func5, Tryd.ntmps5
    go_wp2_with fail
    refine (specTextInt_any s _ (by omega)).mono ?_
    rintro e w1 ⟨b1, ⟨n, hn, rfl⟩ | ⟨hn, rfl⟩⟩
    · have HN := Lib.hid hn
      clear hn
      go_wp2_with fail
      refine (implTextInt_any s _ (ht.below b1)).mono ?_
      rintro e w2 ⟨b2, ⟨m, hm, rfl⟩ | ⟨hm, rfl⟩⟩
      · obtain rfl := isNum_inj s m n hm HN.out
        clear hm HN
        go_wp2
        go_ret
        exact ⟨rfl, Below.next b1 b2⟩
      · exact absurd HN.out (hm n)
    · have HN := Lib.hid hn
      clear hn
      go_wp2_with fail
      refine (implTextInt_any s _ (ht.below b1)).mono ?_
      rintro e w2 ⟨b2, ⟨m, hm, rfl⟩ | ⟨hm, rfl⟩⟩
      · exact absurd hm (HN.out m)
      · clear hm
        go_wp2
        go_ret
        exact ⟨rfl, Below.next b1 b2⟩

theorem fnExactTextInt_met (os : Os) : laidMet Tryd.prog Rows.fnExactTextIntRow.laid ((laidWorld os).forCall (fun _ _ => 0) ⟨#[], #[.string ⟨#[]⟩], []⟩).memory :=
  laidMet_of_run' 8 (by kernel_rfl) (by kernel_rfl)
theorem fnExactTextInt_reads (os : Os) {H : Type} (enc : TypeId × Value → H) : ∃ places, DataW.whole enc Tryd.prog ((laidWorld os).forCall (fun _ _ => 0) ⟨#[], #[.string ⟨#[]⟩], []⟩).memory Tryd.f5.params.toList Rows.fnExactTextIntSpec.vars false (#[.string ⟨#[]⟩] : Array Value).toList 8 = some ([.lit (.string [])], [], places) :=
  ⟨[], by kernel_rfl⟩

set_option maxRecDepth 100000 in
theorem fnExactTextInt_lifted (os : Os) (started : os.Started) (H : Type) (enc : TypeId × Value → H) (F : Stop.Interp) :
    ReturnsInHanded {} Tryd.checked os 5 .any ((OpenSpec.ofChange Rows.fnExactTextIntSpec).preRow enc Tryd.prog Tryd.f5 Rows.fnExactTextIntRow.domain false Rows.fnExactTextIntRow.laid) (((OpenSpec.ofChange Rows.fnExactTextIntSpec).at F).post enc Tryd.prog Tryd.f5 false true false false) := by
  obtain ⟨places, hx⟩ := fnExactTextInt_reads os enc
  refine law_lifted_laid started (by kernel_rfl) Tryd.func5 (by kernel_rfl) (tb := 4) (by kernel_rfl) Tryd.underlying4 rfl
    (witness_row_at (enc := enc) (C := Tryd.checked) false (laidWorld os) #[.string ⟨#[]⟩] rfl (by kernel_rfl) (by kernel_rfl) (by kernel_rfl)
      (OpenSpec.preRow_of_cond 8 hx (by kernel_rfl) (fun k hk => by cases hk) (by kernel_rfl) (fnExactTextInt_met os))) ?_
  intro W base args ds p hval hA _ ht
  rw [Tryd.params5] at hA hval
  obtain ⟨v0, d0, rfl, rfl, h0⟩ := trodAll_one hA
  obtain ⟨s, rfl, rfl, rfl, hs⟩ := open_string Tryd.underlying9 (hval 0 9 v0 rfl rfl) h0
  exact ⟨rfl, lawTextInt s W hs ht⟩

theorem fnExactTextInt_said : Rows.FnExactTextIntSaid :=
  OpenClaim.holds_of_cond 5 Tryd.f5 rfl rfl rfl rfl rfl rfl rfl ⟨rfl, rfl, rfl, rfl, rfl⟩ rfl rfl rfl rfl rfl (by kernel_rfl) Tryd.func5 (by kernel_rfl)
    (of_decide_eq_true (by kernel_rfl)) (by unfold Func.isWrapper; first | (rw [if_pos (by decide +kernel)]; kernel_rfl) | (rw [if_neg (by decide +kernel)]; exact ⟨rfl, rfl⟩))
    (fun os started H enc _ F => by rw [OpenClaim.pre_eq_preRow]; exact fnExactTextInt_lifted os started H enc F)

theorem fnExactTextInt_plain (f : FuncId) (fn : Func) (hf : Tryd.pinned.checked.prog.funcNamed "loop.example/g00793/laws.FnExactTextInt" = some f) (hfn : Tryd.pinned.checked.prog.funcs[f]? = some fn) :
    false = Tryd.pinned.checked.prog.looks [] ∧ ∀ (j : Nat) t, fn.params[j]? = some t → Tryd.pinned.checked.prog.wantsStandIn t = false := by
  obtain rfl : f = 5 := Option.some.inj ((show Tryd.prog.funcNamed "loop.example/g00793/laws.FnExactTextInt" = some 5 by kernel_rfl).symm.trans hf) |>.symm
  obtain rfl : fn = Tryd.f5 := (Option.some.inj (Tryd.func5.symm.trans hfn)).symm
  refine ⟨by kernel_rfl, fun j t ht => ?_⟩
  rw [Tryd.params5] at ht
  obtain rfl : t = 9 := by simpa using Array.mem_of_getElem? ht
  exact (show Tryd.prog.wantsStandIn 9 = false by kernel_rfl)

theorem fnExactTextInt_card : Rows.FnExactTextIntCardSaid :=
  Claim7.holds_tied_plain_at .later [] _ _ _ _ fnExactTextInt_said (fun _ h => by cases h) (by kernel_rfl) (fun _ h => by cases h) fnExactTextInt_row_tie rfl ⟨rfl, rfl⟩ (by kernel_rfl) rfl fnExactTextInt_plain (by kernel_rfl)
end Go.Proofs.YtppgdekcngkijaaDoor
