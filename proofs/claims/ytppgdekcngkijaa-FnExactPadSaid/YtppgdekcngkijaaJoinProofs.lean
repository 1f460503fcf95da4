/-
  For every slice of strings and every string FnExactJoin returns true, for every string and every int FnExactPad does; no conditions.
-/
import Derived.Test.YtppgdekcngkijaaArgs
import Derived.Test.YtppgdekcngkijaaStrS
import Derived.Test.YtppgdekcngkijaaPadWalks
namespace Go.Proofs.Ytppgdekcngkijaa
open Go.ChangeShapes Go.WideShapes Go.ChangeAt Go.RowKit
open Go.ChangeMaps (open_string shut_string)

theorem decide_same {α : Type} [DecidableEq α] (x : α) : decide (x = x) = true := decide_eq_true rfl

set_option maxHeartbeats 1000000 in
theorem lawJoin (v : Value) (ss : List ByteArray) (by_ : ByteArray) (w : World) (hl : ss.length ≤ 9223372036854775807) (hs : ∀ s ∈ ss, s.size ≤ maxLen) (hy : by_.size ≤ 9223372036854775807) (hr : Row w 0 w.heap.size v (ss.map Value.string)) :
    Calls Try.prog 9 #[v, .string by_] w fun e w' => e = .returned (.bool true) ∧ Below w.heap.size w w' := by
  have HS := Lib.hid hs
  clear hs
  by_cases hbig : 1048576 < by_.size
  · go_enter Try.func9, Try.ntmps9
    go_wp2
    go_ret
    exact ⟨rfl, Below.refl _ _⟩
  · go_enter Try.func9, Try.ntmps9
    go_wp2_with fail
    refine (szStringS_any v ss _ _ 1048576 _ (by omega) (by omega) hl HS.out hr).mono ?_
    rintro e w' ⟨rfl, r, rfl, hneg | ⟨hpos, hsum⟩⟩
    · go_wp2
      go_ret
      exact ⟨rfl, Below.refl _ _⟩
    · have hn : ss.length ≤ 1048576 := by omega
      have HZ : Hid (∀ s ∈ ss, s.size ≤ 1048576) := Lib.hid fun s h => by have := sizeTo_le ss s h; omega
      clear hsum
      go_wp2_with fail
      refine (toStringS_any v ss _ _ _ (Nat.le_refl _) hn hr).mono ?_
      rintro e w1 ⟨v1, rfl, o1, b1⟩
      go_wp2_with fail
      refine (specJoin_any v1 by_ ss _ _ _ hn (by omega) HZ.out (Row.of_own o1)).mono ?_
      rintro e w' ⟨rfl, rfl⟩
      have hr1 := hr.below b1 (Nat.le_refl _)
      have z1 := b1.size
      go_wp2_with fail
      refine (toStringS_any v ss _ _ _ z1 hn hr1).mono ?_
      rintro e w2 ⟨v2, rfl, o2, b2⟩
      go_wp2_with fail
      refine (implJoin_any v2 by_ ss _ _ _ (Nat.le_refl _) hn (by omega) HZ.out (Row.of_own o2)).mono ?_
      rintro e w3 ⟨rfl, b3⟩
      have hr3 := (hr1.below b2 z1).below b3 (by have := b2.size; omega)
      have o23 := own_below o2 b3
      go_wp2_with fail
      refine (toStringS_any v ss _ _ _ (by have := b2.size; have := b3.size; omega) hn hr3).mono ?_
      rintro e w4 ⟨v4, rfl, o4, b4⟩
      go_wp2_with fail
      refine (eqStringS_any v2 v4 ss ss _ _ _ _ _ (by omega) (Row.of_own (own_below o23 b4)) (Row.of_own o4)).mono ?_
      rintro e w5 ⟨rfl, q5, rfl⟩
      rw [decide_same]
      go_wp2
      go_ret
      exact ⟨rfl, below_drewN (Below.next (Below.next (Below.next b1 b2) b3) b4) q5⟩

set_option maxHeartbeats 400000 in
theorem lawPad (s : ByteArray) (n : Int) (w : World) (hs : s.size ≤ maxLen) (h1 : -9223372036854775808 ≤ n) (_h2 : n ≤ 9223372036854775807) :
    Calls Try.prog 10 #[.string s, .int .i64 n] w fun e w' => e = .returned (.bool true) ∧ Below w.heap.size w w' := by
  by_cases hbig : 1048576 < s.size
  · unfold maxLen at hs
    go_enter Try.func10, Try.ntmps10
    go_wp2
    go_ret
    exact ⟨rfl, Below.refl _ _⟩
  · clear hs
    by_cases hn : n ≤ 2000
    · go_enter Try.func10, Try.ntmps10
      go_wp2_with fail
      refine (specPad_any s n _ (by omega) hn).mono ?_
      rintro e w' ⟨rfl, rfl⟩
      go_wp2_with fail
      refine (implPad_any s n _ (by omega) hn h1).mono ?_
      rintro e w1 ⟨rfl, hb⟩
      go_wp2
      go_ret
      exact ⟨rfl, hb⟩
    · go_enter Try.func10, Try.ntmps10
      go_wp2_with fail
      refine (specPad_big s n _ (by omega)).mono ?_
      rintro e w' ⟨rfl, rfl⟩
      go_wp2_with fail
      refine (implPad_big s n _ (by omega) (by omega)).mono ?_
      rintro e w' ⟨rfl, rfl⟩
      go_wp2
      go_ret
      exact ⟨rfl, Below.refl _ _⟩

set_option maxRecDepth 100000 in
theorem fnExactJoin_lifted (os : Os) (started : os.Started) (H : Type) (enc : TypeId × Value → H) :
    ReturnsInHanded {} Try.checked os 9 .any (Rows.fnExactJoinSpec.pre6 enc Try.prog Try.f9 Rows.fnExactJoinRow.domain false) (Rows.fnExactJoinSpec.post enc Try.prog Try.f9 false true false false) := by
  refine law_lifted started (by kernel_rfl) Try.func9 (by kernel_rfl) (tb := 4) (by kernel_rfl) Try.underlying4 rfl
    (ChangeSpec.witness6 (enc := enc) (C := Try.checked) false ⟨#[], #[.slice none 0 0, .string ⟨#[]⟩], []⟩ 8 (by kernel_rfl) (by kernel_rfl) (by kernel_rfl) (by kernel_rfl)) ?_
  intro W base args ds p hval hA _ _
  rw [Try.params9] at hA hval
  obtain ⟨v0, v1, d0, d1, p0, p1, rfl, rfl, rfl, h0, h1⟩ := trodAll_two hA
  obtain ⟨ss, hr, hl, hs⟩ := arg_strings Try.underlying23 Try.underlying9 (by kernel_rfl) (hval 0 23 v0 rfl rfl) h0
  obtain ⟨t, rfl, rfl, rfl, ht⟩ := open_string Try.underlying9 (hval 1 9 v1 rfl rfl) h1
  unfold maxLen at hl ht
  exact ⟨rfl, lawJoin v0 ss t W (by omega) hs (by omega) hr⟩

theorem fnExactJoin_holds : Rows.FnExactJoinSaid :=
  OpenClaim.holds_of_wide 9 Try.f9 rfl rfl rfl rfl rfl rfl rfl ⟨rfl, rfl, rfl, rfl, rfl⟩ rfl rfl rfl rfl rfl (by kernel_rfl) Try.func9 (by kernel_rfl)
    (of_decide_eq_true (by kernel_rfl)) (by unfold Func.isWrapper; first | (rw [if_pos (by decide +kernel)]; kernel_rfl) | (rw [if_neg (by decide +kernel)]; exact ⟨rfl, rfl⟩))
    (fun os started H enc _ => fnExactJoin_lifted os started H enc)

set_option maxRecDepth 100000 in
theorem fnExactPad_lifted (os : Os) (started : os.Started) (H : Type) (enc : TypeId × Value → H) :
    ReturnsInHanded {} Try.checked os 10 .any (Rows.fnExactPadSpec.pre6 enc Try.prog Try.f10 Rows.fnExactPadRow.domain false) (Rows.fnExactPadSpec.post enc Try.prog Try.f10 false true false false) := by
  refine law_lifted started (by kernel_rfl) Try.func10 (by kernel_rfl) (tb := 4) (by kernel_rfl) Try.underlying4 rfl
    (ChangeSpec.witness6 (enc := enc) (C := Try.checked) false ⟨#[], #[.string ⟨#[]⟩, .int .i64 0], []⟩ 8 (by kernel_rfl) (by kernel_rfl) (by kernel_rfl) (by kernel_rfl)) ?_
  intro W base args ds p hval hA _ _
  rw [Try.params10] at hA hval
  obtain ⟨v0, v1, d0, d1, p0, p1, rfl, rfl, rfl, h0, h1⟩ := trodAll_two hA
  obtain ⟨s, rfl, rfl, rfl, hs⟩ := open_string Try.underlying9 (hval 0 9 v0 rfl rfl) h0
  obtain ⟨n, rfl, rfl, rfl, wn⟩ := open_int Try.underlying3 (hval 1 3 v1 rfl rfl) h1
  have hn : -9223372036854775808 ≤ n ∧ n ≤ 9223372036854775807 := by simpa [Lit.wf, IntKind.min, IntKind.max, IntKind.signed, IntKind.bits] using wn
  exact ⟨rfl, lawPad s n W hs hn.1 hn.2⟩

theorem fnExactPad_holds : Rows.FnExactPadSaid :=
  OpenClaim.holds_of_wide 10 Try.f10 rfl rfl rfl rfl rfl rfl rfl ⟨rfl, rfl, rfl, rfl, rfl⟩ rfl rfl rfl rfl rfl (by kernel_rfl) Try.func10 (by kernel_rfl)
    (of_decide_eq_true (by kernel_rfl)) (by unfold Func.isWrapper; first | (rw [if_pos (by decide +kernel)]; kernel_rfl) | (rw [if_neg (by decide +kernel)]; exact ⟨rfl, rfl⟩))
    (fun os started H enc _ => fnExactPad_lifted os started H enc)
end Go.Proofs.Ytppgdekcngkijaa
