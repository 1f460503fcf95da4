/-
  For every two strings FnExactCutAt returns true, for every string FnExactCut and FnExactLines do; no conditions.
-/
import Derived.Test.YtppgdekcngkijaaLaw
import Derived.Test.YtppgdekcngkijaaCutWalks
import Derived.Test.YtppgdekcngkijaaMarkS
namespace Go.Proofs.Ytppgdekcngkijaa
open Go.ChangeShapes Go.WideShapes Go.ChangeAt Go.RowKit
open Go.ChangeMaps (open_string shut_string)

theorem decide_self {α : Type} [DecidableEq α] (x : α) : decide (x = x) = true := decide_eq_true rfl

set_option maxHeartbeats 1000000 in
theorem lawCutAt (s by_ : ByteArray) (w : World) (hs : s.size ≤ 1048576) (hy : by_.size ≤ 1048576) :
    Calls Try.prog 6 #[.string s, .string by_] w fun e w' => e = .returned (.bool true) ∧ Below w.heap.size w w' := by
  have hlen := Lib.hid (cutAt_length s by_ hs)
  go_enter Try.func6, Try.ntmps6
  go_wp2_with fail
  refine (specCutAt_any s by_ _ hs hy).mono ?_
  rintro e w1 ⟨v0, rfl, o0, b1⟩
  go_wp2_with fail
  refine (implCutAt_any s by_ _ hs).mono ?_
  rintro e w2 ⟨v1, rfl, o1, b2⟩
  generalize hP : (cutAtB s by_) = P at *
  have HP := Lib.hid hP
  clear hP
  have hl1 : P.length ≤ 1048577 := hlen.out
  have o02 := own_below o0 b2
  go_wp2_with fail
  refine (eqStringS_any v1 v0 P P _ _ _ _ _ (by omega) (Row.of_own o1) (Row.of_own o02)).mono ?_
  rintro e w3 ⟨rfl, q3, rfl⟩
  rw [decide_self]
  go_wp2_with fail
  refine (markStringS_any v1 _ _ _ 1 _ (by omega) (by omega) (own_drewN o1 q3)).mono ?_
  rintro e w4 ⟨rfl, o4, g4⟩
  go_wp2_with fail
  refine (heldStringS_any v1 P.length _ _ 1 _ (by omega) (by omega) (Nat.le_refl _) (Row.of_own o4)).mono ?_
  rintro e w5 ⟨rfl, b5⟩
  have z2 := b2.size
  have z4 := g4.size
  have o04 : w4.ownsRow w.heap.size 9 1 v0 P.length (strsV P) := own_stays (own_drewN o02 q3) fun g hg => g4.block g (own_lt (own_drewN o02 q3) hg).2 (fun e => by have h1 := (own_lt o1 e.symm).1; have h2 := (own_lt o0 hg).2; omega)
  have o05 := own_below o04 b5
  have o15 := own_below o4 b5
  go_wp2_with fail
  refine (implCutAt_any s by_ _ hs).mono ?_
  rintro e w6 ⟨v2, rfl, o6, b6⟩
  rw [HP.out] at o6
  have o06 := own_below o05 b6
  have o16 := own_below o15 b6
  go_wp2_with fail
  refine (eqStringS_any v2 v0 P P _ _ _ _ _ (by omega) (Row.of_own o6) (Row.of_own o06)).mono ?_
  rintro e w7 ⟨rfl, q7, rfl⟩
  rw [decide_self]
  go_wp2_with fail
  refine (heldStringS_any v1 P.length _ _ 1 _ (by omega) (by omega) (Nat.le_refl _) (Row.of_own (own_drewN o16 q7))).mono ?_
  rintro e w8 ⟨rfl, b8⟩
  go_wp2
  go_ret
  have z1 := b1.size
  have bb : Below w.heap.size w w4 := (below_drewN (Below.next b1 b2) q3).grown g4 (by simp; omega) (fun k hk => by have := (own_lt o1 hk).1; omega)
  exact ⟨rfl, Below.next (below_drewN (Below.next (Below.next bb b5) b6) q7) b8⟩

set_option maxHeartbeats 1000000 in
theorem lawCut (s : ByteArray) (w : World) (hs : s.size ≤ 1048576) :
    Calls Try.prog 7 #[.string s] w fun e w' => e = .returned (.bool true) ∧ Below w.heap.size w w' := by
  have hlen := Lib.hid (cutAt_length s ⟨#[32]⟩ hs)
  go_enter Try.func7, Try.ntmps7
  go_wp2_with fail
  refine (specCut_any s _ hs).mono ?_
  rintro e w1 ⟨v0, rfl, o0, b1⟩
  go_wp2_with fail
  refine (implCut_any s _ hs).mono ?_
  rintro e w2 ⟨v1, rfl, o1, b2⟩
  generalize hP : (cutAtB s ⟨#[32]⟩) = P at *
  have HP := Lib.hid hP
  clear hP
  have hl1 : P.length ≤ 1048577 := hlen.out
  have o02 := own_below o0 b2
  go_wp2_with fail
  refine (eqStringS_any v1 v0 P P _ _ _ _ _ (by omega) (Row.of_own o1) (Row.of_own o02)).mono ?_
  rintro e w3 ⟨rfl, q3, rfl⟩
  rw [decide_self]
  go_wp2_with fail
  refine (markStringS_any v1 _ _ _ 1 _ (by omega) (by omega) (own_drewN o1 q3)).mono ?_
  rintro e w4 ⟨rfl, o4, g4⟩
  go_wp2_with fail
  refine (heldStringS_any v1 P.length _ _ 1 _ (by omega) (by omega) (Nat.le_refl _) (Row.of_own o4)).mono ?_
  rintro e w5 ⟨rfl, b5⟩
  have z2 := b2.size
  have z4 := g4.size
  have o04 : w4.ownsRow w.heap.size 9 1 v0 P.length (strsV P) := own_stays (own_drewN o02 q3) fun g hg => g4.block g (own_lt (own_drewN o02 q3) hg).2 (fun e => by have h1 := (own_lt o1 e.symm).1; have h2 := (own_lt o0 hg).2; omega)
  have o05 := own_below o04 b5
  have o15 := own_below o4 b5
  go_wp2_with fail
  refine (implCut_any s _ hs).mono ?_
  rintro e w6 ⟨v2, rfl, o6, b6⟩
  rw [HP.out] at o6
  have o06 := own_below o05 b6
  have o16 := own_below o15 b6
  go_wp2_with fail
  refine (eqStringS_any v2 v0 P P _ _ _ _ _ (by omega) (Row.of_own o6) (Row.of_own o06)).mono ?_
  rintro e w7 ⟨rfl, q7, rfl⟩
  rw [decide_self]
  go_wp2_with fail
  refine (heldStringS_any v1 P.length _ _ 1 _ (by omega) (by omega) (Nat.le_refl _) (Row.of_own (own_drewN o16 q7))).mono ?_
  rintro e w8 ⟨rfl, b8⟩
  go_wp2
  go_ret
  have z1 := b1.size
  have bb : Below w.heap.size w w4 := (below_drewN (Below.next b1 b2) q3).grown g4 (by simp; omega) (fun k hk => by have := (own_lt o1 hk).1; omega)
  exact ⟨rfl, Below.next (below_drewN (Below.next (Below.next bb b5) b6) q7) b8⟩

set_option maxHeartbeats 1000000 in
theorem lawLines (s : ByteArray) (w : World) (hs : s.size ≤ 1048576) :
    Calls Try.prog 8 #[.string s] w fun e w' => e = .returned (.bool true) ∧ Below w.heap.size w w' := by
  have hlen := Lib.hid (lines_length s hs)
  go_enter Try.func8, Try.ntmps8
  go_wp2_with fail
  refine (specLines_any s _ hs).mono ?_
  rintro e w1 ⟨v0, rfl, o0, b1⟩
  go_wp2_with fail
  refine (implLines_any s _ hs).mono ?_
  rintro e w2 ⟨v1, rfl, o1, b2⟩
  generalize hP : (linesB s) = P at *
  have HP := Lib.hid hP
  clear hP
  have hl1 : P.length ≤ 1048577 := hlen.out
  have o02 := own_below o0 b2
  go_wp2_with fail
  refine (eqStringS_any v1 v0 P P _ _ _ _ _ (by omega) (Row.of_own o1) (Row.of_own o02)).mono ?_
  rintro e w3 ⟨rfl, q3, rfl⟩
  rw [decide_self]
  go_wp2_with fail
  refine (markStringS_any v1 _ _ _ 1 _ (by omega) (by omega) (own_drewN o1 q3)).mono ?_
  rintro e w4 ⟨rfl, o4, g4⟩
  go_wp2_with fail
  refine (heldStringS_any v1 P.length _ _ 1 _ (by omega) (by omega) (Nat.le_refl _) (Row.of_own o4)).mono ?_
  rintro e w5 ⟨rfl, b5⟩
  have z2 := b2.size
  have z4 := g4.size
  have o04 : w4.ownsRow w.heap.size 9 1 v0 P.length (strsV P) := own_stays (own_drewN o02 q3) fun g hg => g4.block g (own_lt (own_drewN o02 q3) hg).2 (fun e => by have h1 := (own_lt o1 e.symm).1; have h2 := (own_lt o0 hg).2; omega)
  have o05 := own_below o04 b5
  have o15 := own_below o4 b5
  go_wp2_with fail
  refine (implLines_any s _ hs).mono ?_
  rintro e w6 ⟨v2, rfl, o6, b6⟩
  rw [HP.out] at o6
  have o06 := own_below o05 b6
  have o16 := own_below o15 b6
  go_wp2_with fail
  refine (eqStringS_any v2 v0 P P _ _ _ _ _ (by omega) (Row.of_own o6) (Row.of_own o06)).mono ?_
  rintro e w7 ⟨rfl, q7, rfl⟩
  rw [decide_self]
  go_wp2_with fail
  refine (heldStringS_any v1 P.length _ _ 1 _ (by omega) (by omega) (Nat.le_refl _) (Row.of_own (own_drewN o16 q7))).mono ?_
  rintro e w8 ⟨rfl, b8⟩
  go_wp2
  go_ret
  have z1 := b1.size
  have bb : Below w.heap.size w w4 := (below_drewN (Below.next b1 b2) q3).grown g4 (by simp; omega) (fun k hk => by have := (own_lt o1 hk).1; omega)
  exact ⟨rfl, Below.next (below_drewN (Below.next (Below.next bb b5) b6) q7) b8⟩

set_option maxHeartbeats 400000 in
theorem bigCutAt (s t : ByteArray) (w : World) (hs : s.size ≤ maxLen) (ht : t.size ≤ maxLen) :
    Calls Try.prog 6 #[.string s, .string t] w fun e w' => e = .returned (.bool true) ∧ Below w.heap.size w w' := by
  by_cases hbig : 1048576 < s.size
  · unfold maxLen at hs
    go_enter Try.func6, Try.ntmps6
    go_wp2
    go_ret
    exact ⟨rfl, Below.refl _ _⟩
  · by_cases hbig2 : 1048576 < t.size
    · unfold maxLen at hs ht
      go_enter Try.func6, Try.ntmps6
      go_wp2
      go_ret
      exact ⟨rfl, Below.refl _ _⟩
    · exact lawCutAt s t w (by omega) (by omega)

set_option maxRecDepth 100000 in
theorem fnExactCutAt_lifted (os : Os) (started : os.Started) (H : Type) (enc : TypeId × Value → H) :
    ReturnsInHanded {} Try.checked os 6 .any (Rows.fnExactCutAtSpec.pre6 enc Try.prog Try.f6 Rows.fnExactCutAtRow.domain false) (Rows.fnExactCutAtSpec.post enc Try.prog Try.f6 false true false false) := by
  refine law_lifted started (by kernel_rfl) Try.func6 (by kernel_rfl) (tb := 4) (by kernel_rfl) Try.underlying4 rfl
    (ChangeSpec.witness6 (enc := enc) (C := Try.checked) false ⟨#[], #[.string ⟨#[]⟩, .string ⟨#[]⟩], []⟩ 8 (by kernel_rfl) (by kernel_rfl) (by kernel_rfl) (by kernel_rfl)) ?_
  intro W base args ds p hval hA _ _
  rw [Try.params6] at hA hval
  obtain ⟨v0, v1, d0, d1, p0, p1, rfl, rfl, rfl, h0, h1⟩ := trodAll_two hA
  obtain ⟨s, rfl, rfl, rfl, hs⟩ := open_string Try.underlying9 (hval 0 9 v0 rfl rfl) h0
  obtain ⟨t, rfl, rfl, rfl, ht⟩ := open_string Try.underlying9 (hval 1 9 v1 rfl rfl) h1
  exact ⟨rfl, bigCutAt s t W hs ht⟩

theorem fnExactCutAt_holds : Rows.FnExactCutAtSaid :=
  OpenClaim.holds_of_wide 6 Try.f6 rfl rfl rfl rfl rfl rfl rfl ⟨rfl, rfl, rfl, rfl, rfl⟩ rfl rfl rfl rfl rfl (by kernel_rfl) Try.func6 (by kernel_rfl)
    (of_decide_eq_true (by kernel_rfl)) (by unfold Func.isWrapper; first | (rw [if_pos (by decide +kernel)]; kernel_rfl) | (rw [if_neg (by decide +kernel)]; exact ⟨rfl, rfl⟩))
    (fun os started H enc _ => fnExactCutAt_lifted os started H enc)

set_option maxHeartbeats 400000 in
theorem bigCut (s : ByteArray) (w : World) (hs : s.size ≤ maxLen) :
    Calls Try.prog 7 #[.string s] w fun e w' => e = .returned (.bool true) ∧ Below w.heap.size w w' := by
  by_cases hbig : 1048576 < s.size
  · unfold maxLen at hs
    go_enter Try.func7, Try.ntmps7
    go_wp2
    go_ret
    exact ⟨rfl, Below.refl _ _⟩
  · exact lawCut s w (by omega)

set_option maxRecDepth 100000 in
theorem fnExactCut_lifted (os : Os) (started : os.Started) (H : Type) (enc : TypeId × Value → H) :
    ReturnsInHanded {} Try.checked os 7 .any (Rows.fnExactCutSpec.pre6 enc Try.prog Try.f7 Rows.fnExactCutRow.domain false) (Rows.fnExactCutSpec.post enc Try.prog Try.f7 false true false false) := by
  refine law_lifted started (by kernel_rfl) Try.func7 (by kernel_rfl) (tb := 4) (by kernel_rfl) Try.underlying4 rfl
    (ChangeSpec.witness6 (enc := enc) (C := Try.checked) false ⟨#[], #[.string ⟨#[]⟩], []⟩ 8 (by kernel_rfl) (by kernel_rfl) (by kernel_rfl) (by kernel_rfl)) ?_
  intro W base args ds p hval hA _ _
  rw [Try.params7] at hA hval
  obtain ⟨v0, d0, rfl, rfl, h0⟩ := trodAll_one hA
  obtain ⟨s, rfl, rfl, rfl, hs⟩ := open_string Try.underlying9 (hval 0 9 v0 rfl rfl) h0
  exact ⟨rfl, bigCut s W hs⟩

theorem fnExactCut_holds : Rows.FnExactCutSaid :=
  OpenClaim.holds_of_wide 7 Try.f7 rfl rfl rfl rfl rfl rfl rfl ⟨rfl, rfl, rfl, rfl, rfl⟩ rfl rfl rfl rfl rfl (by kernel_rfl) Try.func7 (by kernel_rfl)
    (of_decide_eq_true (by kernel_rfl)) (by unfold Func.isWrapper; first | (rw [if_pos (by decide +kernel)]; kernel_rfl) | (rw [if_neg (by decide +kernel)]; exact ⟨rfl, rfl⟩))
    (fun os started H enc _ => fnExactCut_lifted os started H enc)

set_option maxHeartbeats 400000 in
theorem bigLines (s : ByteArray) (w : World) (hs : s.size ≤ maxLen) :
    Calls Try.prog 8 #[.string s] w fun e w' => e = .returned (.bool true) ∧ Below w.heap.size w w' := by
  by_cases hbig : 1048576 < s.size
  · unfold maxLen at hs
    go_enter Try.func8, Try.ntmps8
    go_wp2
    go_ret
    exact ⟨rfl, Below.refl _ _⟩
  · exact lawLines s w (by omega)

set_option maxRecDepth 100000 in
theorem fnExactLines_lifted (os : Os) (started : os.Started) (H : Type) (enc : TypeId × Value → H) :
    ReturnsInHanded {} Try.checked os 8 .any (Rows.fnExactLinesSpec.pre6 enc Try.prog Try.f8 Rows.fnExactLinesRow.domain false) (Rows.fnExactLinesSpec.post enc Try.prog Try.f8 false true false false) := by
  refine law_lifted started (by kernel_rfl) Try.func8 (by kernel_rfl) (tb := 4) (by kernel_rfl) Try.underlying4 rfl
    (ChangeSpec.witness6 (enc := enc) (C := Try.checked) false ⟨#[], #[.string ⟨#[]⟩], []⟩ 8 (by kernel_rfl) (by kernel_rfl) (by kernel_rfl) (by kernel_rfl)) ?_
  intro W base args ds p hval hA _ _
  rw [Try.params8] at hA hval
  obtain ⟨v0, d0, rfl, rfl, h0⟩ := trodAll_one hA
  obtain ⟨s, rfl, rfl, rfl, hs⟩ := open_string Try.underlying9 (hval 0 9 v0 rfl rfl) h0
  exact ⟨rfl, bigLines s W hs⟩

theorem fnExactLines_holds : Rows.FnExactLinesSaid :=
  OpenClaim.holds_of_wide 8 Try.f8 rfl rfl rfl rfl rfl rfl rfl ⟨rfl, rfl, rfl, rfl, rfl⟩ rfl rfl rfl rfl rfl (by kernel_rfl) Try.func8 (by kernel_rfl)
    (of_decide_eq_true (by kernel_rfl)) (by unfold Func.isWrapper; first | (rw [if_pos (by decide +kernel)]; kernel_rfl) | (rw [if_neg (by decide +kernel)]; exact ⟨rfl, rfl⟩))
    (fun os started H enc _ => fnExactLines_lifted os started H enc)
end Go.Proofs.Ytppgdekcngkijaa
