/-
  For all arguments the law FnExactDecSub of chapter 8 returns true; no conditions.
-/
import Derived.Test.YthfkdofnoomhaaaDecLawDecSub
import Derived.Test.YthfkdofnoomhaaaDecImpl2
import Derived.Test.YthfkdofnoomhaaaDecSpec2
import Derived.Test.YthfkdofnoomhaaaDecArg
namespace Go.Proofs.Ythfkdofnoomhaaa
open Go.ChangeShapes Go.WideShapes Go.ChangeAt Go.RowKit
open Go.ChangeMaps (open_string shut_string)

set_option maxHeartbeats 1000000 in
set_option maxRecDepth 100000 in
theorem lawDecSub (va : Value) (vb : Value) (a : DI) (b : DI) (w : World)
    (hI : szD a ≤ 1048576 → szD b ≤ 1048576 → ∀ (ua : Value) (ub : Value) (W : World), OwnD ua a W → OwnD ub b W → Calls Try.prog 18 #[ua, ub] W (PostDb ((subD a b).1) ((subD a b).2) W))
    (hca : capD a) (hcb : capD b)  (ra : RdD w va a) (rb : RdD w vb b) :
    Calls Try.prog 5 #[va, vb] w fun e w' => e = .returned (.bool true) ∧ Below w.heap.size w w' := by
  have hsa := szD_nonneg a
  have hsb := szD_nonneg b
  by_cases hl_0 : szD a ≤ 1048576
  · skip
    by_cases hl : szD a + szD b ≤ 1048576
    · skip
      have hla : szD a ≤ 1048576 := by omega
      have hlb : szD b ≤ 1048576 := by omega
      exact lawDecSub_walk va vb a b ((subD a b).1) ((subD a b).2) w (fun ua ub W ha hb => specDecSub_any ua ub a b W (szD_len hla) (szD_len hlb) ha hb) (hI hla hlb)  hl (subD_sz a b) ra rb
    · skip
      obtain ⟨Aa, ca, rfl⟩ := rdD_form ra
      obtain ⟨Ab, cb, rfl⟩ := rdD_form rb
      have bb0 : Below w.heap.size w ((w.alloc (.cells #[.bool a.1.1, .slice Aa a.1.2.length ca, .int .i64 a.2] 26)).alloc (.cells #[.bool b.1.1, .slice Ab b.1.2.length cb, .int .i64 b.2] 26)) := below_al (below_al (Below.refl _ _) _) _
      have ka := (box_new w #[.bool a.1.1, .slice Aa a.1.2.length ca, .int .i64 a.2] 26).below (below_al (Below.refl _ _) (.cells #[.bool b.1.1, .slice Ab b.1.2.length cb, .int .i64 b.2] 26))
      have kb := (box_new (w.alloc (.cells #[.bool a.1.1, .slice Aa a.1.2.length ca, .int .i64 a.2] 26)) #[.bool b.1.1, .slice Ab b.1.2.length cb, .int .i64 b.2] 26)
      rw [show (w.alloc (.cells #[.bool a.1.1, .slice Aa a.1.2.length ca, .int .i64 a.2] 26)).heap.size = w.heap.size + 1 by simp] at kb
      go_enter Try.func5, Try.ntmps5
      have ka_c0 := ka.here.cell 0 _ rfl
      have ka_c1 := ka.here.cell 1 _ rfl
      have ka_c2 := ka.here.cell 2 _ rfl
      go_wp2_with fail
      clear ka_c0 ka_c1 ka_c2
      refine (szD_cal _ a (1048576) _ hca (by omega) (by omega) (ra.below bb0)).mono ?_
      rintro e w1 ⟨rfl, b1⟩
      have bb1 := Below.next bb0 b1
      replace ka := ka.below b1
      replace kb := kb.below b1
      rw [leftI_of (by omega)]
      have hn : decide (((1048576 : Int) - szD a : Int) < 0) = false := decide_eq_false (by omega)
      have kb_c0 := kb.here.cell 0 _ rfl
      have kb_c1 := kb.here.cell 1 _ rfl
      have kb_c2 := kb.here.cell 2 _ rfl
      go_wp2_with fail
      clear kb_c0 kb_c1 kb_c2
      clear hn
      refine (szD_cal _ b (1048576 - szD a) _ hcb (by omega) (by omega) (rb.below bb1)).mono ?_
      rintro e w2 ⟨rfl, b2⟩
      have bb2 := Below.next bb1 b2
      replace ka := ka.below b2
      replace kb := kb.below b2
      rw [show leftI (1048576 - szD a) (szD b) = -1 by unfold leftI; rw [if_pos (by omega)]]
      go_wp2
      go_ret
      exact ⟨rfl, bb2⟩
  · skip
    obtain ⟨Aa, ca, rfl⟩ := rdD_form ra
    obtain ⟨Ab, cb, rfl⟩ := rdD_form rb
    have bb0 : Below w.heap.size w ((w.alloc (.cells #[.bool a.1.1, .slice Aa a.1.2.length ca, .int .i64 a.2] 26)).alloc (.cells #[.bool b.1.1, .slice Ab b.1.2.length cb, .int .i64 b.2] 26)) := below_al (below_al (Below.refl _ _) _) _
    have ka := (box_new w #[.bool a.1.1, .slice Aa a.1.2.length ca, .int .i64 a.2] 26).below (below_al (Below.refl _ _) (.cells #[.bool b.1.1, .slice Ab b.1.2.length cb, .int .i64 b.2] 26))
    go_enter Try.func5, Try.ntmps5
    have ka_c0 := ka.here.cell 0 _ rfl
    have ka_c1 := ka.here.cell 1 _ rfl
    have ka_c2 := ka.here.cell 2 _ rfl
    go_wp2_with fail
    clear ka_c0 ka_c1 ka_c2
    refine (szD_cal _ a (1048576) _ hca (by omega) (by omega) (ra.below bb0)).mono ?_
    rintro e w1 ⟨rfl, b1⟩
    have bb1 := Below.next bb0 b1
    replace ka := ka.below b1
    rw [show leftI (1048576) (szD a) = -1 by unfold leftI; rw [if_pos (by omega)]]
    go_wp2
    go_ret
    exact ⟨rfl, bb1⟩
set_option maxRecDepth 100000 in
theorem fnExactDecSub_lifted (os : Os) (started : os.Started) (H : Type) (enc : TypeId × Value → H) :
    ReturnsInHanded {} Try.checked os 5 .any (Rows.fnExactDecSubSpec.pre6 enc Try.prog Try.f5 Rows.fnExactDecSubRow.domain false) (Rows.fnExactDecSubSpec.post enc Try.prog Try.f5 false true false false) := by
  refine law_lifted started (by kernel_rfl) Try.func5 (by kernel_rfl) (tb := 4) (by kernel_rfl) Try.underlying4 rfl
    (ChangeSpec.witness6 (enc := enc) (C := Try.checked) false ⟨#[], #[.agg #[.bool false, .slice none 0 0, .int .i64 0], .agg #[.bool false, .slice none 0 0, .int .i64 0]], []⟩ 8 (by kernel_rfl) (by kernel_rfl) (by kernel_rfl) (by kernel_rfl)) ?_
  intro W base args ds p hval hA _ _
  rw [Try.params5] at hA hval
  obtain ⟨v0, v1, d0, d1, p0, p1, rfl, rfl, rfl, h0, h1⟩ := trodAll_two hA
  obtain ⟨a, ra, ma, ia⟩ := arg_dec (hval 0 26 v0 rfl rfl) h0
  unfold maxLen at ma
  have hca : capD a := by unfold capD; omega
  obtain ⟨b, rb, mb, ib⟩ := arg_dec (hval 1 26 v1 rfl rfl) h1
  unfold maxLen at mb
  have hcb : capD b := by unfold capD; omega
  exact ⟨rfl, lawDecSub v0 v1 a b W (fun hla hlb ua ub W ha hb => implDecSub_any ua ub a b W (szD_len hla) (szD_len hlb) ha hb) hca hcb ra rb⟩

theorem fnExactDecSub_holds : Rows.FnExactDecSubSaid :=
  OpenClaim.holds_of_wide 5 Try.f5 rfl rfl rfl rfl rfl rfl rfl ⟨rfl, rfl, rfl, rfl, rfl⟩ rfl rfl rfl rfl rfl (by kernel_rfl) Try.func5 (by kernel_rfl)
    (of_decide_eq_true (by kernel_rfl)) (by unfold Func.isWrapper; first | (rw [if_pos (by decide +kernel)]; kernel_rfl) | (rw [if_neg (by decide +kernel)]; exact ⟨rfl, rfl⟩))
    (fun os started H enc _ => fnExactDecSub_lifted os started H enc)
end Go.Proofs.Ythfkdofnoomhaaa
