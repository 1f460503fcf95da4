/-
  The laws of chapter 5, for arguments of any size; impl's contracts are handed in.
-/
import Derived.Test.YtecaghbakjalgaaSignLaws
import Derived.Test.YtecaghbakjalgaaSignAdd
import Derived.Test.YtecaghbakjalgaaSignCmp
namespace Go.Proofs.Ytecaghbakjalgaa
open Go.RowKit

theorem len_szS {x : SI} {n : Nat} (h : x.2.length ≤ n) (hn : n ≤ 1048576) : szS x ≤ 1048576 := by unfold szS szI; omega
theorem zeroS_len : zeroS.2.length ≤ 50 := Nat.zero_le _
theorem ofZ_sz (z : Int) : szS (ofZ z) ≤ 1048576 := len_szS (ofZ_len z) (by decide)
theorem negS_sz (x : SI) : szS (negS x) ≤ 1048576 := by unfold negS; split; exact ofZ_sz _; exact len_szS zeroS_len (by decide)
theorem absS_sz (x : SI) : szS (absS x) ≤ 1048576 := by unfold absS; split; exact ofZ_sz _; exact len_szS zeroS_len (by decide)
theorem addS_sz (x y : SI) : szS (addS x y) ≤ 1048576 := by unfold addS; split; exact ofZ_sz _; exact len_szS zeroS_len (by decide)
theorem subS_sz (x y : SI) : szS (subS x y) ≤ 1048576 := by unfold subS; split; exact ofZ_sz _; exact len_szS zeroS_len (by decide)
theorem mulS_sz (x y : SI) : szS (mulS x y) ≤ 1048576 := by unfold mulS; split; exact ofZ_sz _; exact len_szS zeroS_len (by decide)

theorem lawIntOk (va : Value) (a : SI) (w : World)
    (hI : a.2.length ≤ 1048576 → ∀ (ua : Value) (W : World), OwnS ua a W → Calls Try.prog 17 #[ua] W (Postb (okS a) W))
    (hma : a.2.length ≤ 9223372036854775807) (ra : RdS w va a) :
    Calls Try.prog 3 #[va] w fun e w' => e = .returned (.bool true) ∧ Below w.heap.size w w' := by
  by_cases hl : szS a ≤ 1048576
  · have hla : a.2.length ≤ 1048576 := by unfold szS szI at hl; omega
    exact lawIntOk_walk va a (okS a) w (fun ua W ha => specIntOk_any ua a W hla ha.rd) (hI hla) hl  ra
  · obtain ⟨ua, rfl, qa⟩ := ra
    obtain ⟨Aa, ca, rfl⟩ := row_form qa
    rw [intsV_length] at qa
    have hsa : 0 ≤ szS a := by unfold szS szI; omega
    rw [intsV_length]
    have bb0 : Below w.heap.size w (w.alloc (.cells #[.bool a.1, .slice Aa a.2.length ca] 24)) := below_al (Below.refl _ _) _
    go_enter Try.func3, Try.ntmps3
    go_wp2_with fail
    refine (szSigned_at _ a 1048576 _ hma (by omega) (by omega) (rdS_below qa bb0)).mono ?_
    rintro e w1 ⟨rfl, b1⟩
    rw [show leftI 1048576 (szS a) = -1 by unfold leftI; rw [if_pos (by omega)]]
    have bb1 := Below.next bb0 b1
    go_wp2
    go_ret
    exact ⟨rfl, bb1⟩

theorem lawIntOf  (k : Int) (w : World) (h0 : -9223372036854775808 ≤ k) (h1 : k ≤ 9223372036854775807)
    (hI : ∀  (W : World), Calls Try.prog 20 #[.int .i64 k] W (NewS (ofZ k) W))
      :
    Calls Try.prog 4 #[(.int .i64 k)] w fun e w' => e = .returned (.bool true) ∧ Below w.heap.size w w' := by
  exact lawIntOf_walk  k (ofZ k) w (fun  W  => specIntOf_any k W h0 h1) (hI )  (ofZ_sz k) 

theorem lawIntNum (va : Value) (a : SI) (w : World)
    (hI : a.2.length ≤ 1048576 → ∀ (ua : Value) (W : World), OwnS ua a W → Calls Try.prog 24 #[ua] W (Postnb ((numS a).1) ((numS a).2) W))
    (hma : a.2.length ≤ 9223372036854775807) (ra : RdS w va a) :
    Calls Try.prog 5 #[va] w fun e w' => e = .returned (.bool true) ∧ Below w.heap.size w w' := by
  by_cases hl : szS a ≤ 1048576
  · have hla : a.2.length ≤ 1048576 := by unfold szS szI at hl; omega
    exact lawIntNum_walk va a ((numS a).1) ((numS a).2) w (fun ua W ha => specIntNum_any ua a W hla ha) (hI hla) hl  ra
  · obtain ⟨ua, rfl, qa⟩ := ra
    obtain ⟨Aa, ca, rfl⟩ := row_form qa
    rw [intsV_length] at qa
    have hsa : 0 ≤ szS a := by unfold szS szI; omega
    rw [intsV_length]
    have bb0 : Below w.heap.size w (w.alloc (.cells #[.bool a.1, .slice Aa a.2.length ca] 24)) := below_al (Below.refl _ _) _
    go_enter Try.func5, Try.ntmps5
    go_wp2_with fail
    refine (szSigned_at _ a 1048576 _ hma (by omega) (by omega) (rdS_below qa bb0)).mono ?_
    rintro e w1 ⟨rfl, b1⟩
    rw [show leftI 1048576 (szS a) = -1 by unfold leftI; rw [if_pos (by omega)]]
    have bb1 := Below.next bb0 b1
    go_wp2
    go_ret
    exact ⟨rfl, bb1⟩

theorem lawIntNeg (va : Value) (a : SI) (w : World)
    (hI : a.2.length ≤ 1048576 → ∀ (ua : Value) (W : World), OwnS ua a W → Calls Try.prog 26 #[ua] W (NewS (negS a) W))
    (hma : a.2.length ≤ 9223372036854775807) (ra : RdS w va a) :
    Calls Try.prog 6 #[va] w fun e w' => e = .returned (.bool true) ∧ Below w.heap.size w w' := by
  by_cases hl : szS a ≤ 1048576
  · have hla : a.2.length ≤ 1048576 := by unfold szS szI at hl; omega
    exact lawIntNeg_walk va a (negS a) w (fun ua W ha => specIntNeg_any ua a W hla ha) (hI hla) hl (negS_sz a) ra
  · obtain ⟨ua, rfl, qa⟩ := ra
    obtain ⟨Aa, ca, rfl⟩ := row_form qa
    rw [intsV_length] at qa
    have hsa : 0 ≤ szS a := by unfold szS szI; omega
    rw [intsV_length]
    have bb0 : Below w.heap.size w (w.alloc (.cells #[.bool a.1, .slice Aa a.2.length ca] 24)) := below_al (Below.refl _ _) _
    go_enter Try.func6, Try.ntmps6
    go_wp2_with fail
    refine (szSigned_at _ a 1048576 _ hma (by omega) (by omega) (rdS_below qa bb0)).mono ?_
    rintro e w1 ⟨rfl, b1⟩
    rw [show leftI 1048576 (szS a) = -1 by unfold leftI; rw [if_pos (by omega)]]
    have bb1 := Below.next bb0 b1
    go_wp2
    go_ret
    exact ⟨rfl, bb1⟩

theorem lawIntAbs (va : Value) (a : SI) (w : World)
    (hI : a.2.length ≤ 1048576 → ∀ (ua : Value) (W : World), OwnS ua a W → Calls Try.prog 28 #[ua] W (NewS (absS a) W))
    (hma : a.2.length ≤ 9223372036854775807) (ra : RdS w va a) :
    Calls Try.prog 7 #[va] w fun e w' => e = .returned (.bool true) ∧ Below w.heap.size w w' := by
  by_cases hl : szS a ≤ 1048576
  · have hla : a.2.length ≤ 1048576 := by unfold szS szI at hl; omega
    exact lawIntAbs_walk va a (absS a) w (fun ua W ha => specIntAbs_any ua a W hla ha) (hI hla) hl (absS_sz a) ra
  · obtain ⟨ua, rfl, qa⟩ := ra
    obtain ⟨Aa, ca, rfl⟩ := row_form qa
    rw [intsV_length] at qa
    have hsa : 0 ≤ szS a := by unfold szS szI; omega
    rw [intsV_length]
    have bb0 : Below w.heap.size w (w.alloc (.cells #[.bool a.1, .slice Aa a.2.length ca] 24)) := below_al (Below.refl _ _) _
    go_enter Try.func7, Try.ntmps7
    go_wp2_with fail
    refine (szSigned_at _ a 1048576 _ hma (by omega) (by omega) (rdS_below qa bb0)).mono ?_
    rintro e w1 ⟨rfl, b1⟩
    rw [show leftI 1048576 (szS a) = -1 by unfold leftI; rw [if_pos (by omega)]]
    have bb1 := Below.next bb0 b1
    go_wp2
    go_ret
    exact ⟨rfl, bb1⟩

theorem lawIntAdd (va : Value) (vb : Value) (a : SI) (b : SI) (w : World)
    (hI : a.2.length ≤ 1048576 → b.2.length ≤ 1048576 → ∀ (ua : Value) (ub : Value) (W : World), OwnS ua a W → OwnS ub b W → Calls Try.prog 30 #[ua, ub] W (NewS (addS a b) W))
    (hma : a.2.length ≤ 9223372036854775807) (hmb : b.2.length ≤ 9223372036854775807) (ra : RdS w va a) (rb : RdS w vb b) :
    Calls Try.prog 8 #[va, vb] w fun e w' => e = .returned (.bool true) ∧ Below w.heap.size w w' := by
  by_cases hl : szS a + szS b ≤ 1048576
  · have hla : a.2.length ≤ 1048576 := by unfold szS szI at hl; omega
    have hlb : b.2.length ≤ 1048576 := by unfold szS szI at hl; omega
    exact lawIntAdd_walk va vb a b (addS a b) w (fun ua ub W ha hb => specIntAdd_any ua ub a b W hla hlb ha hb) (hI hla hlb) hl (addS_sz a b) ra rb
  · obtain ⟨ua, rfl, qa⟩ := ra
    obtain ⟨Aa, ca, rfl⟩ := row_form qa
    rw [intsV_length] at qa
    have hsa : 0 ≤ szS a := by unfold szS szI; omega
    obtain ⟨ub, rfl, qb⟩ := rb
    obtain ⟨Ab, cb, rfl⟩ := row_form qb
    rw [intsV_length] at qb
    have hsb : 0 ≤ szS b := by unfold szS szI; omega
    rw [intsV_length]
    rw [intsV_length]
    have bb0 : Below w.heap.size w ((w.alloc (.cells #[.bool a.1, .slice Aa a.2.length ca] 24)).alloc (.cells #[.bool b.1, .slice Ab b.2.length cb] 24)) := below_al (below_al (Below.refl _ _) _) _
    have kb := box_new (w.alloc (.cells #[.bool a.1, .slice Aa a.2.length ca] 24)) #[.bool b.1, .slice Ab b.2.length cb] 24
    rw [show (w.alloc (.cells #[.bool a.1, .slice Aa a.2.length ca] 24)).heap.size = w.heap.size + 1 by simp] at kb
    by_cases hba : szS a ≤ 1048576
    · go_enter Try.func8, Try.ntmps8
      go_wp2_with fail
      refine (szSigned_at _ a 1048576 _ hma (by omega) (by omega) (rdS_below qa bb0)).mono ?_
      rintro e w1 ⟨rfl, b1⟩
      rw [leftI_of (by omega)]
      have bb1 := Below.next bb0 b1
      replace kb := kb.below b1
      have cb0 := kb.here.cell 0 _ rfl
      have cb1 := kb.here.cell 1 _ rfl
      have hn : decide ((1048576 : Int) - szS a < 0) = false := decide_eq_false (by omega)
      go_wp2_with fail
      refine (szSigned_at _ b (1048576 - szS a) _ hmb (by omega) (by omega) (rdS_below qb bb1)).mono ?_
      rintro e w2 ⟨rfl, b2⟩
      rw [show leftI (1048576 - szS a) (szS b) = -1 by unfold leftI; rw [if_pos (by omega)]]
      have bb2 := Below.next bb1 b2
      clear hn
      go_wp2
      go_ret
      exact ⟨rfl, bb2⟩
    · go_enter Try.func8, Try.ntmps8
      go_wp2_with fail
      refine (szSigned_at _ a 1048576 _ hma (by omega) (by omega) (rdS_below qa bb0)).mono ?_
      rintro e w1 ⟨rfl, b1⟩
      rw [show leftI 1048576 (szS a) = -1 by unfold leftI; rw [if_pos (by omega)]]
      have bb1 := Below.next bb0 b1
      go_wp2
      go_ret
      exact ⟨rfl, bb1⟩

theorem lawIntSub (va : Value) (vb : Value) (a : SI) (b : SI) (w : World)
    (hI : a.2.length ≤ 1048576 → b.2.length ≤ 1048576 → ∀ (ua : Value) (ub : Value) (W : World), OwnS ua a W → OwnS ub b W → Calls Try.prog 32 #[ua, ub] W (NewS (subS a b) W))
    (hma : a.2.length ≤ 9223372036854775807) (hmb : b.2.length ≤ 9223372036854775807) (ra : RdS w va a) (rb : RdS w vb b) :
    Calls Try.prog 9 #[va, vb] w fun e w' => e = .returned (.bool true) ∧ Below w.heap.size w w' := by
  by_cases hl : szS a + szS b ≤ 1048576
  · have hla : a.2.length ≤ 1048576 := by unfold szS szI at hl; omega
    have hlb : b.2.length ≤ 1048576 := by unfold szS szI at hl; omega
    exact lawIntSub_walk va vb a b (subS a b) w (fun ua ub W ha hb => specIntSub_any ua ub a b W hla hlb ha hb) (hI hla hlb) hl (subS_sz a b) ra rb
  · obtain ⟨ua, rfl, qa⟩ := ra
    obtain ⟨Aa, ca, rfl⟩ := row_form qa
    rw [intsV_length] at qa
    have hsa : 0 ≤ szS a := by unfold szS szI; omega
    obtain ⟨ub, rfl, qb⟩ := rb
    obtain ⟨Ab, cb, rfl⟩ := row_form qb
    rw [intsV_length] at qb
    have hsb : 0 ≤ szS b := by unfold szS szI; omega
    rw [intsV_length]
    rw [intsV_length]
    have bb0 : Below w.heap.size w ((w.alloc (.cells #[.bool a.1, .slice Aa a.2.length ca] 24)).alloc (.cells #[.bool b.1, .slice Ab b.2.length cb] 24)) := below_al (below_al (Below.refl _ _) _) _
    have kb := box_new (w.alloc (.cells #[.bool a.1, .slice Aa a.2.length ca] 24)) #[.bool b.1, .slice Ab b.2.length cb] 24
    rw [show (w.alloc (.cells #[.bool a.1, .slice Aa a.2.length ca] 24)).heap.size = w.heap.size + 1 by simp] at kb
    by_cases hba : szS a ≤ 1048576
    · go_enter Try.func9, Try.ntmps9
      go_wp2_with fail
      refine (szSigned_at _ a 1048576 _ hma (by omega) (by omega) (rdS_below qa bb0)).mono ?_
      rintro e w1 ⟨rfl, b1⟩
      rw [leftI_of (by omega)]
      have bb1 := Below.next bb0 b1
      replace kb := kb.below b1
      have cb0 := kb.here.cell 0 _ rfl
      have cb1 := kb.here.cell 1 _ rfl
      have hn : decide ((1048576 : Int) - szS a < 0) = false := decide_eq_false (by omega)
      go_wp2_with fail
      refine (szSigned_at _ b (1048576 - szS a) _ hmb (by omega) (by omega) (rdS_below qb bb1)).mono ?_
      rintro e w2 ⟨rfl, b2⟩
      rw [show leftI (1048576 - szS a) (szS b) = -1 by unfold leftI; rw [if_pos (by omega)]]
      have bb2 := Below.next bb1 b2
      clear hn
      go_wp2
      go_ret
      exact ⟨rfl, bb2⟩
    · go_enter Try.func9, Try.ntmps9
      go_wp2_with fail
      refine (szSigned_at _ a 1048576 _ hma (by omega) (by omega) (rdS_below qa bb0)).mono ?_
      rintro e w1 ⟨rfl, b1⟩
      rw [show leftI 1048576 (szS a) = -1 by unfold leftI; rw [if_pos (by omega)]]
      have bb1 := Below.next bb0 b1
      go_wp2
      go_ret
      exact ⟨rfl, bb1⟩

theorem lawIntMul (va : Value) (vb : Value) (a : SI) (b : SI) (w : World)
    (hI : a.2.length ≤ 1048576 → b.2.length ≤ 1048576 → ∀ (ua : Value) (ub : Value) (W : World), OwnS ua a W → OwnS ub b W → Calls Try.prog 34 #[ua, ub] W (NewS (mulS a b) W))
    (hma : a.2.length ≤ 9223372036854775807) (hmb : b.2.length ≤ 9223372036854775807) (ra : RdS w va a) (rb : RdS w vb b) :
    Calls Try.prog 10 #[va, vb] w fun e w' => e = .returned (.bool true) ∧ Below w.heap.size w w' := by
  by_cases hl : szS a + szS b ≤ 1048576
  · have hla : a.2.length ≤ 1048576 := by unfold szS szI at hl; omega
    have hlb : b.2.length ≤ 1048576 := by unfold szS szI at hl; omega
    exact lawIntMul_walk va vb a b (mulS a b) w (fun ua ub W ha hb => specIntMul_any ua ub a b W hla hlb ha hb) (hI hla hlb) hl (mulS_sz a b) ra rb
  · obtain ⟨ua, rfl, qa⟩ := ra
    obtain ⟨Aa, ca, rfl⟩ := row_form qa
    rw [intsV_length] at qa
    have hsa : 0 ≤ szS a := by unfold szS szI; omega
    obtain ⟨ub, rfl, qb⟩ := rb
    obtain ⟨Ab, cb, rfl⟩ := row_form qb
    rw [intsV_length] at qb
    have hsb : 0 ≤ szS b := by unfold szS szI; omega
    rw [intsV_length]
    rw [intsV_length]
    have bb0 : Below w.heap.size w ((w.alloc (.cells #[.bool a.1, .slice Aa a.2.length ca] 24)).alloc (.cells #[.bool b.1, .slice Ab b.2.length cb] 24)) := below_al (below_al (Below.refl _ _) _) _
    have kb := box_new (w.alloc (.cells #[.bool a.1, .slice Aa a.2.length ca] 24)) #[.bool b.1, .slice Ab b.2.length cb] 24
    rw [show (w.alloc (.cells #[.bool a.1, .slice Aa a.2.length ca] 24)).heap.size = w.heap.size + 1 by simp] at kb
    by_cases hba : szS a ≤ 1048576
    · go_enter Try.func10, Try.ntmps10
      go_wp2_with fail
      refine (szSigned_at _ a 1048576 _ hma (by omega) (by omega) (rdS_below qa bb0)).mono ?_
      rintro e w1 ⟨rfl, b1⟩
      rw [leftI_of (by omega)]
      have bb1 := Below.next bb0 b1
      replace kb := kb.below b1
      have cb0 := kb.here.cell 0 _ rfl
      have cb1 := kb.here.cell 1 _ rfl
      have hn : decide ((1048576 : Int) - szS a < 0) = false := decide_eq_false (by omega)
      go_wp2_with fail
      refine (szSigned_at _ b (1048576 - szS a) _ hmb (by omega) (by omega) (rdS_below qb bb1)).mono ?_
      rintro e w2 ⟨rfl, b2⟩
      rw [show leftI (1048576 - szS a) (szS b) = -1 by unfold leftI; rw [if_pos (by omega)]]
      have bb2 := Below.next bb1 b2
      clear hn
      go_wp2
      go_ret
      exact ⟨rfl, bb2⟩
    · go_enter Try.func10, Try.ntmps10
      go_wp2_with fail
      refine (szSigned_at _ a 1048576 _ hma (by omega) (by omega) (rdS_below qa bb0)).mono ?_
      rintro e w1 ⟨rfl, b1⟩
      rw [show leftI 1048576 (szS a) = -1 by unfold leftI; rw [if_pos (by omega)]]
      have bb1 := Below.next bb0 b1
      go_wp2
      go_ret
      exact ⟨rfl, bb1⟩

theorem lawIntCmp (va : Value) (vb : Value) (a : SI) (b : SI) (w : World)
    (hI : a.2.length ≤ 1048576 → b.2.length ≤ 1048576 → ∀ (ua : Value) (ub : Value) (W : World), OwnS ua a W → OwnS ub b W → Calls Try.prog 36 #[ua, ub] W (Postn (cmpS a b) W))
    (hma : a.2.length ≤ 9223372036854775807) (hmb : b.2.length ≤ 9223372036854775807) (ra : RdS w va a) (rb : RdS w vb b) :
    Calls Try.prog 11 #[va, vb] w fun e w' => e = .returned (.bool true) ∧ Below w.heap.size w w' := by
  by_cases hl : szS a + szS b ≤ 1048576
  · have hla : a.2.length ≤ 1048576 := by unfold szS szI at hl; omega
    have hlb : b.2.length ≤ 1048576 := by unfold szS szI at hl; omega
    exact lawIntCmp_walk va vb a b (cmpS a b) w (fun ua ub W ha hb => specIntCmp_any ua ub a b W hla hlb ha hb) (hI hla hlb) hl  ra rb
  · obtain ⟨ua, rfl, qa⟩ := ra
    obtain ⟨Aa, ca, rfl⟩ := row_form qa
    rw [intsV_length] at qa
    have hsa : 0 ≤ szS a := by unfold szS szI; omega
    obtain ⟨ub, rfl, qb⟩ := rb
    obtain ⟨Ab, cb, rfl⟩ := row_form qb
    rw [intsV_length] at qb
    have hsb : 0 ≤ szS b := by unfold szS szI; omega
    rw [intsV_length]
    rw [intsV_length]
    have bb0 : Below w.heap.size w ((w.alloc (.cells #[.bool a.1, .slice Aa a.2.length ca] 24)).alloc (.cells #[.bool b.1, .slice Ab b.2.length cb] 24)) := below_al (below_al (Below.refl _ _) _) _
    have kb := box_new (w.alloc (.cells #[.bool a.1, .slice Aa a.2.length ca] 24)) #[.bool b.1, .slice Ab b.2.length cb] 24
    rw [show (w.alloc (.cells #[.bool a.1, .slice Aa a.2.length ca] 24)).heap.size = w.heap.size + 1 by simp] at kb
    by_cases hba : szS a ≤ 1048576
    · go_enter Try.func11, Try.ntmps11
      go_wp2_with fail
      refine (szSigned_at _ a 1048576 _ hma (by omega) (by omega) (rdS_below qa bb0)).mono ?_
      rintro e w1 ⟨rfl, b1⟩
      rw [leftI_of (by omega)]
      have bb1 := Below.next bb0 b1
      replace kb := kb.below b1
      have cb0 := kb.here.cell 0 _ rfl
      have cb1 := kb.here.cell 1 _ rfl
      have hn : decide ((1048576 : Int) - szS a < 0) = false := decide_eq_false (by omega)
      go_wp2_with fail
      refine (szSigned_at _ b (1048576 - szS a) _ hmb (by omega) (by omega) (rdS_below qb bb1)).mono ?_
      rintro e w2 ⟨rfl, b2⟩
      rw [show leftI (1048576 - szS a) (szS b) = -1 by unfold leftI; rw [if_pos (by omega)]]
      have bb2 := Below.next bb1 b2
      clear hn
      go_wp2
      go_ret
      exact ⟨rfl, bb2⟩
    · go_enter Try.func11, Try.ntmps11
      go_wp2_with fail
      refine (szSigned_at _ a 1048576 _ hma (by omega) (by omega) (rdS_below qa bb0)).mono ?_
      rintro e w1 ⟨rfl, b1⟩
      rw [show leftI 1048576 (szS a) = -1 by unfold leftI; rw [if_pos (by omega)]]
      have bb1 := Below.next bb0 b1
      go_wp2
      go_ret
      exact ⟨rfl, bb1⟩

theorem lawIntSign (va : Value) (a : SI) (w : World)
    (hI : a.2.length ≤ 1048576 → ∀ (ua : Value) (W : World), OwnS ua a W → Calls Try.prog 38 #[ua] W (Postn (cmpS a zeroS) W))
    (hma : a.2.length ≤ 9223372036854775807) (ra : RdS w va a) :
    Calls Try.prog 12 #[va] w fun e w' => e = .returned (.bool true) ∧ Below w.heap.size w w' := by
  by_cases hl : szS a ≤ 1048576
  · have hla : a.2.length ≤ 1048576 := by unfold szS szI at hl; omega
    exact lawIntSign_walk va a (cmpS a zeroS) w (fun ua W ha => specIntSign_any ua a W hla ha) (hI hla) hl  ra
  · obtain ⟨ua, rfl, qa⟩ := ra
    obtain ⟨Aa, ca, rfl⟩ := row_form qa
    rw [intsV_length] at qa
    have hsa : 0 ≤ szS a := by unfold szS szI; omega
    rw [intsV_length]
    have bb0 : Below w.heap.size w (w.alloc (.cells #[.bool a.1, .slice Aa a.2.length ca] 24)) := below_al (Below.refl _ _) _
    go_enter Try.func12, Try.ntmps12
    go_wp2_with fail
    refine (szSigned_at _ a 1048576 _ hma (by omega) (by omega) (rdS_below qa bb0)).mono ?_
    rintro e w1 ⟨rfl, b1⟩
    rw [show leftI 1048576 (szS a) = -1 by unfold leftI; rw [if_pos (by omega)]]
    have bb1 := Below.next bb0 b1
    go_wp2
    go_ret
    exact ⟨rfl, bb1⟩

end Go.Proofs.Ytecaghbakjalgaa
