/-
  For all arguments the law FnExactTaxRateOk of chapter 14 returns true; no conditions.
-/
import Derived.Test.YtofehcpapdlcnaaDecLawTaxRateOk
import Derived.Test.YtofehcpapdlcnaaTaxOkS
import Derived.Test.YtofehcpapdlcnaaTaxOkI
import Derived.Test.YtofehcpapdlcnaaDecArg
namespace Go.Proofs.Ytofehcpapdlcnaa
open Go.ChangeShapes Go.WideShapes Go.ChangeAt Go.RowKit
open Go.ChangeMaps (open_string shut_string)

set_option maxHeartbeats 1000000 in
set_option maxRecDepth 100000 in
theorem lawTaxRateOk (va : Value) (a : DI) (w : World)
    (hI : szD a ≤ 1048576 → ∀ (ua : Value) (W : World), OwnD ua a W → Calls Try.prog 7 #[ua] W (Postb (taxB a) W))
    (hca : capD a)  (ra : RdD w va a) :
    Calls Try.prog 3 #[va] w fun e w' => e = .returned (.bool true) ∧ Below w.heap.size w w' := by
  have hsa := szD_nonneg a
  by_cases hl : szD a ≤ 1048576
  · skip
    have hla : szD a ≤ 1048576 := by omega
    exact lawTaxRateOk_walk va a (taxB a) w (fun ua W ha => specTaxRateOk_any ua a W (szD_len hla) ha) (hI hla)  hl  ra
  · skip
    obtain ⟨Aa, ca, rfl⟩ := rdD_form ra
    have bb0 : Below w.heap.size w (w.alloc (.cells #[.bool a.1.1, .slice Aa a.1.2.length ca, .int .i64 a.2] 26)) := below_al (Below.refl _ _) _
    have ka := (box_new w #[.bool a.1.1, .slice Aa a.1.2.length ca, .int .i64 a.2] 26)
    go_enter Try.func3, Try.ntmps3
    have ka_c0 := ka.here.cell 0 _ rfl
    have ka_c1 := ka.here.cell 1 _ rfl
    have ka_c2 := ka.here.cell 2 _ rfl
    go_wp2_with fail
    clear ka_c0 ka_c1 ka_c2
    refine (szD_cal _ a (1048576) _ hca (by omega) (by omega) (ra.below bb0)).mono ?_
    rintro e w1 ⟨rfl, b1⟩
    have bb1 := Below.next bb0 b1
    replace ka := ka.below b1
    rw [show leftI (1048576) (szD a) = -1 by unfold leftI; rw [if_pos (by omega)]]
    go_wp2
    go_ret
    exact ⟨rfl, bb1⟩
set_option maxRecDepth 100000 in
theorem fnExactTaxRateOk_lifted (os : Os) (started : os.Started) (H : Type) (enc : TypeId × Value → H) :
    ReturnsInHanded {} Try.checked os 3 .any (Rows.fnExactTaxRateOkSpec.pre6 enc Try.prog Try.f3 Rows.fnExactTaxRateOkRow.domain false) (Rows.fnExactTaxRateOkSpec.post enc Try.prog Try.f3 false true false false) := by
  refine law_lifted started (by kernel_rfl) Try.func3 (by kernel_rfl) (tb := 4) (by kernel_rfl) Try.underlying4 rfl
    (ChangeSpec.witness6 (enc := enc) (C := Try.checked) false ⟨#[], #[.agg #[.bool false, .slice none 0 0, .int .i64 0]], []⟩ 8 (by kernel_rfl) (by kernel_rfl) (by kernel_rfl) (by kernel_rfl)) ?_
  intro W base args ds p hval hA _ _
  rw [Try.params3] at hA hval
  obtain ⟨v0, d0, rfl, rfl, h0⟩ := trodAll_one hA
  obtain ⟨a, ra, ma, ia⟩ := arg_dec (hval 0 26 v0 rfl rfl) h0
  unfold maxLen at ma
  have hca : capD a := by unfold capD; omega
  exact ⟨rfl, lawTaxRateOk v0 a W (fun hla ua W ha => implTaxRateOk_any ua a W (szD_len hla) ha) hca ra⟩

theorem fnExactTaxRateOk_holds : Rows.FnExactTaxRateOkSaid :=
  OpenClaim.holds_of_wide 3 Try.f3 rfl rfl rfl rfl rfl rfl rfl ⟨rfl, rfl, rfl, rfl, rfl⟩ rfl rfl rfl rfl rfl (by kernel_rfl) Try.func3 (by kernel_rfl)
    (of_decide_eq_true (by kernel_rfl)) (by unfold Func.isWrapper; first | (rw [if_pos (by decide +kernel)]; kernel_rfl) | (rw [if_neg (by decide +kernel)]; exact ⟨rfl, rfl⟩))
    (fun os started H enc _ => fnExactTaxRateOk_lifted os started H enc)
end Go.Proofs.Ytofehcpapdlcnaa
