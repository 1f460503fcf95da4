/-
  The law FnExactRatZero of chapter 6 returns true; no conditions.
-/
import Derived.Test.YtkkdlgiilhngcaaRatLawRatZero
import Derived.Test.YtkkdlgiilhngcaaLaw
import Derived.Test.YtkkdlgiilhngcaaArgs
import Derived.Test.YtkkdlgiilhngcaaNatImpl
import Derived.Laws.OwnMore
namespace Go.Proofs.Ytkkdlgiilhngcaa
open Go.ChangeShapes Go.WideShapes Go.ChangeAt Go.RowKit

theorem one_limbs : limbs 1 = [1] := by rw [limbs, dif_neg (by decide), show 1 / 1000000000 = 0 from rfl, limbs, dif_pos rfl]; rfl
theorem newQb_ret {r : Nat} {u d c0 c1 c2 : Value} {x : QI} {b : Bool} {w W : World} {B C : Nat} (hb : BoxAt r #[c0, c1, c2] 26 W) (o : W.ownsRow B 3 1 u x.1.2.length (intsV x.1.2)) (p : W.ownsRow C 3 1 d x.2.length (intsV x.2))
    (hap : ∀ g, u.ownBlock = some g → d.ownBlock ≠ some g) (hB : w.heap.size ≤ B) (hC : w.heap.size ≤ C) (hr : w.heap.size ≤ r) (hW : Below w.heap.size w W) :
    PostQb x b w (.returned (.tuple #[.agg #[.bool x.1.1, u, d], .bool b])) (((W.setCell ⟨r, 0, none⟩ (.bool x.1.1)).setCell ⟨r, 1, none⟩ u).setCell ⟨r, 2, none⟩ d) := by
  have hn1 := Lib.ownBlock_ne o hb (by decide)
  have hn2 := Lib.ownBlock_ne p hb (by decide)
  have hc : Chg [r] W (((W.setCell ⟨r, 0, none⟩ (.bool x.1.1)).setCell ⟨r, 1, none⟩ u).setCell ⟨r, 2, none⟩ d) := (((Chg.refl _ _).setCell (by simp) _).setCell (by simp) _).setCell (by simp) _
  have hz := hc.size
  refine ⟨_, partsB u d, rfl, (partsQ_at o p hap).chg hc (fun i hi hm => ?_), fun i hi => ?_, below_set3 hW hr⟩
  · simp at hm
    subst hm
    rcases List.mem_append.1 hi with hi | hi
    · exact hn1 (by simpa using hi)
    · exact hn2 (by simpa using hi)
  · rcases List.mem_append.1 hi with hi | hi
    · have := own_lt o (g := i) (by simpa using hi)
      omega
    · have := own_lt p (g := i) (by simpa using hi)
      omega
theorem newQ_ret {r : Nat} {u d c0 c1 c2 : Value} {x : QI} {w W : World} {B C : Nat} (hb : BoxAt r #[c0, c1, c2] 26 W) (o : W.ownsRow B 3 1 u x.1.2.length (intsV x.1.2)) (p : W.ownsRow C 3 1 d x.2.length (intsV x.2))
    (hap : ∀ g, u.ownBlock = some g → d.ownBlock ≠ some g) (hB : w.heap.size ≤ B) (hC : w.heap.size ≤ C) (hr : w.heap.size ≤ r) (hW : Below w.heap.size w W) :
    NewV (fun v => OwnQ v x) w (.returned (.agg #[.bool x.1.1, u, d])) (((W.setCell ⟨r, 0, none⟩ (.bool x.1.1)).setCell ⟨r, 1, none⟩ u).setCell ⟨r, 2, none⟩ d) := by
  obtain ⟨v, S, e, k1, k2, k3⟩ := newQb_ret (b := true) hb o p hap hB hC hr hW
  refine ⟨v, S, ?_, k1, k2, k3⟩
  injection e with e
  injection e with e
  simp at e
  rw [e]
set_option maxHeartbeats 1000000 in
set_option maxRecDepth 100000 in
theorem specRatZero_any (w : World) : Calls Try.prog 4 #[] w (NewV (fun v => OwnQ v oneQ) w) := by
  have hs : (w.alloc (.cells #[.bool false, .slice none 0 0, .slice (some ⟨w.heap.size + 1, 0, none⟩) 1 1] 26)).heap.size = w.heap.size + 1 := by simp
  have od : ((w.alloc (.cells #[.bool false, .slice none 0 0, .slice (some ⟨w.heap.size + 1, 0, none⟩) 1 1] 26)).alloc (.cells #[.int .i64 1] 3)).ownsRow w.heap.size 3 1 (.slice (some ⟨w.heap.size + 1, 0, none⟩) 1 1) 1 [.int .i64 1] := by
    have h := World.ownsRow_lit (base := w.heap.size) (e := 3) (size := 1) (w.alloc (.cells #[.bool false, .slice none 0 0, .slice (some ⟨w.heap.size + 1, 0, none⟩) 1 1] 26)) #[.int .i64 1] 1 (by omega) (by unfold maxLen; omega) rfl
    rw [hs] at h
    exact h
  have bb := below_al (below_al (Below.refl w.heap.size w) (.cells #[.bool false, .slice none 0 0, .slice (some ⟨w.heap.size + 1, 0, none⟩) 1 1] 26)) (.cells #[.int .i64 1] 3)
  have HR := Lib.hid (show NewV (fun v => OwnQ v oneQ) w (.returned (.agg #[.bool false, .slice none 0 0, .slice (some ⟨w.heap.size + 1, 0, none⟩) 1 1])) _ from
    ⟨_, _, rfl, partsQ_at (x := oneQ) (World.ownsRow_nil _ 0 _ _) od (fun g hg => by cases hg), (fun g hg => by
      rcases List.mem_append.1 hg with hg | hg
      · cases hg
      · exact own_within od g hg), bb⟩)
  clear od bb hs
  go_enter Try.func4, Try.ntmps4
  go_wp2
  refine bodyPost_ret (v := .agg #[.bool false, .slice none 0 0, .slice (some ⟨w.heap.size + 1, 0, none⟩) 1 1]) (by simp [results, Try.results4, go_sem]) rfl ?_
  exact HR.out
set_option maxHeartbeats 1000000 in
set_option maxRecDepth 100000 in
theorem implRatZero_any (w : World) : Calls Try.prog 5 #[] w (NewV (fun v => OwnQ v oneQ) w) := by
  have bb0 : Below w.heap.size w (w.alloc (.cells #[.bool false, .slice none 0 0, .slice none 0 0] 26)) := below_al (Below.refl _ _) _
  have ko := box_new w #[.bool false, .slice none 0 0, .slice none 0 0] 26
  go_enter Try.func5, Try.ntmps5
  go_wp2_with fail
  refine (implNatOf_any 1 _ (by decide)).mono ?_
  rintro e w1 ⟨v1, rfl, o1, b1⟩
  rw [show (1 : Int).toNat = 1 from rfl, one_limbs] at o1
  obtain ⟨A1, c1, rfl⟩ := own_len o1
  have bb1 := Below.next bb0 b1
  replace ko := ko.below b1
  have HR := Lib.hid (newQ_ret (x := oneQ) (u := .slice none 0 0) (B := w.heap.size) (w := w) ko.here (World.ownsRow_nil _ _ _ _) o1 (fun g hg => by cases hg) (Nat.le_refl _) bb0.size (Nat.le_refl _) bb1)
  have cz0 := ko.here.cell 0 _ rfl
  have cz1 := ko.here.cell 1 _ rfl
  have cz2 := ko.here.cell 2 _ rfl
  have fz0 := Lib.frozen_of_heap ko.here 0
  have fz1 := Lib.frozen_of_heap ko.here 1
  have fz2 := Lib.frozen_of_heap ko.here 2
  clear ko o1
  go_wp2
  refine bodyPost_ret (v := .agg #[.bool false, .slice none 0 0, .slice A1 _ c1]) (by simp [results, Try.results5, go_sem, cz0, cz1, cz2]; rfl) rfl ?_
  exact HR.out
theorem lawRatZero (w : World) : Calls Try.prog 3 #[] w fun e w' => e = .returned (.bool true) ∧ Below w.heap.size w w' :=
  lawRatZero_walk oneQ w (fun W => specRatZero_any W) (fun W => implRatZero_any W) (by decide)
set_option maxRecDepth 100000 in
theorem fnExactRatZero_lifted (os : Os) (started : os.Started) (H : Type) (enc : TypeId × Value → H) :
    ReturnsInHanded {} Try.checked os 3 .any (Rows.fnExactRatZeroSpec.pre6 enc Try.prog Try.f3 Rows.fnExactRatZeroRow.domain false) (Rows.fnExactRatZeroSpec.post enc Try.prog Try.f3 false true false false) := by
  refine law_lifted started (by kernel_rfl) Try.func3 (by kernel_rfl) (tb := 4) (by kernel_rfl) Try.underlying4 rfl
    (ChangeSpec.witness6 (enc := enc) (C := Try.checked) false ⟨#[], #[], []⟩ 8 (by kernel_rfl) (by kernel_rfl) (by kernel_rfl) (by kernel_rfl)) ?_
  intro W base args ds p hval hA _ _
  rw [Try.params3] at hA hval
  obtain ⟨rfl, rfl, rfl⟩ := trodAll_none hA
  exact ⟨rfl, lawRatZero W⟩

theorem fnExactRatZero_holds : Rows.FnExactRatZeroSaid :=
  OpenClaim.holds_of_wide 3 Try.f3 rfl rfl rfl rfl rfl rfl rfl ⟨rfl, rfl, rfl, rfl, rfl⟩ rfl rfl rfl rfl rfl (by kernel_rfl) Try.func3 (by kernel_rfl)
    (of_decide_eq_true (by kernel_rfl)) (by unfold Func.isWrapper; first | (rw [if_pos (by decide +kernel)]; kernel_rfl) | (rw [if_neg (by decide +kernel)]; exact ⟨rfl, rfl⟩))
    (fun os started H enc _ => fnExactRatZero_lifted os started H enc)
end Go.Proofs.Ytkkdlgiilhngcaa
