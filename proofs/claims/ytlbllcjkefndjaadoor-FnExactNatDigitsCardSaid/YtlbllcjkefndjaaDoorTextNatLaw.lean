/-
  The law of TextNat, walked over the contracts of both packages; the number tables of the library are at hand.
-/
import Derived.Test.YtlbllcjkefndjaaDoorTextNatImpl
namespace Go.Proofs.YtlbllcjkefndjaaDoor
open Go.RowKit

set_option maxHeartbeats 800000 in
theorem lawTextNat_small (implTextNat_any : ∀ (s : ByteArray) (w : World), s.size ≤ 1048576 → Tab w → Calls Tryd.prog 13 #[.string s] w (TNNew s w))
    (s : ByteArray) (w : World) (h1 : s.size ≤ 1048576) (ht : Tab w) :
    Calls Tryd.prog 5 #[.string s] w fun e w' => e = .returned (.bool true) ∧ Below w.heap.size w w' := by
  have hlR : (tnR s).length ≤ 450 := tnR_len s
  have HS := Lib.hid (fun W : World => (specTextNat_any s W h1).mono fun _ _ h => h.new)
  have HI := Lib.hid (fun W : World => implTextNat_any s W h1)
  unfold TNNew at HS HI; clear implTextNat_any
  generalize tnR s = R at *
  generalize decOk s = ok at *
  go_enter Tryd.func5, Tryd.ntmps5
  go_wp2_with fail
  refine (HS.out _).mono ?_
  rintro e w1 ⟨v0, rfl, o0, b1⟩
  have l0 := Lies.of o0
  go_wp2_with fail
  refine (HI.out _ (ht.below b1)).mono ?_
  rintro e w2 ⟨g0, rfl, og, b2⟩
  have bb2 := Below.next b1 b2
  have lg := Lies.of og
  have o02 := own_below o0 b2
  go_wp2_with fail
  refine (eqIntS_any g0 v0 R R _ _ _ _ _ (by omega) (Row.of_own og) (Row.of_own o02)).mono ?_
  rintro e w3 ⟨rfl, q3, rfl⟩
  rw [decide_refl]
  have bb3 := below_drewN bb2 q3
  have AG0 := Lib.hid (lg.apart l0 (.inr (Nat.le_refl _)))
  have LG := Lib.hid lg
  clear lg l0
  go_wp2_with fail
  refine (markIntS_any g0 _ _ _ 1 _ (by omega) (by omega) (own_drew og q3)).mono ?_
  rintro e w4 ⟨rfl, og4, g4⟩
  have bb4 := bb3.grown g4 bb3.size (fun k hk => by have := LG.out k hk; have := b1.size; omega)
  have o04 := own_apart (own_drew o02 q3) g4 (fun x y hx hy => Ne.symm (AG0.out y x hy hx))
  go_wp2_with fail
  refine (heldIntS_any g0 R.length _ _ 1 _ (by omega) (by omega) (Row.of_own og4)).mono ?_
  rintro e w' ⟨rfl, rfl⟩
  go_wp2_with fail
  refine (HI.out _ (ht.below bb4)).mono ?_
  rintro e w5 ⟨h0, rfl, oh, b5⟩
  have bb5 := Below.next bb4 b5
  have o05 := own_below o04 b5
  have og5 := own_below og4 b5
  go_wp2_with fail
  refine (eqIntS_any h0 v0 R R _ _ _ _ _ (by omega) (Row.of_own oh) (Row.of_own o05)).mono ?_
  rintro e w6 ⟨rfl, q6, rfl⟩
  rw [decide_refl]
  go_wp2_with fail
  refine (heldIntS_any g0 R.length _ _ 1 _ (by omega) (by omega) (Row.of_own (own_drew og5 q6))).mono ?_
  rintro e w' ⟨rfl, rfl⟩
  go_wp2
  go_ret
  exact ⟨rfl, below_drewN bb5 q6⟩

theorem lawTextNat (s : ByteArray) (w : World) (hm : s.size ≤ 9223372036854775807) (ht : Tab w) :
    Calls Tryd.prog 5 #[.string s] w fun e w' => e = .returned (.bool true) ∧ Below w.heap.size w w' := by
  by_cases hl : s.size ≤ 1048576
  · exact lawTextNat_small (fun s w h ht => implTextNat_any s w (by omega) ht) s w hl ht
  · go_enter Tryd.func5, Tryd.ntmps5
    go_wp2
    go_ret
    exact ⟨rfl, Below.refl _ _⟩
end Go.Proofs.YtlbllcjkefndjaaDoor
