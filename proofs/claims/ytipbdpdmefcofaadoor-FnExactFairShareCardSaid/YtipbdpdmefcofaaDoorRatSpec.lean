/-
  Chapter 6 of package spec: what its functions on fractions return (begun: l05Gcd).
-/
import Derived.Test.YtipbdpdmefcofaaDoorRat
import Derived.Test.YtipbdpdmefcofaaDoorDivSpec4
import Derived.Test.YtipbdpdmefcofaaDoorSignCmp
import Derived.Test.YtipbdpdmefcofaaDoorSignAdd
namespace Go.Proofs.YtipbdpdmefcofaaDoor
open Go.RowKit

/-- the state of l05Gcd's loop -/
def GcdR (w : World) (G : Nat) (n : Nat) (x y : Value) (wr : World) : Prop :=
  ∃ X Y : Nat, n = Y ∧ Nat.gcd X Y = G ∧ (limbs X).length ≤ 50 ∧ (limbs Y).length ≤ 50 ∧ wr.ownsRow 0 3 1 x (limbs X).length (intsV (limbs X)) ∧ wr.ownsRow 0 3 1 y (limbs Y).length (intsV (limbs Y)) ∧ Below w.heap.size w wr
set_option maxHeartbeats 1000000 in
set_option maxRecDepth 100000 in
theorem l05Gcd_any (va vb : Value) (X0 Y0 : Nat) (w : World) (hX0 : (limbs X0).length ≤ 50) (hY0 : (limbs Y0).length ≤ 50) (oa : OwnI va (limbs X0) w) (ob : OwnI vb (limbs Y0) w) :
    Calls Tryd.prog 36 #[va, vb] w fun e w' => ∃ v, e = .returned v ∧ OwnI v (limbs (Nat.gcd X0 Y0)) w' ∧ Below w.heap.size w w' := by
  have HS : Hid (GcdR w (Nat.gcd X0 Y0) Y0 va vb w) := Lib.hid ⟨X0, Y0, rfl, rfl, hX0, hY0, oa, ob, Below.refl _ _⟩
  clear oa ob
  go_enter Tryd.func36, Tryd.ntmps36
  go_wp2
  go_loopg [5, 6] Y0 (fun n x y wr => GcdR w (Nat.gcd X0 Y0) n x y wr)
  case atStart => exact HS.out
  case round =>
    clear HS hX0 hY0
    obtain ⟨X, Y, hn, hG, hX, hY, ox, oy, hb⟩ := hrel
    have HNE := Lib.hid hn
    have HG := Lib.hid hG
    clear hn hG
    have oy0 := oy
    obtain ⟨B, c, rfl⟩ := own_len oy
    by_cases hpos : 0 < (limbs Y).length
    · have hY0 := limbs_some hpos
      go_wp2_with fail
      refine (specDiv_any _ _ (limbs X) (limbs Y) _ _ _ _ _ hX hY hpos (Nat.le_refl _) (Nat.le_refl _) (limbs_digN _) ⟨limbs_digN _, limbs_lastN _⟩ (Row.of_own ox) (Row.of_own oy0)).mono ?_
      rintro e w3 ⟨v3, v4, rfl, o3, o4, _, b3⟩
      rw [limbs_val, limbs_val, show ((X : Int) % (Y : Int)).toNat = X % Y by omega] at o4
      have HS2 : Hid (GcdR w (Nat.gcd X0 Y0) (X % Y) (.slice B (limbs Y).length c) v4 w3) := Lib.hid ⟨Y, X % Y, rfl, by rw [gcd_step]; exact HG.out, hY, limbs_mod_len X Y hY hY0, own_below oy0 b3, own_zero o4, Below.next hb b3⟩
      clear ox oy oy0 o3 o4
      go_wp2
      go_roundg (X % Y)
      case measure => rw [HNE.out]; exact Nat.mod_lt X hY0
      case rel => exact HS2.out
    · have hY0 := Lib.hid (limbs_empty hpos)
      have HF : Hid (X = Nat.gcd X0 Y0) := Lib.hid (by have := HG.out; rw [hY0.out, Nat.gcd_zero_right] at this; exact this)
      go_wp2
      go_ret
      exact ⟨_, rfl, by rw [← HF.out]; exact ox, hb⟩
end Go.Proofs.YtipbdpdmefcofaaDoor
