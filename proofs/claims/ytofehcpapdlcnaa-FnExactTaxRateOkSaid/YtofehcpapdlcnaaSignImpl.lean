/-
  Chapter 5 of package impl: what its functions on signed numbers return.
-/
import Derived.Test.YtofehcpapdlcnaaIntOkI
import Derived.Test.YtofehcpapdlcnaaNatTimes
import Derived.Test.YtofehcpapdlcnaaNatOps
import Derived.Deep.RegionHeld3
namespace Go.Proofs.Ytofehcpapdlcnaa
open Go.RowKit

/-- an integer under construction: its limbs lie at the head of its block, its sign behind them -/
@[reducible] def intK (n : Bool) : NatK := ⟨[.bool n], 53, by decide⟩
theorem NatX.below {K : NatK} {B b : Nat} {xs : List Int} {w w' : World} (h : NatX K B b xs w) (hb : Below w.heap.size w w') : NatX K B b xs w' := by
  have hlt := h.lt
  obtain ⟨hB, v, hk, ho, hne⟩ := h
  exact ⟨hB, v, (hb.block b hlt).trans hk, own_below ho hb, hne⟩
/-- a new integer -/
def NewInteger (x : SI) (w : World) (e : Ending) (w' : World) : Prop :=
  ∃ b, e = .returned (.pointer (some ⟨b, 0, none⟩)) ∧ NatX (intK x.1) w.heap.size b x.2 w' ∧ Below w.heap.size w w'

theorem NatX.sign {m : Bool} {B b : Nat} {xs : List Int} {w : World} (h : NatX (intK m) B b xs w) (n : Bool) : NatX (intK n) B b xs (w.setCell ⟨b, 1, none⟩ (.bool n)) := by
  obtain ⟨hB, v, hk, ho, hne⟩ := h
  refine ⟨hB, v, ?_, own_stays ho fun i hi => Below.heap_setCell _ _ _ _ (fun e => hne (by rw [hi, e])), hne⟩
  simp [World.setCell, Array.getElem?_modify, hk]

/-- a new signed number; its limbs lie at B or behind it -/
def NewSB (B : Nat) (x : SI) (w : World) (e : Ending) (w' : World) : Prop := ∃ u, e = .returned (.agg #[.bool x.1, u]) ∧ w'.ownsRow B 3 1 u x.2.length (intsV x.2) ∧ Below w.heap.size w w'
set_option maxHeartbeats 1000000 in
set_option maxRecDepth 100000 in
theorem signed_any (n : Bool) (B b : Nat) (xs : List Int) (w : World) (hl : xs.length ≤ 1048576) (h : NatX (intK n) B b xs w) :
    Calls Try.prog 27 #[.pointer (some ⟨b, 0, none⟩)] w (NewSB B (mkS n xs) w) := by
  have hcl : (capL xs).length ≤ 50 := by
    unfold capL
    split
    · simp
    · omega
  have HR := Lib.hid (show mkS n xs = (n && decide (0 < (capL xs).length), capL xs) from rfl)
  have hbb := below_al (Below.refl w.heap.size w) (.cells #[.bool false, .slice none 0 0] 29)
  have kr := box_new w #[.bool false, .slice none 0 0] 29
  have hx : NatX (intK n) B b xs (w.alloc (.cells #[.bool false, .slice none 0 0] 29)) := h.below hbb
  obtain ⟨W0, hW0⟩ : ∃ W0, W0 = w.alloc (.cells #[.bool false, .slice none 0 0] 29) := ⟨_, rfl⟩
  rw [← hW0] at hx hbb kr
  have HW := Lib.hid hW0
  clear hW0
  have cn : W0.cell? ⟨b, 1, none⟩ = some (.bool n) := by
    obtain ⟨_, v, hb, _⟩ := hx
    exact NatX.cell1 hb 0 rfl
  have cz0 := kr.here.cell 0 _ rfl
  have cz1 := kr.here.cell 1 _ rfl
  have fz0 := Lib.frozen_of_heap kr.here 0
  have fz1 := Lib.frozen_of_heap kr.here 1
  have HK := Lib.hid kr
  clear kr h
  cases n
  all_goals
    go_enter Try.func27, Try.ntmps27
    go_wp2_with fail
    rw [← HW.out]
    refine (natResult_any B b xs _ hl hx).mono ?_
    rintro e w1 ⟨rfl, v1, rfl, o1⟩
    obtain ⟨A1, c1, rfl⟩ := own_len o1
    have HR2 := HR.out
    generalize capL xs = ys at *
    have HO := Lib.hid o1
    have HRR := Lib.hid HR2
    clear o1 hx HR2 HR
    go_wp2
    refine bodyPost_ret (v := .agg #[.bool _, .slice A1 ys.length c1]) (by simp [results, Try.results27, go_sem, cz0, cz1]; rfl) rfl ?_
    rw [HRR.out]
    have hne := Lib.ownBlock_ne HO.out HK.out.here (by decide)
    refine ⟨.slice A1 ys.length c1, ?_, own_stays HO.out fun i hi => ?_, below_set2 hbb (Nat.le_refl _)⟩
    · first | rfl | simp
    · have : i ≠ w.heap.size := fun e => hne (by rw [hi, e])
      exact (Below.heap_setCell _ _ _ _ this).trans (Below.heap_setCell _ _ _ _ this)

theorem natOk_trim {xs : List Int} (h : natOkB xs = true) : trimL xs = xs := by
  rw [ok_trimL h, ← natOk_limbs h]

end Go.Proofs.Ytofehcpapdlcnaa
