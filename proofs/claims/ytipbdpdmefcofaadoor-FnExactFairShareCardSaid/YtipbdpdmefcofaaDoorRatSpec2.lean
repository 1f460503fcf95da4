/-
  Chapter 6 of package spec: what its functions on fractions return.
-/
import Derived.Test.YtipbdpdmefcofaaDoorRatPlain2
import Derived.Deep.RegionHeld3
namespace Go.Proofs.YtipbdpdmefcofaaDoor
open Go.RowKit

theorem ownS_open {u c : Value} {x : SI} {w : World} (h : OwnS (.agg #[c, u]) x w) : OwnI u x.2 w := by
  obtain ⟨u', e, hu⟩ := h
  injection e with e
  simp at e
  obtain ⟨_, e2⟩ := e
  subst e2
  exact hu
theorem OwnS.below {w W : World} {v : Value} {x : SI} (h : OwnS v x w) (hb : Below w.heap.size w W) : OwnS v x W := by
  obtain ⟨u, rfl, o⟩ := h
  exact ⟨u, rfl, own_below o hb⟩
theorem one_szS : szS (ofZ 1) ≤ 1048576 := by have := ofZ_len 1; unfold szS szI; omega
theorem postQb_eq {q Q : QI × Bool} (e : q = Q) {w w' : World} {n : Ending} (h : PostQb q.1 q.2 w n w') : PostQb Q.1 Q.2 w n w' := by rw [← e]; exact h
theorem postn_eq {z z' : Int} (e : z = z') {w w' : World} {n : Ending} (h : Postn z w n w') : Postn z' w n w' := by rw [← e]; exact h
theorem newQ_ret {r : Nat} {u d c0 c1 c2 : Value} {x : QI} {w W : World} {B C : Nat} (hb : BoxAt r #[c0, c1, c2] 28 W) (o : W.ownsRow B 3 1 u x.1.2.length (intsV x.1.2)) (p : W.ownsRow C 3 1 d x.2.length (intsV x.2))
    (hap : ∀ g, u.ownBlock = some g → d.ownBlock ≠ some g) (hB : w.heap.size ≤ B) (hC : w.heap.size ≤ C) (hr : w.heap.size ≤ r) (hW : Below w.heap.size w W) :
    NewV (fun v => OwnQ v x) w (.returned (.agg #[.bool x.1.1, u, d])) (((W.setCell ⟨r, 0, none⟩ (.bool x.1.1)).setCell ⟨r, 1, none⟩ u).setCell ⟨r, 2, none⟩ d) := by
  obtain ⟨v, S, e, k1, k2, k3⟩ := newQb_ret (b := true) hb o p hap hB hC hr hW
  refine ⟨v, S, ?_, k1, k2, k3⟩
  injection e with e
  injection e with e
  simp at e
  rw [e]
theorem OwnQ.below {w W : World} {v : Value} {x : QI} (h : OwnQ v x w) (hb : Below w.heap.size w W) : OwnQ v x W := by
  obtain ⟨u, d, rfl, o, p, hap⟩ := h
  exact ⟨u, d, rfl, own_below o hb, own_below p hb, hap⟩
end Go.Proofs.YtipbdpdmefcofaaDoor
