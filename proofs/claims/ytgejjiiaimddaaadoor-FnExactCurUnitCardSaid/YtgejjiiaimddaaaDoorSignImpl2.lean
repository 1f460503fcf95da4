/-
  Chapter 5 of package impl: products, sums and differences.
-/
import Derived.Test.YtgejjiiaimddaaaDoorSignImpl
import Derived.Test.YtgejjiiaimddaaaDoorSignAdd
import Derived.Deep.DeepCutAuto
import Derived.Deep.Cut
import Derived.Deep.CutBlock
namespace Go.Proofs.YtgejjiiaimddaaaDoor
open Go.RowKit

theorem capL_short {xs : List Int} (h : xs.length ≤ 50) : capL xs = xs := by unfold capL; rw [if_neg (by omega)]
theorem capL_res (b : Bool) (n : Int) : mkS b (natRes n) = mkS b (limbs n.toNat) := by
  have e : capL (natRes n) = capL (limbs n.toNat) := by
    unfold natRes
    by_cases h : (limbs n.toNat).length ≤ 50
    · rw [capL_short h, capL_short h]
    · rw [show capL (limbs n.toNat) = [] by unfold capL; rw [if_pos (by omega)]]; rfl
  unfold mkS
  rw [e]
theorem natRes_short (n : Int) : (natRes n).length ≤ 50 := by
  unfold natRes capL
  split
  · simp
  · omega
theorem mulN_short (a b : List Int) : (mulN a b).length ≤ 50 := by unfold mulN; split; exact natRes_short _; simp
theorem mulS_mk {x y : SI} (okx : okS x = true) (oky : okS y = true) : mkS (x.1 != y.1) (mulN x.2 y.2) = mulS x y := by
  have px := okS_parts okx
  have py := okS_parts oky
  have h0x := nval_ok px.1
  have h0y := nval_ok py.1
  have h0 := Int.mul_nonneg h0x h0y
  unfold mulS
  rw [if_pos ⟨okx, oky⟩, mulN_ok px.1 py.1, capL_res, mkS_limbs]
  congr 1
  unfold valS
  rw [Int.toNat_of_nonneg h0]
  cases x.1 <;> cases y.1 <;> simp [Int.neg_mul, Int.mul_neg]
/-- an integer laid early into its block, which was zero -/
theorem NatX.early {n : Bool} {g : Nat} {u c0 c1 : Value} {xs : List Int} {W : World} {B0 B : Nat} (hb : BoxAt g #[c0, c1] 61 W) (o : W.ownsRow B 3 1 u xs.length (intsV xs)) (hB : B0 ≤ B) (hg : B0 ≤ g) :
    NatX (intK n) B0 g xs ((W.setCell ⟨g, 0, none⟩ u).setCell ⟨g, 1, none⟩ (.bool n)) := by
  have hne := Lib.ownBlock_ne o hb (by decide)
  have hb' : W.heap[g]? = some (.cells #[c0, c1] 61 (0, 0)) := hb
  refine ⟨hg, u, by simp [World.setCell, Array.getElem?_modify, hb'], own_low (own_stays o fun i hi => ?_) hB, hne⟩
  have : i ≠ g := fun e => hne (by rw [hi, e])
  exact (Below.heap_setCell _ _ _ _ this).trans (Below.heap_setCell _ _ _ _ this)
theorem NatX.late {n : Bool} {u : Value} {xs : List Int} {W : World} {B0 B : Nat} (o : W.ownsRow B 3 1 u xs.length (intsV xs)) (hB : B0 ≤ B) (hW : B0 ≤ W.heap.size) : NatX (intK n) B0 W.heap.size xs (W.alloc (.cells #[u, .bool n] 61)) :=
  NatX.new (K := intK n) hW (own_low o hB)

end Go.Proofs.YtgejjiiaimddaaaDoor
