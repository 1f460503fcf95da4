/-
  What l05Low of package spec returns: a fraction in lowest terms.
-/
import Derived.Test.YtgejjiiaimddaaaDoorRatOk
namespace Go.Proofs.YtgejjiiaimddaaaDoor
open Go.RowKit
theorem trim_ok (n : Nat) : trimL (limbs n) = limbs n := trim_last _ (limbs_lastN n)
theorem oneCells (l : List Int) : ∀ u ∈ intsV l, u.oneCell' = true := fun u hu => by obtain ⟨x, _, rfl⟩ := List.mem_map.1 hu; rfl
/-- a struct result that lies in its cells at block r: a new value and a bool with it -/
theorem newQb_ret {r : Nat} {u d c0 c1 c2 : Value} {x : QI} {b : Bool} {w W : World} {B C : Nat} (hb : BoxAt r #[c0, c1, c2] 29 W) (o : W.ownsRow B 3 1 u x.1.2.length (intsV x.1.2)) (p : W.ownsRow C 3 1 d x.2.length (intsV x.2))
    (hap : ∀ g, u.ownBlock = some g → d.ownBlock ≠ some g) (hB : w.heap.size ≤ B) (hC : w.heap.size ≤ C) (hr : w.heap.size ≤ r) (hW : Below w.heap.size w W) :
    PostQb x b w (.returned (.tuple #[.agg #[.bool x.1.1, u, d], .bool b])) (((W.setCell ⟨r, 0, none⟩ (.bool x.1.1)).setCell ⟨r, 1, none⟩ u).setCell ⟨r, 2, none⟩ d) := by
  have hn1 := Lib.ownBlock_ne o hb (by decide)
  have hn2 := Lib.ownBlock_ne p hb (by decide)
  have hc : Chg [r] W (((W.setCell ⟨r, 0, none⟩ (.bool x.1.1)).setCell ⟨r, 1, none⟩ u).setCell ⟨r, 2, none⟩ d) := (((Chg.refl _ _).setCell (by simp) _).setCell (by simp) _).setCell (by simp) _
  have hz := hc.size
  refine ⟨_, partsB u d, rfl, (partsQ_at o p hap).chg hc (fun i hi hm => ?_), fun i hi => ?_, below_set3 hW hr⟩
  · simp at hm
    subst hm
    rcases List.mem_append.1 hi with hi | hi
    · exact hn1 (by simpa using hi)
    · exact hn2 (by simpa using hi)
  · rcases List.mem_append.1 hi with hi | hi
    · have := own_lt o (g := i) (by simpa using hi)
      omega
    · have := own_lt p (g := i) (by simpa using hi)
      omega
theorem ownQ_zero (w : World) : OwnQ (.agg #[.bool false, .slice none 0 0, .slice none 0 0]) zeroQ w := ⟨_, _, rfl, World.ownsRow_nil _ _ _ _, World.ownsRow_nil _ _ _ _, fun g hg => by cases hg⟩
theorem newQb_zero {w W : World} (b : Bool) (hW : Below w.heap.size w W) : PostQb zeroQ b w (.returned (.tuple #[.agg #[.bool false, .slice none 0 0, .slice none 0 0], .bool b])) W :=
  ⟨_, [], rfl, ⟨ownQ_zero _, (fun g hg => by cases hg), fun w' _ => ownQ_zero _⟩, (fun g hg => by cases hg), hW⟩
theorem div_toNat (a b : Nat) : ((a : Int) / (b : Int)).toNat = a / b := by rw [← Int.natCast_ediv]; exact Int.toNat_natCast _
end Go.Proofs.YtgejjiiaimddaaaDoor
