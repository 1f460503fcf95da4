/-
  A limb of a nat, or 0 beyond its ends.
-/
import Derived.Test.YtofehcpapdlcnaaNatOps
import Derived.Test.YtofehcpapdlcnaaDivSpec4
import Derived.Test.YtofehcpapdlcnaaObj
namespace Go.Proofs.Ytofehcpapdlcnaa
open Go.RowKit

theorem TwoRows.postII {xs ys : List Int} {w w' : World} {e : Ending} (h : TwoRows xs ys w e w') : PostII xs ys w e w' := by
  obtain ⟨v1, v2, rfl, o1, o2, ap, b⟩ := h
  exact ⟨v1, _, v2, _, rfl, own_at o1, own_at o2, own_within o1, own_within o2, fun g h1 h2 => ap g g (by simpa using h1) (by simpa using h2) rfl, b⟩
end Go.Proofs.Ytofehcpapdlcnaa
