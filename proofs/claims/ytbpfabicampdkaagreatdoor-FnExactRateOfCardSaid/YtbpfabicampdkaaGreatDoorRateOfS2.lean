/-
  Chapter 11 of package spec: what RateOf returns.
-/
import Derived.Test.YtbpfabicampdkaaGreatDoorRateStepS
import Derived.Test.YtbpfabicampdkaaGreatDoorRateOfS
namespace Go.Proofs.YtbpfabicampdkaaGreatDoor
open Go.RowKit

theorem specRateOf_all (v : Value) (t : TI) (p q : ByteArray) (w : World) (hl : t.2.length ≤ 1099511627776) (hx : ∀ x ∈ t.2, x.2.2.1.2.length ≤ 1048576) (h : OwnTR w v t) :
    Calls Tryz.prog 30 #[v, .string p, .string q] w (PostQb (rateT t p q).1 (rateT t p q).2 w) :=
  specRateOf_any v t p q w hl hx h fun va a b W hg ho => l10Step_any va t a b W hl hx hg ho
end Go.Proofs.YtbpfabicampdkaaGreatDoor
