/-
  Chapter 11 of package spec: RatePath in plain words.
-/
import Derived.Test.YtbpfabicampdkaaGreatDoorJB3
namespace Go.Proofs.YtbpfabicampdkaaGreatDoor
open Go.RowKit

theorem pathT_of (t : TI) (a b : ByteArray) : pathT t a b = if howT t a b = 1 then [a] else if howT t a b = 2 ∨ howT t a b = 3 then [a, b] else if howT t a b = 4 then [a, t.1, b] else [] := rfl
end Go.Proofs.YtbpfabicampdkaaGreatDoor
