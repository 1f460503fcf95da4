/-
  Worlds for witnesses of chapter 11 that hold the tables of utf8 besides.
-/
import Derived.Test.YtbpfabicampdkaaGreatDoorJB13
namespace Go.Proofs.YtbpfabicampdkaaGreatDoor
open Go.ChangeShapes Go.WideShapes Go.ChangeAt Go.RowKit

noncomputable def curUtfWorldE (os : Os) : World :=
  { curLaidWorld os with heap := ((curLaidWorld os).heap.modify 4 (putCells ((aggOf Rows.laid_unicode_utf8_acceptRanges).flatMap fun x => tabCells .u8 (aggOf x)).toArray)).modify 3 (putCells (tabCells .u8 (aggOf Rows.laid_unicode_utf8_first)).toArray) }
end Go.Proofs.YtbpfabicampdkaaGreatDoor
