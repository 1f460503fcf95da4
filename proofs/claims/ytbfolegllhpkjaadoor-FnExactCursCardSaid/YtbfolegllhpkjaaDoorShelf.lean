/-
  Contracts of library functions, laid over this program: each is one application of a theorem of the library.
-/
import Derived.Shelf.Sort.Plain
import Derived.Test.YtbfolegllhpkjaaDoorProg
namespace Go.Proofs
open Go.Shelf
def Tryd.lays190_ren : Go.Shelf.Ren := ⟨fun | 190 => 13 | 125 => 16 | 258 => 15 | 128 => 26 | 129 => 27 | 302 => 17 | 303 => 18 | 304 => 19 | 305 => 20 | 306 => 21 | 307 => 22 | 308 => 23 | 309 => 24 | 310 => 25 | 333 => 28 | 329 => 29 | 330 => 30 | 334 => 31 | 335 => 32 | 336 => 33 | 344 => 34 | n => n, fun | 31 => 24 | 9 => 9 | 3 => 3 | 46 => 40 | 0 => 0 | 51 => 52 | 53 => 54 | 4 => 4 | 183 => 44 | 182 => 43 | 131 => 49 | 5 => 5 | 218 => 55 | 222 => 59 | 228 => 61 | 229 => 62 | n => n, fun | n => n⟩
theorem Tryd.lays190 : Go.Proofs.Lays.n190 Tryd.prog Tryd.lays190_ren := {
  mixed := by kernel_rfl
  f125 := Tryd.func16.trans (congrArg some (by kernel_rfl))
  f128 := Tryd.func26.trans (congrArg some (by kernel_rfl))
  f129 := Tryd.func27.trans (congrArg some (by kernel_rfl))
  f190 := Tryd.func13.trans (congrArg some (by kernel_rfl))
  f258 := Tryd.func15.trans (congrArg some (by kernel_rfl))
  f302 := Tryd.func17.trans (congrArg some (by kernel_rfl))
  f303 := Tryd.func18.trans (congrArg some (by kernel_rfl))
  f304 := Tryd.func19.trans (congrArg some (by kernel_rfl))
  f305 := Tryd.func20.trans (congrArg some (by kernel_rfl))
  f306 := Tryd.func21.trans (congrArg some (by kernel_rfl))
  f307 := Tryd.func22.trans (congrArg some (by kernel_rfl))
  f308 := Tryd.func23.trans (congrArg some (by kernel_rfl))
  f309 := Tryd.func24.trans (congrArg some (by kernel_rfl))
  f310 := Tryd.func25.trans (congrArg some (by kernel_rfl))
  f329 := Tryd.func29.trans (congrArg some (by kernel_rfl))
  f330 := Tryd.func30.trans (congrArg some (by kernel_rfl))
  f333 := Tryd.func28.trans (congrArg some (by kernel_rfl))
  f334 := Tryd.func31.trans (congrArg some (by kernel_rfl))
  f335 := Tryd.func32.trans (congrArg some (by kernel_rfl))
  f336 := Tryd.func33.trans (congrArg some (by kernel_rfl))
  f344 := Tryd.func34.trans (congrArg some (by kernel_rfl))
  t0 := Tryd.underlying0
  a0 := Tryd.isAgg0
  z0 := Tryd.sizeOf0
  v0 := Tryd.zeroValue0
  t3 := Tryd.underlying3
  a3 := Tryd.isAgg3
  z3 := Tryd.sizeOf3
  v3 := Tryd.zeroValue3
  t4 := Tryd.underlying4
  a4 := Tryd.isAgg4
  z4 := Tryd.sizeOf4
  v4 := Tryd.zeroValue4
  t5 := Tryd.underlying5
  a5 := Tryd.isAgg5
  z5 := Tryd.sizeOf5
  v5 := Tryd.zeroValue5
  t9 := Tryd.underlying9
  a9 := Tryd.isAgg9
  z9 := Tryd.sizeOf9
  v9 := Tryd.zeroValue9
  t31 := Tryd.underlying24
  a31 := Tryd.isAgg24
  z31 := Tryd.sizeOf24
  v31 := Tryd.zeroValue24
  t46 := Tryd.underlying40
  a46 := Tryd.isAgg40
  z46 := Tryd.sizeOf40
  v46 := Tryd.zeroValue40
  t51 := Tryd.underlying52
  a51 := Tryd.isAgg52
  z51 := Tryd.sizeOf52
  v51 := Tryd.zeroValue52
  t53 := Tryd.underlying54
  a53 := Tryd.isAgg54
  z53 := Tryd.sizeOf54
  v53 := Tryd.zeroValue54
  t131 := Tryd.underlying49
  a131 := Tryd.isAgg49
  z131 := Tryd.sizeOf49
  v131 := Tryd.zeroValue49
  t182 := Tryd.underlying43
  a182 := Tryd.isAgg43
  z182 := Tryd.sizeOf43
  v182 := Tryd.zeroValue43
  t183 := Tryd.underlying44
  a183 := Tryd.isAgg44
  z183 := Tryd.sizeOf44
  v183 := Tryd.zeroValue44
  t218 := Tryd.underlying55
  a218 := Tryd.isAgg55
  z218 := Tryd.sizeOf55
  v218 := Tryd.zeroValue55
  t222 := Tryd.underlying59
  a222 := Tryd.isAgg59
  z222 := Tryd.sizeOf59
  v222 := Tryd.zeroValue59
  t228 := Tryd.underlying61
  a228 := Tryd.isAgg61
  z228 := Tryd.sizeOf61
  v228 := Tryd.zeroValue61
  t229 := Tryd.underlying62
  a229 := Tryd.isAgg62
  z229 := Tryd.sizeOf62
  v229 := Tryd.zeroValue62 }
open Go.Sort Go.RowKit in
theorem Tryd.slices_Sort_string (blk off cap : Nat) (ss : List (List UInt8)) (w : World) (hH : Holds encStr w blk off ss.toArray) (hblk : blk < w.heap.size) (hsz : ss.length < 4611686018427387904) :
    Calls Tryd.prog 13 #[.slice (some ⟨blk, off, none⟩) ss.length cap] w fun e w' =>
      e = .returned (.tuple #[]) ∧ ∃ n os, w' = grow (putRow encStr (Sort.ahead w n) blk off (ss.mergeSort fun x y => decide (x ≤ y)).toArray) os := Any.slices_Sort_string Tryd.lays190 blk off cap ss w hH hblk hsz
end Go.Proofs
