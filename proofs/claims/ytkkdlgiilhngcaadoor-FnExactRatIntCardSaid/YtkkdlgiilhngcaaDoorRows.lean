/-
  NARROWER THAN 'FOR EVERY INPUT', by the rows' own cells (each row's printed sentence says how): FnExactRatOk: ifaces, laid · FnExactRatMake: ifaces, laid · FnExactRatInt: ifaces, laid · FnExactRatAdd: ifaces, laid · FnExactRatNeg: ifaces, laid · FnExactRatMul: ifaces, laid · FnExactRatDiv: ifaces, laid · FnExactRatCmp: ifaces, laid · FnExactRatSign: ifaces, laid.
  DERIVED. THE GIVEN ROWS OF THIS SEAT. 9 by the template 'for every input the law returns true; each argument reads behind the call as it read before'; 0 by the template 'total and deterministic' (their statements: YtkkdlgiilhngcaaDoorTotals.lean).
  GIVEN WITH THE SEED: the statements are not yours to turn. If you find one false, say at which input.
  Laid BY PROGRAM, IN A SANDBOX (cutbox-rows.mjs): the forced cells as the released guide's own fill.sh prints them over the translation 9d984599c6240398… (all of the seat's roots in one cut). By AI agents, Wed Nov 11 2026. No macro, syntax, notation, axiom, sorry.
-/
import Derived.Test.YtkkdlgiilhngcaaDoorChecked
import GoSem.Claim
import GoSem.ClaimJoined
import GoSem.ClaimMapViews
import Derived.JoinedTies
import Derived.KernelRfl
namespace Go.Proofs.YtkkdlgiilhngcaaDoor
/- THE CELL 'sum', in the pinned program and in every row, IS THE sha256 OF THE DUMP (.gsa) THAT YtkkdlgiilhngcaaDoorProg.lean LOADS. Nothing in Lean hashes anything: it is a label: what it is worth is what the hold of that sum in a sandbox is worth. -/
noncomputable def Tryd.pinned : Pinned := { name := "ytkkdlgiilhngcaadoor", sum := "9d984599c6240398beae7347364e42941db42e3c25e7d0cb25bacebadf649a5f", checked := Tryd.checked }
namespace Rows
def none {H : Type} : Left H := { results := [], args := [] }

/- WHAT THE LISTED PACKAGE-LEVEL VARIABLES READ AS WHEN THE CALL BEGINS. Each datum BY PROGRAM (the guide's laid-datum.mjs) off the statement by which the dump's own 'gosem.cut.vars' lays the variable. In a bare row this is a premise. The card (YtkkdlgiilhngcaaDoorCards.lean) ties it to the program's text. -/
def laid_loop_example_g00793_impl_errZeroDivisor {H : Type} : DataW H := .iface "*errors.errorString" (.ptr (.agg [.lit (.string [100, 105, 118, 105, 115, 105, 111, 110, 32, 98, 121, 32, 122, 101, 114, 111])]))

/-- 'laws.FnExactRatOk': WHATEVER THE INPUT: true; the input reads as it did. -/
def fnExactRatOkSpec : ChangeSpec := { name := "fnExactRatOk", vars := ["loop.example/g00793/impl.errZeroDivisor"], fn := fun _ => fun
  | [d, g1] => { results := [.lit (.bool true)], args := [d], vars := [g1] }
  | _ => none }
def fnExactRatOkRow : OpenClaim := { program := "ytkkdlgiilhngcaadoor", sum := "9d984599c6240398beae7347364e42941db42e3c25e7d0cb25bacebadf649a5f", func := "loop.example/g00793/laws.FnExactRatOk", spec := "fnExactRatOk", inPlace := ["math/bits.Add64", "internal/reflectlite.TypeOf"], unfollowed := true, recurses := true, named := ["loop.example/g00793/impl.errZeroDivisor", "math/bits.divideError", "math/bits.overflowError"], ifaces := true, apart := false, laid := [("loop.example/g00793/impl.errZeroDivisor", laid_loop_example_g00793_impl_errZeroDivisor)] }
def FnExactRatOkSaid : Prop := fnExactRatOkRow.holds Tryd.pinned (OpenSpec.ofChange fnExactRatOkSpec)

/-- ITS FALSE NEIGHBOUR: 'it returns false'. Refute it at one input. -/
def fnExactRatOkWrong : ChangeSpec := { name := "fnExactRatOk", vars := ["loop.example/g00793/impl.errZeroDivisor"], fn := fun _ => fun
  | [d, g1] => { results := [.lit (.bool false)], args := [d], vars := [g1] }
  | _ => none }
def FnExactRatOkWrongFalsely : Prop := fnExactRatOkRow.holds Tryd.pinned (OpenSpec.ofChange fnExactRatOkWrong)

/-- 'laws.FnExactRatMake': WHATEVER THE INPUT: true; the input reads as it did. -/
def fnExactRatMakeSpec : ChangeSpec := { name := "fnExactRatMake", vars := ["loop.example/g00793/impl.errZeroDivisor"], fn := fun _ => fun
  | [d1, d2, g1] => { results := [.lit (.bool true)], args := [d1, d2], vars := [g1] }
  | _ => none }
def fnExactRatMakeRow : OpenClaim := { program := "ytkkdlgiilhngcaadoor", sum := "9d984599c6240398beae7347364e42941db42e3c25e7d0cb25bacebadf649a5f", func := "loop.example/g00793/laws.FnExactRatMake", spec := "fnExactRatMake", inPlace := ["math/bits.Add64", "internal/reflectlite.TypeOf"], unfollowed := true, recurses := true, named := ["loop.example/g00793/impl.errZeroDivisor", "math/bits.divideError", "math/bits.overflowError"], ifaces := true, apart := false, laid := [("loop.example/g00793/impl.errZeroDivisor", laid_loop_example_g00793_impl_errZeroDivisor)] }
def FnExactRatMakeSaid : Prop := fnExactRatMakeRow.holds Tryd.pinned (OpenSpec.ofChange fnExactRatMakeSpec)

/-- ITS FALSE NEIGHBOUR: 'it returns false'. Refute it at one input. -/
def fnExactRatMakeWrong : ChangeSpec := { name := "fnExactRatMake", vars := ["loop.example/g00793/impl.errZeroDivisor"], fn := fun _ => fun
  | [d1, d2, g1] => { results := [.lit (.bool false)], args := [d1, d2], vars := [g1] }
  | _ => none }
def FnExactRatMakeWrongFalsely : Prop := fnExactRatMakeRow.holds Tryd.pinned (OpenSpec.ofChange fnExactRatMakeWrong)

/-- 'laws.FnExactRatInt': WHATEVER THE INPUT: true; the input reads as it did. -/
def fnExactRatIntSpec : ChangeSpec := { name := "fnExactRatInt", vars := ["loop.example/g00793/impl.errZeroDivisor"], fn := fun _ => fun
  | [d, g1] => { results := [.lit (.bool true)], args := [d], vars := [g1] }
  | _ => none }
def fnExactRatIntRow : OpenClaim := { program := "ytkkdlgiilhngcaadoor", sum := "9d984599c6240398beae7347364e42941db42e3c25e7d0cb25bacebadf649a5f", func := "loop.example/g00793/laws.FnExactRatInt", spec := "fnExactRatInt", inPlace := ["math/bits.Add64", "internal/reflectlite.TypeOf"], unfollowed := true, recurses := true, named := ["loop.example/g00793/impl.errZeroDivisor", "math/bits.divideError", "math/bits.overflowError"], ifaces := true, apart := false, laid := [("loop.example/g00793/impl.errZeroDivisor", laid_loop_example_g00793_impl_errZeroDivisor)] }
def FnExactRatIntSaid : Prop := fnExactRatIntRow.holds Tryd.pinned (OpenSpec.ofChange fnExactRatIntSpec)

/-- ITS FALSE NEIGHBOUR: 'it returns false'. Refute it at one input. -/
def fnExactRatIntWrong : ChangeSpec := { name := "fnExactRatInt", vars := ["loop.example/g00793/impl.errZeroDivisor"], fn := fun _ => fun
  | [d, g1] => { results := [.lit (.bool false)], args := [d], vars := [g1] }
  | _ => none }
def FnExactRatIntWrongFalsely : Prop := fnExactRatIntRow.holds Tryd.pinned (OpenSpec.ofChange fnExactRatIntWrong)

/-- 'laws.FnExactRatAdd': WHATEVER THE INPUT: true; the input reads as it did. -/
def fnExactRatAddSpec : ChangeSpec := { name := "fnExactRatAdd", vars := ["loop.example/g00793/impl.errZeroDivisor"], fn := fun _ => fun
  | [d1, d2, g1] => { results := [.lit (.bool true)], args := [d1, d2], vars := [g1] }
  | _ => none }
def fnExactRatAddRow : OpenClaim := { program := "ytkkdlgiilhngcaadoor", sum := "9d984599c6240398beae7347364e42941db42e3c25e7d0cb25bacebadf649a5f", func := "loop.example/g00793/laws.FnExactRatAdd", spec := "fnExactRatAdd", inPlace := ["math/bits.Add64", "internal/reflectlite.TypeOf"], unfollowed := true, recurses := true, named := ["loop.example/g00793/impl.errZeroDivisor", "math/bits.divideError", "math/bits.overflowError"], ifaces := true, apart := false, laid := [("loop.example/g00793/impl.errZeroDivisor", laid_loop_example_g00793_impl_errZeroDivisor)] }
def FnExactRatAddSaid : Prop := fnExactRatAddRow.holds Tryd.pinned (OpenSpec.ofChange fnExactRatAddSpec)

/-- ITS FALSE NEIGHBOUR: 'it returns false'. Refute it at one input. -/
def fnExactRatAddWrong : ChangeSpec := { name := "fnExactRatAdd", vars := ["loop.example/g00793/impl.errZeroDivisor"], fn := fun _ => fun
  | [d1, d2, g1] => { results := [.lit (.bool false)], args := [d1, d2], vars := [g1] }
  | _ => none }
def FnExactRatAddWrongFalsely : Prop := fnExactRatAddRow.holds Tryd.pinned (OpenSpec.ofChange fnExactRatAddWrong)

/-- 'laws.FnExactRatNeg': WHATEVER THE INPUT: true; the input reads as it did. -/
def fnExactRatNegSpec : ChangeSpec := { name := "fnExactRatNeg", vars := ["loop.example/g00793/impl.errZeroDivisor"], fn := fun _ => fun
  | [d, g1] => { results := [.lit (.bool true)], args := [d], vars := [g1] }
  | _ => none }
def fnExactRatNegRow : OpenClaim := { program := "ytkkdlgiilhngcaadoor", sum := "9d984599c6240398beae7347364e42941db42e3c25e7d0cb25bacebadf649a5f", func := "loop.example/g00793/laws.FnExactRatNeg", spec := "fnExactRatNeg", inPlace := ["math/bits.Add64", "internal/reflectlite.TypeOf"], unfollowed := true, recurses := true, named := ["loop.example/g00793/impl.errZeroDivisor", "math/bits.divideError", "math/bits.overflowError"], ifaces := true, apart := false, laid := [("loop.example/g00793/impl.errZeroDivisor", laid_loop_example_g00793_impl_errZeroDivisor)] }
def FnExactRatNegSaid : Prop := fnExactRatNegRow.holds Tryd.pinned (OpenSpec.ofChange fnExactRatNegSpec)

/-- ITS FALSE NEIGHBOUR: 'it returns false'. Refute it at one input. -/
def fnExactRatNegWrong : ChangeSpec := { name := "fnExactRatNeg", vars := ["loop.example/g00793/impl.errZeroDivisor"], fn := fun _ => fun
  | [d, g1] => { results := [.lit (.bool false)], args := [d], vars := [g1] }
  | _ => none }
def FnExactRatNegWrongFalsely : Prop := fnExactRatNegRow.holds Tryd.pinned (OpenSpec.ofChange fnExactRatNegWrong)

/-- 'laws.FnExactRatMul': WHATEVER THE INPUT: true; the input reads as it did. -/
def fnExactRatMulSpec : ChangeSpec := { name := "fnExactRatMul", vars := ["loop.example/g00793/impl.errZeroDivisor"], fn := fun _ => fun
  | [d1, d2, g1] => { results := [.lit (.bool true)], args := [d1, d2], vars := [g1] }
  | _ => none }
def fnExactRatMulRow : OpenClaim := { program := "ytkkdlgiilhngcaadoor", sum := "9d984599c6240398beae7347364e42941db42e3c25e7d0cb25bacebadf649a5f", func := "loop.example/g00793/laws.FnExactRatMul", spec := "fnExactRatMul", inPlace := ["math/bits.Add64", "internal/reflectlite.TypeOf"], unfollowed := true, recurses := true, named := ["loop.example/g00793/impl.errZeroDivisor", "math/bits.divideError", "math/bits.overflowError"], ifaces := true, apart := false, laid := [("loop.example/g00793/impl.errZeroDivisor", laid_loop_example_g00793_impl_errZeroDivisor)] }
def FnExactRatMulSaid : Prop := fnExactRatMulRow.holds Tryd.pinned (OpenSpec.ofChange fnExactRatMulSpec)

/-- ITS FALSE NEIGHBOUR: 'it returns false'. Refute it at one input. -/
def fnExactRatMulWrong : ChangeSpec := { name := "fnExactRatMul", vars := ["loop.example/g00793/impl.errZeroDivisor"], fn := fun _ => fun
  | [d1, d2, g1] => { results := [.lit (.bool false)], args := [d1, d2], vars := [g1] }
  | _ => none }
def FnExactRatMulWrongFalsely : Prop := fnExactRatMulRow.holds Tryd.pinned (OpenSpec.ofChange fnExactRatMulWrong)

/-- 'laws.FnExactRatDiv': WHATEVER THE INPUT: true; the input reads as it did. -/
def fnExactRatDivSpec : ChangeSpec := { name := "fnExactRatDiv", vars := ["loop.example/g00793/impl.errZeroDivisor"], fn := fun _ => fun
  | [d1, d2, g1] => { results := [.lit (.bool true)], args := [d1, d2], vars := [g1] }
  | _ => none }
def fnExactRatDivRow : OpenClaim := { program := "ytkkdlgiilhngcaadoor", sum := "9d984599c6240398beae7347364e42941db42e3c25e7d0cb25bacebadf649a5f", func := "loop.example/g00793/laws.FnExactRatDiv", spec := "fnExactRatDiv", inPlace := ["math/bits.Add64", "internal/reflectlite.TypeOf"], unfollowed := true, recurses := true, named := ["loop.example/g00793/impl.errZeroDivisor", "math/bits.divideError", "math/bits.overflowError"], ifaces := true, apart := false, laid := [("loop.example/g00793/impl.errZeroDivisor", laid_loop_example_g00793_impl_errZeroDivisor)] }
def FnExactRatDivSaid : Prop := fnExactRatDivRow.holds Tryd.pinned (OpenSpec.ofChange fnExactRatDivSpec)

/-- ITS FALSE NEIGHBOUR: 'it returns false'. Refute it at one input. -/
def fnExactRatDivWrong : ChangeSpec := { name := "fnExactRatDiv", vars := ["loop.example/g00793/impl.errZeroDivisor"], fn := fun _ => fun
  | [d1, d2, g1] => { results := [.lit (.bool false)], args := [d1, d2], vars := [g1] }
  | _ => none }
def FnExactRatDivWrongFalsely : Prop := fnExactRatDivRow.holds Tryd.pinned (OpenSpec.ofChange fnExactRatDivWrong)

/-- 'laws.FnExactRatCmp': WHATEVER THE INPUT: true; the input reads as it did. -/
def fnExactRatCmpSpec : ChangeSpec := { name := "fnExactRatCmp", vars := ["loop.example/g00793/impl.errZeroDivisor"], fn := fun _ => fun
  | [d1, d2, g1] => { results := [.lit (.bool true)], args := [d1, d2], vars := [g1] }
  | _ => none }
def fnExactRatCmpRow : OpenClaim := { program := "ytkkdlgiilhngcaadoor", sum := "9d984599c6240398beae7347364e42941db42e3c25e7d0cb25bacebadf649a5f", func := "loop.example/g00793/laws.FnExactRatCmp", spec := "fnExactRatCmp", inPlace := ["math/bits.Add64", "internal/reflectlite.TypeOf"], unfollowed := true, recurses := true, named := ["loop.example/g00793/impl.errZeroDivisor", "math/bits.divideError", "math/bits.overflowError"], ifaces := true, apart := false, laid := [("loop.example/g00793/impl.errZeroDivisor", laid_loop_example_g00793_impl_errZeroDivisor)] }
def FnExactRatCmpSaid : Prop := fnExactRatCmpRow.holds Tryd.pinned (OpenSpec.ofChange fnExactRatCmpSpec)

/-- ITS FALSE NEIGHBOUR: 'it returns false'. Refute it at one input. -/
def fnExactRatCmpWrong : ChangeSpec := { name := "fnExactRatCmp", vars := ["loop.example/g00793/impl.errZeroDivisor"], fn := fun _ => fun
  | [d1, d2, g1] => { results := [.lit (.bool false)], args := [d1, d2], vars := [g1] }
  | _ => none }
def FnExactRatCmpWrongFalsely : Prop := fnExactRatCmpRow.holds Tryd.pinned (OpenSpec.ofChange fnExactRatCmpWrong)

/-- 'laws.FnExactRatSign': WHATEVER THE INPUT: true; the input reads as it did. -/
def fnExactRatSignSpec : ChangeSpec := { name := "fnExactRatSign", vars := ["loop.example/g00793/impl.errZeroDivisor"], fn := fun _ => fun
  | [d, g1] => { results := [.lit (.bool true)], args := [d], vars := [g1] }
  | _ => none }
def fnExactRatSignRow : OpenClaim := { program := "ytkkdlgiilhngcaadoor", sum := "9d984599c6240398beae7347364e42941db42e3c25e7d0cb25bacebadf649a5f", func := "loop.example/g00793/laws.FnExactRatSign", spec := "fnExactRatSign", inPlace := ["math/bits.Add64", "internal/reflectlite.TypeOf"], unfollowed := true, recurses := true, named := ["loop.example/g00793/impl.errZeroDivisor", "math/bits.divideError", "math/bits.overflowError"], ifaces := true, apart := false, laid := [("loop.example/g00793/impl.errZeroDivisor", laid_loop_example_g00793_impl_errZeroDivisor)] }
def FnExactRatSignSaid : Prop := fnExactRatSignRow.holds Tryd.pinned (OpenSpec.ofChange fnExactRatSignSpec)

/-- ITS FALSE NEIGHBOUR: 'it returns false'. Refute it at one input. -/
def fnExactRatSignWrong : ChangeSpec := { name := "fnExactRatSign", vars := ["loop.example/g00793/impl.errZeroDivisor"], fn := fun _ => fun
  | [d, g1] => { results := [.lit (.bool false)], args := [d], vars := [g1] }
  | _ => none }
def FnExactRatSignWrongFalsely : Prop := fnExactRatSignRow.holds Tryd.pinned (OpenSpec.ofChange fnExactRatSignWrong)

/- THE SECOND FORM. 'bulk': how many values and letters a reading holds, each counted each time it is reached (what is shared counts as often as it is met; a slice's spare places count too). A statement '..UptoSaid' is the law's where the arguments, and the package variables that the reading takes, are together of bulk at most 1048576: NARROWER than '..Said'. Prove '..Said' where nothing that the law and all that it calls make is longer than what came in: it says more and counts as full. Else prove '..UptoSaid'. A law counts once. -/
mutual
def uptoBulk {H : Type} : DataW H → Nat
  | .lit (.string bytes) => bytes.length + 1
  | .lit _ => 1
  | .nil => 1
  | .ptr d => uptoBulk d + 1
  | .slice elems spare => uptoBulkAll elems + uptoBulkAll spare + 1
  | .agg parts => uptoBulkAll parts + 1
  | .iface _ d => uptoBulk d + 1
  | .map entries => uptoBulkEntries entries + 1
  | .held _ => 1
def uptoBulkAll {H : Type} : List (DataW H) → Nat
  | [] => 0
  | d :: r => uptoBulk d + uptoBulkAll r
def uptoBulkEntries {H : Type} : List (Lit × DataW H) → Nat
  | [] => 0
  | x :: r => uptoBulkEntry x + uptoBulkEntries r
def uptoBulkEntry {H : Type} : Lit × DataW H → Nat
  | (.string bytes, d) => bytes.length + uptoBulk d + 1
  | (_, d) => uptoBulk d + 1
 end
def uptoSmall : (H : Type) → List (DataW H) → Bool := fun _ ds => decide (uptoBulkAll ds ≤ 1048576)
def OpenSpec.upto (s : _root_.Go.ChangeSpec) : _root_.Go.OpenSpec := { _root_.Go.OpenSpec.ofChange s with cond := some uptoSmall }

/-- 'laws.FnExactRatOk', WHERE WHAT IT READS IS OF BULK AT MOST 1048576: true; the input reads as it did. -/
def fnExactRatOkUptoRow : OpenClaim := { program := "ytkkdlgiilhngcaadoor", sum := "9d984599c6240398beae7347364e42941db42e3c25e7d0cb25bacebadf649a5f", func := "loop.example/g00793/laws.FnExactRatOk", spec := "fnExactRatOk", inPlace := ["math/bits.Add64", "internal/reflectlite.TypeOf"], unfollowed := true, recurses := true, named := ["loop.example/g00793/impl.errZeroDivisor", "math/bits.divideError", "math/bits.overflowError"], ifaces := true, apart := false, laid := [("loop.example/g00793/impl.errZeroDivisor", laid_loop_example_g00793_impl_errZeroDivisor)], narrowed := true }
def FnExactRatOkUptoSaid : Prop := fnExactRatOkUptoRow.holds Tryd.pinned (OpenSpec.upto fnExactRatOkSpec)

/-- 'laws.FnExactRatMake', WHERE WHAT IT READS IS OF BULK AT MOST 1048576: true; the input reads as it did. -/
def fnExactRatMakeUptoRow : OpenClaim := { program := "ytkkdlgiilhngcaadoor", sum := "9d984599c6240398beae7347364e42941db42e3c25e7d0cb25bacebadf649a5f", func := "loop.example/g00793/laws.FnExactRatMake", spec := "fnExactRatMake", inPlace := ["math/bits.Add64", "internal/reflectlite.TypeOf"], unfollowed := true, recurses := true, named := ["loop.example/g00793/impl.errZeroDivisor", "math/bits.divideError", "math/bits.overflowError"], ifaces := true, apart := false, laid := [("loop.example/g00793/impl.errZeroDivisor", laid_loop_example_g00793_impl_errZeroDivisor)], narrowed := true }
def FnExactRatMakeUptoSaid : Prop := fnExactRatMakeUptoRow.holds Tryd.pinned (OpenSpec.upto fnExactRatMakeSpec)

/-- 'laws.FnExactRatInt', WHERE WHAT IT READS IS OF BULK AT MOST 1048576: true; the input reads as it did. -/
def fnExactRatIntUptoRow : OpenClaim := { program := "ytkkdlgiilhngcaadoor", sum := "9d984599c6240398beae7347364e42941db42e3c25e7d0cb25bacebadf649a5f", func := "loop.example/g00793/laws.FnExactRatInt", spec := "fnExactRatInt", inPlace := ["math/bits.Add64", "internal/reflectlite.TypeOf"], unfollowed := true, recurses := true, named := ["loop.example/g00793/impl.errZeroDivisor", "math/bits.divideError", "math/bits.overflowError"], ifaces := true, apart := false, laid := [("loop.example/g00793/impl.errZeroDivisor", laid_loop_example_g00793_impl_errZeroDivisor)], narrowed := true }
def FnExactRatIntUptoSaid : Prop := fnExactRatIntUptoRow.holds Tryd.pinned (OpenSpec.upto fnExactRatIntSpec)

/-- 'laws.FnExactRatAdd', WHERE WHAT IT READS IS OF BULK AT MOST 1048576: true; the input reads as it did. -/
def fnExactRatAddUptoRow : OpenClaim := { program := "ytkkdlgiilhngcaadoor", sum := "9d984599c6240398beae7347364e42941db42e3c25e7d0cb25bacebadf649a5f", func := "loop.example/g00793/laws.FnExactRatAdd", spec := "fnExactRatAdd", inPlace := ["math/bits.Add64", "internal/reflectlite.TypeOf"], unfollowed := true, recurses := true, named := ["loop.example/g00793/impl.errZeroDivisor", "math/bits.divideError", "math/bits.overflowError"], ifaces := true, apart := false, laid := [("loop.example/g00793/impl.errZeroDivisor", laid_loop_example_g00793_impl_errZeroDivisor)], narrowed := true }
def FnExactRatAddUptoSaid : Prop := fnExactRatAddUptoRow.holds Tryd.pinned (OpenSpec.upto fnExactRatAddSpec)

/-- 'laws.FnExactRatNeg', WHERE WHAT IT READS IS OF BULK AT MOST 1048576: true; the input reads as it did. -/
def fnExactRatNegUptoRow : OpenClaim := { program := "ytkkdlgiilhngcaadoor", sum := "9d984599c6240398beae7347364e42941db42e3c25e7d0cb25bacebadf649a5f", func := "loop.example/g00793/laws.FnExactRatNeg", spec := "fnExactRatNeg", inPlace := ["math/bits.Add64", "internal/reflectlite.TypeOf"], unfollowed := true, recurses := true, named := ["loop.example/g00793/impl.errZeroDivisor", "math/bits.divideError", "math/bits.overflowError"], ifaces := true, apart := false, laid := [("loop.example/g00793/impl.errZeroDivisor", laid_loop_example_g00793_impl_errZeroDivisor)], narrowed := true }
def FnExactRatNegUptoSaid : Prop := fnExactRatNegUptoRow.holds Tryd.pinned (OpenSpec.upto fnExactRatNegSpec)

/-- 'laws.FnExactRatMul', WHERE WHAT IT READS IS OF BULK AT MOST 1048576: true; the input reads as it did. -/
def fnExactRatMulUptoRow : OpenClaim := { program := "ytkkdlgiilhngcaadoor", sum := "9d984599c6240398beae7347364e42941db42e3c25e7d0cb25bacebadf649a5f", func := "loop.example/g00793/laws.FnExactRatMul", spec := "fnExactRatMul", inPlace := ["math/bits.Add64", "internal/reflectlite.TypeOf"], unfollowed := true, recurses := true, named := ["loop.example/g00793/impl.errZeroDivisor", "math/bits.divideError", "math/bits.overflowError"], ifaces := true, apart := false, laid := [("loop.example/g00793/impl.errZeroDivisor", laid_loop_example_g00793_impl_errZeroDivisor)], narrowed := true }
def FnExactRatMulUptoSaid : Prop := fnExactRatMulUptoRow.holds Tryd.pinned (OpenSpec.upto fnExactRatMulSpec)

/-- 'laws.FnExactRatDiv', WHERE WHAT IT READS IS OF BULK AT MOST 1048576: true; the input reads as it did. -/
def fnExactRatDivUptoRow : OpenClaim := { program := "ytkkdlgiilhngcaadoor", sum := "9d984599c6240398beae7347364e42941db42e3c25e7d0cb25bacebadf649a5f", func := "loop.example/g00793/laws.FnExactRatDiv", spec := "fnExactRatDiv", inPlace := ["math/bits.Add64", "internal/reflectlite.TypeOf"], unfollowed := true, recurses := true, named := ["loop.example/g00793/impl.errZeroDivisor", "math/bits.divideError", "math/bits.overflowError"], ifaces := true, apart := false, laid := [("loop.example/g00793/impl.errZeroDivisor", laid_loop_example_g00793_impl_errZeroDivisor)], narrowed := true }
def FnExactRatDivUptoSaid : Prop := fnExactRatDivUptoRow.holds Tryd.pinned (OpenSpec.upto fnExactRatDivSpec)

/-- 'laws.FnExactRatCmp', WHERE WHAT IT READS IS OF BULK AT MOST 1048576: true; the input reads as it did. -/
def fnExactRatCmpUptoRow : OpenClaim := { program := "ytkkdlgiilhngcaadoor", sum := "9d984599c6240398beae7347364e42941db42e3c25e7d0cb25bacebadf649a5f", func := "loop.example/g00793/laws.FnExactRatCmp", spec := "fnExactRatCmp", inPlace := ["math/bits.Add64", "internal/reflectlite.TypeOf"], unfollowed := true, recurses := true, named := ["loop.example/g00793/impl.errZeroDivisor", "math/bits.divideError", "math/bits.overflowError"], ifaces := true, apart := false, laid := [("loop.example/g00793/impl.errZeroDivisor", laid_loop_example_g00793_impl_errZeroDivisor)], narrowed := true }
def FnExactRatCmpUptoSaid : Prop := fnExactRatCmpUptoRow.holds Tryd.pinned (OpenSpec.upto fnExactRatCmpSpec)

/-- 'laws.FnExactRatSign', WHERE WHAT IT READS IS OF BULK AT MOST 1048576: true; the input reads as it did. -/
def fnExactRatSignUptoRow : OpenClaim := { program := "ytkkdlgiilhngcaadoor", sum := "9d984599c6240398beae7347364e42941db42e3c25e7d0cb25bacebadf649a5f", func := "loop.example/g00793/laws.FnExactRatSign", spec := "fnExactRatSign", inPlace := ["math/bits.Add64", "internal/reflectlite.TypeOf"], unfollowed := true, recurses := true, named := ["loop.example/g00793/impl.errZeroDivisor", "math/bits.divideError", "math/bits.overflowError"], ifaces := true, apart := false, laid := [("loop.example/g00793/impl.errZeroDivisor", laid_loop_example_g00793_impl_errZeroDivisor)], narrowed := true }
def FnExactRatSignUptoSaid : Prop := fnExactRatSignUptoRow.holds Tryd.pinned (OpenSpec.upto fnExactRatSignSpec)

end Rows
end Go.Proofs.YtkkdlgiilhngcaaDoor
