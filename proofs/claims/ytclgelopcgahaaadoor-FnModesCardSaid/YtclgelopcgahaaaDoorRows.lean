/-
  NARROWER THAN 'FOR EVERY INPUT', by the rows' own cells (each row's printed sentence says how): FnModes: ifaces, laid · FnStep: ifaces, laid · FnExactRatRound: ifaces, laid · FnExactRatFloor: ifaces, laid · FnExactRatWhole: ifaces, laid · FnExactRatHalf: ifaces, laid.
  DERIVED. THE GIVEN ROWS OF THIS SEAT. 6 by the template 'for every input the law returns true; each argument reads behind the call as it read before'; 0 by the template 'total and deterministic' (their statements: YtclgelopcgahaaaDoorTotals.lean).
  GIVEN WITH THE SEED: the statements are not yours to turn. If you find one false, say at which input.
  Laid BY PROGRAM, IN A SANDBOX (cutbox-rows.mjs): the forced cells as the released guide's own fill.sh prints them over the translation 3e94e7f17c5b8bec… (all of the seat's roots in one cut). By AI agents, Wed Nov 11 2026. No macro, syntax, notation, axiom, sorry.
-/
import Derived.Test.YtclgelopcgahaaaDoorChecked
import GoSem.Claim
import GoSem.ClaimJoined
import GoSem.ClaimMapViews
import Derived.JoinedTies
import Derived.KernelRfl
namespace Go.Proofs.YtclgelopcgahaaaDoor
/- THE CELL 'sum', in the pinned program and in every row, IS THE sha256 OF THE DUMP (.gsa) THAT YtclgelopcgahaaaDoorProg.lean LOADS. Nothing in Lean hashes anything: it is a label: what it is worth is what the hold of that sum in a sandbox is worth. -/
noncomputable def Tryd.pinned : Pinned := { name := "ytclgelopcgahaaadoor", sum := "3e94e7f17c5b8bec175164a312b15cbf0f9002e78b0f1afeb03678811e76fda5", checked := Tryd.checked }
namespace Rows
def none {H : Type} : Left H := { results := [], args := [] }

/- WHAT THE LISTED PACKAGE-LEVEL VARIABLES READ AS WHEN THE CALL BEGINS. Each datum BY PROGRAM (the guide's laid-datum.mjs) off the statement by which the dump's own 'gosem.cut.vars' lays the variable. In a bare row this is a premise. The card (YtclgelopcgahaaaDoorCards.lean) ties it to the program's text. -/
def laid_loop_example_g00793_impl_errZeroDivisor {H : Type} : DataW H := .iface "*errors.errorString" (.ptr (.agg [.lit (.string [100, 105, 118, 105, 115, 105, 111, 110, 32, 98, 121, 32, 122, 101, 114, 111])]))

/-- 'laws.FnModes': WHATEVER THE INPUT: true; the input reads as it did. -/
def fnModesSpec : ChangeSpec := { name := "fnModes", vars := ["loop.example/g00793/impl.errZeroDivisor"], fn := fun _ => fun
  | [d, g1] => { results := [.lit (.bool true)], args := [d], vars := [g1] }
  | _ => none }
def fnModesRow : OpenClaim := { program := "ytclgelopcgahaaadoor", sum := "3e94e7f17c5b8bec175164a312b15cbf0f9002e78b0f1afeb03678811e76fda5", func := "loop.example/g00793/laws.FnModes", spec := "fnModes", inPlace := ["math/bits.Add64", "internal/reflectlite.TypeOf"], unfollowed := true, recurses := true, named := ["loop.example/g00793/impl.errZeroDivisor", "math/bits.divideError", "math/bits.overflowError"], ifaces := true, apart := false, laid := [("loop.example/g00793/impl.errZeroDivisor", laid_loop_example_g00793_impl_errZeroDivisor)] }
def FnModesSaid : Prop := fnModesRow.holds Tryd.pinned (OpenSpec.ofChange fnModesSpec)

/-- ITS FALSE NEIGHBOUR: 'it returns false'. Refute it at one input. -/
def fnModesWrong : ChangeSpec := { name := "fnModes", vars := ["loop.example/g00793/impl.errZeroDivisor"], fn := fun _ => fun
  | [d, g1] => { results := [.lit (.bool false)], args := [d], vars := [g1] }
  | _ => none }
def FnModesWrongFalsely : Prop := fnModesRow.holds Tryd.pinned (OpenSpec.ofChange fnModesWrong)

/-- 'laws.FnStep': WHATEVER THE INPUT: true; the input reads as it did. -/
def fnStepSpec : ChangeSpec := { name := "fnStep", vars := ["loop.example/g00793/impl.errZeroDivisor"], fn := fun _ => fun
  | [d, g1] => { results := [.lit (.bool true)], args := [d], vars := [g1] }
  | _ => none }
def fnStepRow : OpenClaim := { program := "ytclgelopcgahaaadoor", sum := "3e94e7f17c5b8bec175164a312b15cbf0f9002e78b0f1afeb03678811e76fda5", func := "loop.example/g00793/laws.FnStep", spec := "fnStep", inPlace := ["math/bits.Add64", "internal/reflectlite.TypeOf"], unfollowed := true, recurses := true, named := ["loop.example/g00793/impl.errZeroDivisor", "math/bits.divideError", "math/bits.overflowError"], ifaces := true, apart := false, laid := [("loop.example/g00793/impl.errZeroDivisor", laid_loop_example_g00793_impl_errZeroDivisor)] }
def FnStepSaid : Prop := fnStepRow.holds Tryd.pinned (OpenSpec.ofChange fnStepSpec)

/-- ITS FALSE NEIGHBOUR: 'it returns false'. Refute it at one input. -/
def fnStepWrong : ChangeSpec := { name := "fnStep", vars := ["loop.example/g00793/impl.errZeroDivisor"], fn := fun _ => fun
  | [d, g1] => { results := [.lit (.bool false)], args := [d], vars := [g1] }
  | _ => none }
def FnStepWrongFalsely : Prop := fnStepRow.holds Tryd.pinned (OpenSpec.ofChange fnStepWrong)

/-- 'laws.FnExactRatRound': WHATEVER THE INPUT: true; the input reads as it did. -/
def fnExactRatRoundSpec : ChangeSpec := { name := "fnExactRatRound", vars := ["loop.example/g00793/impl.errZeroDivisor"], fn := fun _ => fun
  | [d1, d2, g1] => { results := [.lit (.bool true)], args := [d1, d2], vars := [g1] }
  | _ => none }
def fnExactRatRoundRow : OpenClaim := { program := "ytclgelopcgahaaadoor", sum := "3e94e7f17c5b8bec175164a312b15cbf0f9002e78b0f1afeb03678811e76fda5", func := "loop.example/g00793/laws.FnExactRatRound", spec := "fnExactRatRound", inPlace := ["math/bits.Add64", "internal/reflectlite.TypeOf"], unfollowed := true, recurses := true, named := ["loop.example/g00793/impl.errZeroDivisor", "math/bits.divideError", "math/bits.overflowError"], ifaces := true, apart := false, laid := [("loop.example/g00793/impl.errZeroDivisor", laid_loop_example_g00793_impl_errZeroDivisor)] }
def FnExactRatRoundSaid : Prop := fnExactRatRoundRow.holds Tryd.pinned (OpenSpec.ofChange fnExactRatRoundSpec)

/-- ITS FALSE NEIGHBOUR: 'it returns false'. Refute it at one input. -/
def fnExactRatRoundWrong : ChangeSpec := { name := "fnExactRatRound", vars := ["loop.example/g00793/impl.errZeroDivisor"], fn := fun _ => fun
  | [d1, d2, g1] => { results := [.lit (.bool false)], args := [d1, d2], vars := [g1] }
  | _ => none }
def FnExactRatRoundWrongFalsely : Prop := fnExactRatRoundRow.holds Tryd.pinned (OpenSpec.ofChange fnExactRatRoundWrong)

/-- 'laws.FnExactRatFloor': WHATEVER THE INPUT: true; the input reads as it did. -/
def fnExactRatFloorSpec : ChangeSpec := { name := "fnExactRatFloor", vars := ["loop.example/g00793/impl.errZeroDivisor"], fn := fun _ => fun
  | [d, g1] => { results := [.lit (.bool true)], args := [d], vars := [g1] }
  | _ => none }
def fnExactRatFloorRow : OpenClaim := { program := "ytclgelopcgahaaadoor", sum := "3e94e7f17c5b8bec175164a312b15cbf0f9002e78b0f1afeb03678811e76fda5", func := "loop.example/g00793/laws.FnExactRatFloor", spec := "fnExactRatFloor", inPlace := ["math/bits.Add64", "internal/reflectlite.TypeOf"], unfollowed := true, recurses := true, named := ["loop.example/g00793/impl.errZeroDivisor", "math/bits.divideError", "math/bits.overflowError"], ifaces := true, apart := false, laid := [("loop.example/g00793/impl.errZeroDivisor", laid_loop_example_g00793_impl_errZeroDivisor)] }
def FnExactRatFloorSaid : Prop := fnExactRatFloorRow.holds Tryd.pinned (OpenSpec.ofChange fnExactRatFloorSpec)

/-- ITS FALSE NEIGHBOUR: 'it returns false'. Refute it at one input. -/
def fnExactRatFloorWrong : ChangeSpec := { name := "fnExactRatFloor", vars := ["loop.example/g00793/impl.errZeroDivisor"], fn := fun _ => fun
  | [d, g1] => { results := [.lit (.bool false)], args := [d], vars := [g1] }
  | _ => none }
def FnExactRatFloorWrongFalsely : Prop := fnExactRatFloorRow.holds Tryd.pinned (OpenSpec.ofChange fnExactRatFloorWrong)

/-- 'laws.FnExactRatWhole': WHATEVER THE INPUT: true; the input reads as it did. -/
def fnExactRatWholeSpec : ChangeSpec := { name := "fnExactRatWhole", vars := ["loop.example/g00793/impl.errZeroDivisor"], fn := fun _ => fun
  | [d, g1] => { results := [.lit (.bool true)], args := [d], vars := [g1] }
  | _ => none }
def fnExactRatWholeRow : OpenClaim := { program := "ytclgelopcgahaaadoor", sum := "3e94e7f17c5b8bec175164a312b15cbf0f9002e78b0f1afeb03678811e76fda5", func := "loop.example/g00793/laws.FnExactRatWhole", spec := "fnExactRatWhole", inPlace := ["math/bits.Add64", "internal/reflectlite.TypeOf"], unfollowed := true, recurses := true, named := ["loop.example/g00793/impl.errZeroDivisor", "math/bits.divideError", "math/bits.overflowError"], ifaces := true, apart := false, laid := [("loop.example/g00793/impl.errZeroDivisor", laid_loop_example_g00793_impl_errZeroDivisor)] }
def FnExactRatWholeSaid : Prop := fnExactRatWholeRow.holds Tryd.pinned (OpenSpec.ofChange fnExactRatWholeSpec)

/-- ITS FALSE NEIGHBOUR: 'it returns false'. Refute it at one input. -/
def fnExactRatWholeWrong : ChangeSpec := { name := "fnExactRatWhole", vars := ["loop.example/g00793/impl.errZeroDivisor"], fn := fun _ => fun
  | [d, g1] => { results := [.lit (.bool false)], args := [d], vars := [g1] }
  | _ => none }
def FnExactRatWholeWrongFalsely : Prop := fnExactRatWholeRow.holds Tryd.pinned (OpenSpec.ofChange fnExactRatWholeWrong)

/-- 'laws.FnExactRatHalf': WHATEVER THE INPUT: true; the input reads as it did. -/
def fnExactRatHalfSpec : ChangeSpec := { name := "fnExactRatHalf", vars := ["loop.example/g00793/impl.errZeroDivisor"], fn := fun _ => fun
  | [d, g1] => { results := [.lit (.bool true)], args := [d], vars := [g1] }
  | _ => none }
def fnExactRatHalfRow : OpenClaim := { program := "ytclgelopcgahaaadoor", sum := "3e94e7f17c5b8bec175164a312b15cbf0f9002e78b0f1afeb03678811e76fda5", func := "loop.example/g00793/laws.FnExactRatHalf", spec := "fnExactRatHalf", inPlace := ["math/bits.Add64", "internal/reflectlite.TypeOf"], unfollowed := true, recurses := true, named := ["loop.example/g00793/impl.errZeroDivisor", "math/bits.divideError", "math/bits.overflowError"], ifaces := true, apart := false, laid := [("loop.example/g00793/impl.errZeroDivisor", laid_loop_example_g00793_impl_errZeroDivisor)] }
def FnExactRatHalfSaid : Prop := fnExactRatHalfRow.holds Tryd.pinned (OpenSpec.ofChange fnExactRatHalfSpec)

/-- ITS FALSE NEIGHBOUR: 'it returns false'. Refute it at one input. -/
def fnExactRatHalfWrong : ChangeSpec := { name := "fnExactRatHalf", vars := ["loop.example/g00793/impl.errZeroDivisor"], fn := fun _ => fun
  | [d, g1] => { results := [.lit (.bool false)], args := [d], vars := [g1] }
  | _ => none }
def FnExactRatHalfWrongFalsely : Prop := fnExactRatHalfRow.holds Tryd.pinned (OpenSpec.ofChange fnExactRatHalfWrong)

/- THE SECOND FORM. 'bulk': how many values and letters a reading holds, each counted each time it is reached (what is shared counts as often as it is met; a slice's spare places count too). A statement '..UptoSaid' is the law's where the arguments, and the package variables that the reading takes, are together of bulk at most 1048576: NARROWER than '..Said'. Prove '..Said' where nothing that the law and all that it calls make is longer than what came in: it says more and counts as full. Else prove '..UptoSaid'. A law counts once. -/
mutual
def uptoBulk {H : Type} : DataW H → Nat
  | .lit (.string bytes) => bytes.length + 1
  | .lit _ => 1
  | .nil => 1
  | .ptr d => uptoBulk d + 1
  | .slice elems spare => uptoBulkAll elems + uptoBulkAll spare + 1
  | .agg parts => uptoBulkAll parts + 1
  | .iface _ d => uptoBulk d + 1
  | .map entries => uptoBulkEntries entries + 1
  | .held _ => 1
def uptoBulkAll {H : Type} : List (DataW H) → Nat
  | [] => 0
  | d :: r => uptoBulk d + uptoBulkAll r
def uptoBulkEntries {H : Type} : List (Lit × DataW H) → Nat
  | [] => 0
  | x :: r => uptoBulkEntry x + uptoBulkEntries r
def uptoBulkEntry {H : Type} : Lit × DataW H → Nat
  | (.string bytes, d) => bytes.length + uptoBulk d + 1
  | (_, d) => uptoBulk d + 1
 end
def uptoSmall : (H : Type) → List (DataW H) → Bool := fun _ ds => decide (uptoBulkAll ds ≤ 1048576)
def OpenSpec.upto (s : _root_.Go.ChangeSpec) : _root_.Go.OpenSpec := { _root_.Go.OpenSpec.ofChange s with cond := some uptoSmall }

/-- 'laws.FnModes', WHERE WHAT IT READS IS OF BULK AT MOST 1048576: true; the input reads as it did. -/
def fnModesUptoRow : OpenClaim := { program := "ytclgelopcgahaaadoor", sum := "3e94e7f17c5b8bec175164a312b15cbf0f9002e78b0f1afeb03678811e76fda5", func := "loop.example/g00793/laws.FnModes", spec := "fnModes", inPlace := ["math/bits.Add64", "internal/reflectlite.TypeOf"], unfollowed := true, recurses := true, named := ["loop.example/g00793/impl.errZeroDivisor", "math/bits.divideError", "math/bits.overflowError"], ifaces := true, apart := false, laid := [("loop.example/g00793/impl.errZeroDivisor", laid_loop_example_g00793_impl_errZeroDivisor)], narrowed := true }
def FnModesUptoSaid : Prop := fnModesUptoRow.holds Tryd.pinned (OpenSpec.upto fnModesSpec)

/-- 'laws.FnStep', WHERE WHAT IT READS IS OF BULK AT MOST 1048576: true; the input reads as it did. -/
def fnStepUptoRow : OpenClaim := { program := "ytclgelopcgahaaadoor", sum := "3e94e7f17c5b8bec175164a312b15cbf0f9002e78b0f1afeb03678811e76fda5", func := "loop.example/g00793/laws.FnStep", spec := "fnStep", inPlace := ["math/bits.Add64", "internal/reflectlite.TypeOf"], unfollowed := true, recurses := true, named := ["loop.example/g00793/impl.errZeroDivisor", "math/bits.divideError", "math/bits.overflowError"], ifaces := true, apart := false, laid := [("loop.example/g00793/impl.errZeroDivisor", laid_loop_example_g00793_impl_errZeroDivisor)], narrowed := true }
def FnStepUptoSaid : Prop := fnStepUptoRow.holds Tryd.pinned (OpenSpec.upto fnStepSpec)

/-- 'laws.FnExactRatRound', WHERE WHAT IT READS IS OF BULK AT MOST 1048576: true; the input reads as it did. -/
def fnExactRatRoundUptoRow : OpenClaim := { program := "ytclgelopcgahaaadoor", sum := "3e94e7f17c5b8bec175164a312b15cbf0f9002e78b0f1afeb03678811e76fda5", func := "loop.example/g00793/laws.FnExactRatRound", spec := "fnExactRatRound", inPlace := ["math/bits.Add64", "internal/reflectlite.TypeOf"], unfollowed := true, recurses := true, named := ["loop.example/g00793/impl.errZeroDivisor", "math/bits.divideError", "math/bits.overflowError"], ifaces := true, apart := false, laid := [("loop.example/g00793/impl.errZeroDivisor", laid_loop_example_g00793_impl_errZeroDivisor)], narrowed := true }
def FnExactRatRoundUptoSaid : Prop := fnExactRatRoundUptoRow.holds Tryd.pinned (OpenSpec.upto fnExactRatRoundSpec)

/-- 'laws.FnExactRatFloor', WHERE WHAT IT READS IS OF BULK AT MOST 1048576: true; the input reads as it did. -/
def fnExactRatFloorUptoRow : OpenClaim := { program := "ytclgelopcgahaaadoor", sum := "3e94e7f17c5b8bec175164a312b15cbf0f9002e78b0f1afeb03678811e76fda5", func := "loop.example/g00793/laws.FnExactRatFloor", spec := "fnExactRatFloor", inPlace := ["math/bits.Add64", "internal/reflectlite.TypeOf"], unfollowed := true, recurses := true, named := ["loop.example/g00793/impl.errZeroDivisor", "math/bits.divideError", "math/bits.overflowError"], ifaces := true, apart := false, laid := [("loop.example/g00793/impl.errZeroDivisor", laid_loop_example_g00793_impl_errZeroDivisor)], narrowed := true }
def FnExactRatFloorUptoSaid : Prop := fnExactRatFloorUptoRow.holds Tryd.pinned (OpenSpec.upto fnExactRatFloorSpec)

/-- 'laws.FnExactRatWhole', WHERE WHAT IT READS IS OF BULK AT MOST 1048576: true; the input reads as it did. -/
def fnExactRatWholeUptoRow : OpenClaim := { program := "ytclgelopcgahaaadoor", sum := "3e94e7f17c5b8bec175164a312b15cbf0f9002e78b0f1afeb03678811e76fda5", func := "loop.example/g00793/laws.FnExactRatWhole", spec := "fnExactRatWhole", inPlace := ["math/bits.Add64", "internal/reflectlite.TypeOf"], unfollowed := true, recurses := true, named := ["loop.example/g00793/impl.errZeroDivisor", "math/bits.divideError", "math/bits.overflowError"], ifaces := true, apart := false, laid := [("loop.example/g00793/impl.errZeroDivisor", laid_loop_example_g00793_impl_errZeroDivisor)], narrowed := true }
def FnExactRatWholeUptoSaid : Prop := fnExactRatWholeUptoRow.holds Tryd.pinned (OpenSpec.upto fnExactRatWholeSpec)

/-- 'laws.FnExactRatHalf', WHERE WHAT IT READS IS OF BULK AT MOST 1048576: true; the input reads as it did. -/
def fnExactRatHalfUptoRow : OpenClaim := { program := "ytclgelopcgahaaadoor", sum := "3e94e7f17c5b8bec175164a312b15cbf0f9002e78b0f1afeb03678811e76fda5", func := "loop.example/g00793/laws.FnExactRatHalf", spec := "fnExactRatHalf", inPlace := ["math/bits.Add64", "internal/reflectlite.TypeOf"], unfollowed := true, recurses := true, named := ["loop.example/g00793/impl.errZeroDivisor", "math/bits.divideError", "math/bits.overflowError"], ifaces := true, apart := false, laid := [("loop.example/g00793/impl.errZeroDivisor", laid_loop_example_g00793_impl_errZeroDivisor)], narrowed := true }
def FnExactRatHalfUptoSaid : Prop := fnExactRatHalfUptoRow.holds Tryd.pinned (OpenSpec.upto fnExactRatHalfSpec)

end Rows
end Go.Proofs.YtclgelopcgahaaaDoor
