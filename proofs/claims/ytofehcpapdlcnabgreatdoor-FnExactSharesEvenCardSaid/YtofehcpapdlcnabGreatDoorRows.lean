/-
  NARROWER THAN 'FOR EVERY INPUT', by the rows' own cells (each row's printed sentence says how): FnExactSharesOk: ifaces, laid · FnExactShares: ifaces, laid · FnExactSharesEven: ifaces, laid · FnExactShareMoney: ifaces, laid.
  DERIVED. THE GIVEN ROWS OF THIS SEAT. 4 by the template 'for every input the law returns true; each argument reads behind the call as it read before'; 0 by the template 'total and deterministic' (their statements: YtofehcpapdlcnabGreatDoorTotals.lean).
  GIVEN WITH THE SEED: the statements are not yours to turn. If you find one false, say at which input.
  Laid BY PROGRAM, IN A SANDBOX (cutbox-rows.mjs): the forced cells as the released guide's own fill.sh prints them over the translation e0029160eb2d5617… (all of the seat's roots in one cut). By AI agents, Wed Nov 11 2026. No macro, syntax, notation, axiom, sorry.
-/
import Derived.Test.YtofehcpapdlcnabGreatDoorChecked
import GoSem.Claim
import GoSem.ClaimJoined
import GoSem.ClaimMapViews
import Derived.JoinedTies
import Derived.KernelRfl
namespace Go.Proofs.YtofehcpapdlcnabGreatDoor
/- THE CELL 'sum', in the pinned program and in every row, IS THE sha256 OF THE DUMP (.gsa) THAT YtofehcpapdlcnabGreatDoorProg.lean LOADS. Nothing in Lean hashes anything: it is a label: what it is worth is what the hold of that sum in a sandbox is worth. -/
noncomputable def Tryz.pinned : Pinned := { name := "ytofehcpapdlcnabgreatdoor", sum := "e0029160eb2d561767b80601817659e3a236edff2b9230fe082c5b75e401697d", checked := Tryz.checked }
namespace Rows
def none {H : Type} : Left H := { results := [], args := [] }

/- WHAT THE LISTED PACKAGE-LEVEL VARIABLES READ AS WHEN THE CALL BEGINS. Each datum BY PROGRAM (the guide's laid-datum.mjs) off the statement by which the dump's own 'gosem.cut.vars' lays the variable. In a bare row this is a premise. The card (YtofehcpapdlcnabGreatDoorCards.lean) ties it to the program's text. -/
def laid_loop_example_g00793_impl_errZeroDivisor {H : Type} : DataW H := .iface "*errors.errorString" (.ptr (.agg [.lit (.string [100, 105, 118, 105, 115, 105, 111, 110, 32, 98, 121, 32, 122, 101, 114, 111])]))
def laid_loop_example_g00793_impl_currencies {H : Type} : DataW H := .agg [.agg [.lit (.string [67, 72, 70]), .lit (.string [55, 53, 54]), .lit (.int .i64 2), .lit (.int .i64 5)], .agg [.lit (.string [69, 85, 82]), .lit (.string [57, 55, 56]), .lit (.int .i64 2), .lit (.int .i64 1)], .agg [.lit (.string [85, 83, 68]), .lit (.string [56, 52, 48]), .lit (.int .i64 2), .lit (.int .i64 1)], .agg [.lit (.string [71, 66, 80]), .lit (.string [56, 50, 54]), .lit (.int .i64 2), .lit (.int .i64 1)], .agg [.lit (.string [74, 80, 89]), .lit (.string [51, 57, 50]), .lit (.int .i64 0), .lit (.int .i64 1)], .agg [.lit (.string [83, 69, 75]), .lit (.string [55, 53, 50]), .lit (.int .i64 2), .lit (.int .i64 100)], .agg [.lit (.string [78, 79, 75]), .lit (.string [53, 55, 56]), .lit (.int .i64 2), .lit (.int .i64 100)], .agg [.lit (.string [68, 75, 75]), .lit (.string [50, 48, 56]), .lit (.int .i64 2), .lit (.int .i64 50)], .agg [.lit (.string [67, 90, 75]), .lit (.string [50, 48, 51]), .lit (.int .i64 2), .lit (.int .i64 100)], .agg [.lit (.string [72, 85, 70]), .lit (.string [51, 52, 56]), .lit (.int .i64 2), .lit (.int .i64 500)], .agg [.lit (.string [80, 76, 78]), .lit (.string [57, 56, 53]), .lit (.int .i64 2), .lit (.int .i64 1)], .agg [.lit (.string [67, 65, 68]), .lit (.string [49, 50, 52]), .lit (.int .i64 2), .lit (.int .i64 5)], .agg [.lit (.string [65, 85, 68]), .lit (.string [48, 51, 54]), .lit (.int .i64 2), .lit (.int .i64 5)], .agg [.lit (.string [78, 90, 68]), .lit (.string [53, 53, 52]), .lit (.int .i64 2), .lit (.int .i64 10)], .agg [.lit (.string [75, 87, 68]), .lit (.string [52, 49, 52]), .lit (.int .i64 3), .lit (.int .i64 5)], .agg [.lit (.string [66, 72, 68]), .lit (.string [48, 52, 56]), .lit (.int .i64 3), .lit (.int .i64 5)], .agg [.lit (.string [84, 78, 68]), .lit (.string [55, 56, 56]), .lit (.int .i64 3), .lit (.int .i64 10)], .agg [.lit (.string [73, 83, 75]), .lit (.string [51, 53, 50]), .lit (.int .i64 0), .lit (.int .i64 1)], .agg [.lit (.string [75, 82, 87]), .lit (.string [52, 49, 48]), .lit (.int .i64 0), .lit (.int .i64 10)], .agg [.lit (.string [67, 76, 70]), .lit (.string [57, 57, 48]), .lit (.int .i64 4), .lit (.int .i64 1)]]

/-- 'laws.FnExactSharesOk': WHATEVER THE INPUT: true; the input reads as it did. -/
def fnExactSharesOkSpec : ChangeSpec := { name := "fnExactSharesOk", vars := ["loop.example/g00793/impl.errZeroDivisor"], fn := fun _ => fun
  | [d1, d2, d3, g1] => { results := [.lit (.bool true)], args := [d1, d2, d3], vars := [g1] }
  | _ => none }
def fnExactSharesOkRow : OpenClaim := { program := "ytofehcpapdlcnabgreatdoor", sum := "e0029160eb2d561767b80601817659e3a236edff2b9230fe082c5b75e401697d", func := "loop.example/g00793/laws.FnExactSharesOk", spec := "fnExactSharesOk", inPlace := ["math/bits.Add64", "internal/reflectlite.TypeOf"], unfollowed := true, recurses := true, named := ["loop.example/g00793/impl.errZeroDivisor", "math/bits.divideError", "math/bits.overflowError"], ifaces := true, apart := false, laid := [("loop.example/g00793/impl.errZeroDivisor", laid_loop_example_g00793_impl_errZeroDivisor)] }
def FnExactSharesOkSaid : Prop := fnExactSharesOkRow.holds Tryz.pinned (OpenSpec.ofChange fnExactSharesOkSpec)

/-- ITS FALSE NEIGHBOUR: 'it returns false'. Refute it at one input. -/
def fnExactSharesOkWrong : ChangeSpec := { name := "fnExactSharesOk", vars := ["loop.example/g00793/impl.errZeroDivisor"], fn := fun _ => fun
  | [d1, d2, d3, g1] => { results := [.lit (.bool false)], args := [d1, d2, d3], vars := [g1] }
  | _ => none }
def FnExactSharesOkWrongFalsely : Prop := fnExactSharesOkRow.holds Tryz.pinned (OpenSpec.ofChange fnExactSharesOkWrong)

/-- 'laws.FnExactShares': WHATEVER THE INPUT: true; the input reads as it did. -/
def fnExactSharesSpec : ChangeSpec := { name := "fnExactShares", vars := ["loop.example/g00793/impl.errZeroDivisor"], fn := fun _ => fun
  | [d1, d2, g1] => { results := [.lit (.bool true)], args := [d1, d2], vars := [g1] }
  | _ => none }
def fnExactSharesRow : OpenClaim := { program := "ytofehcpapdlcnabgreatdoor", sum := "e0029160eb2d561767b80601817659e3a236edff2b9230fe082c5b75e401697d", func := "loop.example/g00793/laws.FnExactShares", spec := "fnExactShares", inPlace := ["math/bits.Add64", "internal/reflectlite.TypeOf"], unfollowed := true, recurses := true, named := ["loop.example/g00793/impl.errZeroDivisor", "math/bits.divideError", "math/bits.overflowError"], ifaces := true, apart := false, laid := [("loop.example/g00793/impl.errZeroDivisor", laid_loop_example_g00793_impl_errZeroDivisor)] }
def FnExactSharesSaid : Prop := fnExactSharesRow.holds Tryz.pinned (OpenSpec.ofChange fnExactSharesSpec)

/-- ITS FALSE NEIGHBOUR: 'it returns false'. Refute it at one input. -/
def fnExactSharesWrong : ChangeSpec := { name := "fnExactShares", vars := ["loop.example/g00793/impl.errZeroDivisor"], fn := fun _ => fun
  | [d1, d2, g1] => { results := [.lit (.bool false)], args := [d1, d2], vars := [g1] }
  | _ => none }
def FnExactSharesWrongFalsely : Prop := fnExactSharesRow.holds Tryz.pinned (OpenSpec.ofChange fnExactSharesWrong)

/-- 'laws.FnExactSharesEven': WHATEVER THE INPUT: true; the input reads as it did. -/
def fnExactSharesEvenSpec : ChangeSpec := { name := "fnExactSharesEven", vars := ["loop.example/g00793/impl.errZeroDivisor"], fn := fun _ => fun
  | [d1, d2, g1] => { results := [.lit (.bool true)], args := [d1, d2], vars := [g1] }
  | _ => none }
def fnExactSharesEvenRow : OpenClaim := { program := "ytofehcpapdlcnabgreatdoor", sum := "e0029160eb2d561767b80601817659e3a236edff2b9230fe082c5b75e401697d", func := "loop.example/g00793/laws.FnExactSharesEven", spec := "fnExactSharesEven", inPlace := ["math/bits.Add64", "internal/reflectlite.TypeOf"], unfollowed := true, recurses := true, named := ["loop.example/g00793/impl.errZeroDivisor", "math/bits.divideError", "math/bits.overflowError"], ifaces := true, apart := false, laid := [("loop.example/g00793/impl.errZeroDivisor", laid_loop_example_g00793_impl_errZeroDivisor)] }
def FnExactSharesEvenSaid : Prop := fnExactSharesEvenRow.holds Tryz.pinned (OpenSpec.ofChange fnExactSharesEvenSpec)

/-- ITS FALSE NEIGHBOUR: 'it returns false'. Refute it at one input. -/
def fnExactSharesEvenWrong : ChangeSpec := { name := "fnExactSharesEven", vars := ["loop.example/g00793/impl.errZeroDivisor"], fn := fun _ => fun
  | [d1, d2, g1] => { results := [.lit (.bool false)], args := [d1, d2], vars := [g1] }
  | _ => none }
def FnExactSharesEvenWrongFalsely : Prop := fnExactSharesEvenRow.holds Tryz.pinned (OpenSpec.ofChange fnExactSharesEvenWrong)

/-- 'laws.FnExactShareMoney': WHATEVER THE INPUT: true; the input reads as it did. -/
def fnExactShareMoneySpec : ChangeSpec := { name := "fnExactShareMoney", vars := ["loop.example/g00793/impl.errZeroDivisor", "loop.example/g00793/impl.currencies"], fn := fun _ => fun
  | [d1, d2, g1, g2] => { results := [.lit (.bool true)], args := [d1, d2], vars := [g1, g2] }
  | _ => none }
def fnExactShareMoneyRow : OpenClaim := { program := "ytofehcpapdlcnabgreatdoor", sum := "e0029160eb2d561767b80601817659e3a236edff2b9230fe082c5b75e401697d", func := "loop.example/g00793/laws.FnExactShareMoney", spec := "fnExactShareMoney", inPlace := ["math/bits.Add64", "internal/reflectlite.TypeOf"], unfollowed := true, recurses := true, named := ["loop.example/g00793/impl.errZeroDivisor", "math/bits.divideError", "math/bits.overflowError", "loop.example/g00793/impl.currencies"], ifaces := true, apart := false, laid := [("loop.example/g00793/impl.errZeroDivisor", laid_loop_example_g00793_impl_errZeroDivisor), ("loop.example/g00793/impl.currencies", laid_loop_example_g00793_impl_currencies)] }
def FnExactShareMoneySaid : Prop := fnExactShareMoneyRow.holds Tryz.pinned (OpenSpec.ofChange fnExactShareMoneySpec)

/-- ITS FALSE NEIGHBOUR: 'it returns false'. Refute it at one input. -/
def fnExactShareMoneyWrong : ChangeSpec := { name := "fnExactShareMoney", vars := ["loop.example/g00793/impl.errZeroDivisor", "loop.example/g00793/impl.currencies"], fn := fun _ => fun
  | [d1, d2, g1, g2] => { results := [.lit (.bool false)], args := [d1, d2], vars := [g1, g2] }
  | _ => none }
def FnExactShareMoneyWrongFalsely : Prop := fnExactShareMoneyRow.holds Tryz.pinned (OpenSpec.ofChange fnExactShareMoneyWrong)

/- THE SECOND FORM. 'bulk': how many values and letters a reading holds, each counted each time it is reached (what is shared counts as often as it is met; a slice's spare places count too). A statement '..UptoSaid' is the law's where the arguments, and the package variables that the reading takes, are together of bulk at most 1048576: NARROWER than '..Said'. Prove '..Said' where nothing that the law and all that it calls make is longer than what came in: it says more and counts as full. Else prove '..UptoSaid'. A law counts once. -/
mutual
def uptoBulk {H : Type} : DataW H → Nat
  | .lit (.string bytes) => bytes.length + 1
  | .lit _ => 1
  | .nil => 1
  | .ptr d => uptoBulk d + 1
  | .slice elems spare => uptoBulkAll elems + uptoBulkAll spare + 1
  | .agg parts => uptoBulkAll parts + 1
  | .iface _ d => uptoBulk d + 1
  | .map entries => uptoBulkEntries entries + 1
  | .held _ => 1
def uptoBulkAll {H : Type} : List (DataW H) → Nat
  | [] => 0
  | d :: r => uptoBulk d + uptoBulkAll r
def uptoBulkEntries {H : Type} : List (Lit × DataW H) → Nat
  | [] => 0
  | x :: r => uptoBulkEntry x + uptoBulkEntries r
def uptoBulkEntry {H : Type} : Lit × DataW H → Nat
  | (.string bytes, d) => bytes.length + uptoBulk d + 1
  | (_, d) => uptoBulk d + 1
 end
def uptoSmall : (H : Type) → List (DataW H) → Bool := fun _ ds => decide (uptoBulkAll ds ≤ 1048576)
def OpenSpec.upto (s : _root_.Go.ChangeSpec) : _root_.Go.OpenSpec := { _root_.Go.OpenSpec.ofChange s with cond := some uptoSmall }

/-- 'laws.FnExactSharesOk', WHERE WHAT IT READS IS OF BULK AT MOST 1048576: true; the input reads as it did. -/
def fnExactSharesOkUptoRow : OpenClaim := { program := "ytofehcpapdlcnabgreatdoor", sum := "e0029160eb2d561767b80601817659e3a236edff2b9230fe082c5b75e401697d", func := "loop.example/g00793/laws.FnExactSharesOk", spec := "fnExactSharesOk", inPlace := ["math/bits.Add64", "internal/reflectlite.TypeOf"], unfollowed := true, recurses := true, named := ["loop.example/g00793/impl.errZeroDivisor", "math/bits.divideError", "math/bits.overflowError"], ifaces := true, apart := false, laid := [("loop.example/g00793/impl.errZeroDivisor", laid_loop_example_g00793_impl_errZeroDivisor)], narrowed := true }
def FnExactSharesOkUptoSaid : Prop := fnExactSharesOkUptoRow.holds Tryz.pinned (OpenSpec.upto fnExactSharesOkSpec)

/-- 'laws.FnExactShares', WHERE WHAT IT READS IS OF BULK AT MOST 1048576: true; the input reads as it did. -/
def fnExactSharesUptoRow : OpenClaim := { program := "ytofehcpapdlcnabgreatdoor", sum := "e0029160eb2d561767b80601817659e3a236edff2b9230fe082c5b75e401697d", func := "loop.example/g00793/laws.FnExactShares", spec := "fnExactShares", inPlace := ["math/bits.Add64", "internal/reflectlite.TypeOf"], unfollowed := true, recurses := true, named := ["loop.example/g00793/impl.errZeroDivisor", "math/bits.divideError", "math/bits.overflowError"], ifaces := true, apart := false, laid := [("loop.example/g00793/impl.errZeroDivisor", laid_loop_example_g00793_impl_errZeroDivisor)], narrowed := true }
def FnExactSharesUptoSaid : Prop := fnExactSharesUptoRow.holds Tryz.pinned (OpenSpec.upto fnExactSharesSpec)

/-- 'laws.FnExactSharesEven', WHERE WHAT IT READS IS OF BULK AT MOST 1048576: true; the input reads as it did. -/
def fnExactSharesEvenUptoRow : OpenClaim := { program := "ytofehcpapdlcnabgreatdoor", sum := "e0029160eb2d561767b80601817659e3a236edff2b9230fe082c5b75e401697d", func := "loop.example/g00793/laws.FnExactSharesEven", spec := "fnExactSharesEven", inPlace := ["math/bits.Add64", "internal/reflectlite.TypeOf"], unfollowed := true, recurses := true, named := ["loop.example/g00793/impl.errZeroDivisor", "math/bits.divideError", "math/bits.overflowError"], ifaces := true, apart := false, laid := [("loop.example/g00793/impl.errZeroDivisor", laid_loop_example_g00793_impl_errZeroDivisor)], narrowed := true }
def FnExactSharesEvenUptoSaid : Prop := fnExactSharesEvenUptoRow.holds Tryz.pinned (OpenSpec.upto fnExactSharesEvenSpec)

/-- 'laws.FnExactShareMoney', WHERE WHAT IT READS IS OF BULK AT MOST 1048576: true; the input reads as it did. -/
def fnExactShareMoneyUptoRow : OpenClaim := { program := "ytofehcpapdlcnabgreatdoor", sum := "e0029160eb2d561767b80601817659e3a236edff2b9230fe082c5b75e401697d", func := "loop.example/g00793/laws.FnExactShareMoney", spec := "fnExactShareMoney", inPlace := ["math/bits.Add64", "internal/reflectlite.TypeOf"], unfollowed := true, recurses := true, named := ["loop.example/g00793/impl.errZeroDivisor", "math/bits.divideError", "math/bits.overflowError", "loop.example/g00793/impl.currencies"], ifaces := true, apart := false, laid := [("loop.example/g00793/impl.errZeroDivisor", laid_loop_example_g00793_impl_errZeroDivisor), ("loop.example/g00793/impl.currencies", laid_loop_example_g00793_impl_currencies)], narrowed := true }
def FnExactShareMoneyUptoSaid : Prop := fnExactShareMoneyUptoRow.holds Tryz.pinned (OpenSpec.upto fnExactShareMoneySpec)

end Rows
end Go.Proofs.YtofehcpapdlcnabGreatDoor
