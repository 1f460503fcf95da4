/-
  NARROWER THAN 'FOR EVERY INPUT', by the rows' own cells (each row's printed sentence says how): FnSwap: ifaces, laid · FnRates: ifaces, laid · FnPut: ifaces, laid · FnNeeded: ifaces, laid · FnSum: ifaces, laid · FnExactUnitRate: ifaces, laid · FnExactExact: ifaces, laid · FnExactConvert: ifaces, laid · FnExactNeeded: ifaces, laid · FnExactConvertSum: ifaces, laid.
  DERIVED. THE GIVEN ROWS OF THIS SEAT. 10 by the template 'for every input the law returns true; each argument reads behind the call as it read before'; 0 by the template 'total and deterministic' (their statements: YtehkknphcflofaaGreatDoorTotals.lean).
  GIVEN WITH THE SEED: the statements are not yours to turn. If you find one false, say at which input.
  Laid BY PROGRAM, IN A SANDBOX (cutbox-rows.mjs): the forced cells as the released guide's own fill.sh prints them over the translation 2073caa27f1ee574… (all of the seat's roots in one cut). By AI agents, Wed Nov 11 2026. No macro, syntax, notation, axiom, sorry.
-/
import Derived.Test.YtehkknphcflofaaGreatDoorChecked
import GoSem.PinnedTables
import GoSem.Claim
import GoSem.ClaimJoined
import GoSem.ClaimMapViews
import Derived.JoinedTies
import Derived.KernelRfl
namespace Go.Proofs.YtehkknphcflofaaGreatDoor
/- THE CELL 'sum', in the pinned program and in every row, IS THE sha256 OF THE DUMP (.gsa) THAT YtehkknphcflofaaGreatDoorProg.lean LOADS. Nothing in Lean hashes anything: it is a label: what it is worth is what the hold of that sum in a sandbox is worth. -/
noncomputable def Tryz.pinned : Pinned := { name := "ytehkknphcflofaagreatdoor", sum := "2073caa27f1ee5746a1ee7c04c89b33a7c9ab21cd75f7774f2aa225670d8583c", checked := Tryz.checked }
namespace Rows
def none {H : Type} : Left H := { results := [], args := [] }

/- WHAT THE LISTED PACKAGE-LEVEL VARIABLES READ AS WHEN THE CALL BEGINS. Each datum BY PROGRAM (the guide's laid-datum.mjs) off the statement by which the dump's own 'gosem.cut.vars' lays the variable. In a bare row this is a premise. The card (YtehkknphcflofaaGreatDoorCards.lean) ties it to the program's text. -/
def laid_errors_errorType {H : Type} : DataW H := .iface "internal/reflectlite.rtype" (.agg [.ptr (.lit (.string [101, 114, 114, 111, 114]))])
def laid_loop_example_g00793_impl_errZeroDivisor {H : Type} : DataW H := .iface "*errors.errorString" (.ptr (.agg [.lit (.string [100, 105, 118, 105, 115, 105, 111, 110, 32, 98, 121, 32, 122, 101, 114, 111])]))
def laid_loop_example_g00793_impl_currencies {H : Type} : DataW H := .agg [.agg [.lit (.string [67, 72, 70]), .lit (.string [55, 53, 54]), .lit (.int .i64 2), .lit (.int .i64 5)], .agg [.lit (.string [69, 85, 82]), .lit (.string [57, 55, 56]), .lit (.int .i64 2), .lit (.int .i64 1)], .agg [.lit (.string [85, 83, 68]), .lit (.string [56, 52, 48]), .lit (.int .i64 2), .lit (.int .i64 1)], .agg [.lit (.string [71, 66, 80]), .lit (.string [56, 50, 54]), .lit (.int .i64 2), .lit (.int .i64 1)], .agg [.lit (.string [74, 80, 89]), .lit (.string [51, 57, 50]), .lit (.int .i64 0), .lit (.int .i64 1)], .agg [.lit (.string [83, 69, 75]), .lit (.string [55, 53, 50]), .lit (.int .i64 2), .lit (.int .i64 100)], .agg [.lit (.string [78, 79, 75]), .lit (.string [53, 55, 56]), .lit (.int .i64 2), .lit (.int .i64 100)], .agg [.lit (.string [68, 75, 75]), .lit (.string [50, 48, 56]), .lit (.int .i64 2), .lit (.int .i64 50)], .agg [.lit (.string [67, 90, 75]), .lit (.string [50, 48, 51]), .lit (.int .i64 2), .lit (.int .i64 100)], .agg [.lit (.string [72, 85, 70]), .lit (.string [51, 52, 56]), .lit (.int .i64 2), .lit (.int .i64 500)], .agg [.lit (.string [80, 76, 78]), .lit (.string [57, 56, 53]), .lit (.int .i64 2), .lit (.int .i64 1)], .agg [.lit (.string [67, 65, 68]), .lit (.string [49, 50, 52]), .lit (.int .i64 2), .lit (.int .i64 5)], .agg [.lit (.string [65, 85, 68]), .lit (.string [48, 51, 54]), .lit (.int .i64 2), .lit (.int .i64 5)], .agg [.lit (.string [78, 90, 68]), .lit (.string [53, 53, 52]), .lit (.int .i64 2), .lit (.int .i64 10)], .agg [.lit (.string [75, 87, 68]), .lit (.string [52, 49, 52]), .lit (.int .i64 3), .lit (.int .i64 5)], .agg [.lit (.string [66, 72, 68]), .lit (.string [48, 52, 56]), .lit (.int .i64 3), .lit (.int .i64 5)], .agg [.lit (.string [84, 78, 68]), .lit (.string [55, 56, 56]), .lit (.int .i64 3), .lit (.int .i64 10)], .agg [.lit (.string [73, 83, 75]), .lit (.string [51, 53, 50]), .lit (.int .i64 0), .lit (.int .i64 1)], .agg [.lit (.string [75, 82, 87]), .lit (.string [52, 49, 48]), .lit (.int .i64 0), .lit (.int .i64 10)], .agg [.lit (.string [67, 76, 70]), .lit (.string [57, 57, 48]), .lit (.int .i64 4), .lit (.int .i64 1)]]
def laid_math_bits_deBruijn32tab {H : Type} : DataW H := .agg [.lit (.int .u8 0), .lit (.int .u8 1), .lit (.int .u8 28), .lit (.int .u8 2), .lit (.int .u8 29), .lit (.int .u8 14), .lit (.int .u8 24), .lit (.int .u8 3), .lit (.int .u8 30), .lit (.int .u8 22), .lit (.int .u8 20), .lit (.int .u8 15), .lit (.int .u8 25), .lit (.int .u8 17), .lit (.int .u8 4), .lit (.int .u8 8), .lit (.int .u8 31), .lit (.int .u8 27), .lit (.int .u8 13), .lit (.int .u8 23), .lit (.int .u8 21), .lit (.int .u8 19), .lit (.int .u8 16), .lit (.int .u8 7), .lit (.int .u8 26), .lit (.int .u8 12), .lit (.int .u8 18), .lit (.int .u8 6), .lit (.int .u8 11), .lit (.int .u8 5), .lit (.int .u8 10), .lit (.int .u8 9)]
def laid_math_bits_deBruijn64tab {H : Type} : DataW H := .agg [.lit (.int .u8 0), .lit (.int .u8 1), .lit (.int .u8 56), .lit (.int .u8 2), .lit (.int .u8 57), .lit (.int .u8 49), .lit (.int .u8 28), .lit (.int .u8 3), .lit (.int .u8 61), .lit (.int .u8 58), .lit (.int .u8 42), .lit (.int .u8 50), .lit (.int .u8 38), .lit (.int .u8 29), .lit (.int .u8 17), .lit (.int .u8 4), .lit (.int .u8 62), .lit (.int .u8 47), .lit (.int .u8 59), .lit (.int .u8 36), .lit (.int .u8 45), .lit (.int .u8 43), .lit (.int .u8 51), .lit (.int .u8 22), .lit (.int .u8 53), .lit (.int .u8 39), .lit (.int .u8 33), .lit (.int .u8 30), .lit (.int .u8 24), .lit (.int .u8 18), .lit (.int .u8 12), .lit (.int .u8 5), .lit (.int .u8 63), .lit (.int .u8 55), .lit (.int .u8 48), .lit (.int .u8 27), .lit (.int .u8 60), .lit (.int .u8 41), .lit (.int .u8 37), .lit (.int .u8 16), .lit (.int .u8 46), .lit (.int .u8 35), .lit (.int .u8 44), .lit (.int .u8 21), .lit (.int .u8 52), .lit (.int .u8 32), .lit (.int .u8 23), .lit (.int .u8 11), .lit (.int .u8 54), .lit (.int .u8 26), .lit (.int .u8 40), .lit (.int .u8 15), .lit (.int .u8 34), .lit (.int .u8 20), .lit (.int .u8 31), .lit (.int .u8 10), .lit (.int .u8 25), .lit (.int .u8 14), .lit (.int .u8 19), .lit (.int .u8 9), .lit (.int .u8 13), .lit (.int .u8 8), .lit (.int .u8 7), .lit (.int .u8 6)]
def laid_internal_strconv_uint64pow10 {H : Type} : DataW H := .agg [.lit (.int .u64 1), .lit (.int .u64 10), .lit (.int .u64 100), .lit (.int .u64 1000), .lit (.int .u64 10000), .lit (.int .u64 100000), .lit (.int .u64 1000000), .lit (.int .u64 10000000), .lit (.int .u64 100000000), .lit (.int .u64 1000000000), .lit (.int .u64 10000000000), .lit (.int .u64 100000000000), .lit (.int .u64 1000000000000), .lit (.int .u64 10000000000000), .lit (.int .u64 100000000000000), .lit (.int .u64 1000000000000000), .lit (.int .u64 10000000000000000), .lit (.int .u64 100000000000000000), .lit (.int .u64 1000000000000000000), .lit (.int .u64 10000000000000000000)]
def laid_unicode_utf8_acceptRanges {H : Type} : DataW H := .agg [.agg [.lit (.int .u8 128), .lit (.int .u8 191)], .agg [.lit (.int .u8 160), .lit (.int .u8 191)], .agg [.lit (.int .u8 128), .lit (.int .u8 159)], .agg [.lit (.int .u8 144), .lit (.int .u8 191)], .agg [.lit (.int .u8 128), .lit (.int .u8 143)], .agg [.lit (.int .u8 0), .lit (.int .u8 0)], .agg [.lit (.int .u8 0), .lit (.int .u8 0)], .agg [.lit (.int .u8 0), .lit (.int .u8 0)], .agg [.lit (.int .u8 0), .lit (.int .u8 0)], .agg [.lit (.int .u8 0), .lit (.int .u8 0)], .agg [.lit (.int .u8 0), .lit (.int .u8 0)], .agg [.lit (.int .u8 0), .lit (.int .u8 0)], .agg [.lit (.int .u8 0), .lit (.int .u8 0)], .agg [.lit (.int .u8 0), .lit (.int .u8 0)], .agg [.lit (.int .u8 0), .lit (.int .u8 0)], .agg [.lit (.int .u8 0), .lit (.int .u8 0)]]
/-- One of Go's own tables, pinned by name: the form's constant. -/
def laid_unicode_utf8_first : DataW Unit := Go.Pinned.utf8First

/-- 'laws.FnSwap': WHATEVER THE INPUT: true; the input reads as it did. -/
def fnSwapSpec : ChangeSpec := { name := "fnSwap", vars := ["loop.example/g00793/impl.currencies", "loop.example/g00793/impl.errZeroDivisor"], fn := fun _ => fun
  | [d, g1, g2] => { results := [.lit (.bool true)], args := [d], vars := [g1, g2] }
  | _ => none }
def fnSwapRow : OpenClaim := { program := "ytehkknphcflofaagreatdoor", sum := "2073caa27f1ee5746a1ee7c04c89b33a7c9ab21cd75f7774f2aa225670d8583c", func := "loop.example/g00793/laws.FnSwap", spec := "fnSwap", inPlace := ["math/bits.Add64", "internal/reflectlite.TypeOf", "internal/reflectlite.ValueOf", "(internal/reflectlite.Value).Type", "(internal/reflectlite.Value).IsNil", "(internal/reflectlite.Value).Elem", "(internal/reflectlite.Value).Set"], unfollowed := true, recurses := true, named := ["loop.example/g00793/impl.currencies", "loop.example/g00793/impl.errZeroDivisor", "math/bits.divideError", "math/bits.overflowError", "errors.errorType"], ifaces := true, plainKeys := false, apart := false, laid := [("errors.errorType", laid_errors_errorType), ("loop.example/g00793/impl.errZeroDivisor", laid_loop_example_g00793_impl_errZeroDivisor), ("loop.example/g00793/impl.currencies", laid_loop_example_g00793_impl_currencies)] }
def FnSwapSaid : Prop := fnSwapRow.holds Tryz.pinned (OpenSpec.ofChange fnSwapSpec)

/-- ITS FALSE NEIGHBOUR: 'it returns false'. Refute it at one input. -/
def fnSwapWrong : ChangeSpec := { name := "fnSwap", vars := ["loop.example/g00793/impl.currencies", "loop.example/g00793/impl.errZeroDivisor"], fn := fun _ => fun
  | [d, g1, g2] => { results := [.lit (.bool false)], args := [d], vars := [g1, g2] }
  | _ => none }
def FnSwapWrongFalsely : Prop := fnSwapRow.holds Tryz.pinned (OpenSpec.ofChange fnSwapWrong)

/-- 'laws.FnRates': WHATEVER THE INPUT: true; the input reads as it did. -/
def fnRatesSpec : ChangeSpec := { name := "fnRates", vars := ["loop.example/g00793/impl.currencies", "loop.example/g00793/impl.errZeroDivisor"], fn := fun _ => fun
  | [d, g1, g2] => { results := [.lit (.bool true)], args := [d], vars := [g1, g2] }
  | _ => none }
def fnRatesRow : OpenClaim := { program := "ytehkknphcflofaagreatdoor", sum := "2073caa27f1ee5746a1ee7c04c89b33a7c9ab21cd75f7774f2aa225670d8583c", func := "loop.example/g00793/laws.FnRates", spec := "fnRates", inPlace := ["math/bits.Add64", "internal/reflectlite.TypeOf"], unfollowed := true, recurses := true, named := ["loop.example/g00793/impl.currencies", "loop.example/g00793/impl.errZeroDivisor", "math/bits.divideError", "math/bits.overflowError"], ifaces := true, plainKeys := false, apart := false, laid := [("loop.example/g00793/impl.errZeroDivisor", laid_loop_example_g00793_impl_errZeroDivisor), ("loop.example/g00793/impl.currencies", laid_loop_example_g00793_impl_currencies)] }
def FnRatesSaid : Prop := fnRatesRow.holds Tryz.pinned (OpenSpec.ofChange fnRatesSpec)

/-- ITS FALSE NEIGHBOUR: 'it returns false'. Refute it at one input. -/
def fnRatesWrong : ChangeSpec := { name := "fnRates", vars := ["loop.example/g00793/impl.currencies", "loop.example/g00793/impl.errZeroDivisor"], fn := fun _ => fun
  | [d, g1, g2] => { results := [.lit (.bool false)], args := [d], vars := [g1, g2] }
  | _ => none }
def FnRatesWrongFalsely : Prop := fnRatesRow.holds Tryz.pinned (OpenSpec.ofChange fnRatesWrong)

/-- 'laws.FnPut': WHATEVER THE INPUT: true; the input reads as it did. -/
def fnPutSpec : ChangeSpec := { name := "fnPut", vars := ["loop.example/g00793/impl.currencies", "loop.example/g00793/impl.errZeroDivisor"], fn := fun _ => fun
  | [d, g1, g2] => { results := [.lit (.bool true)], args := [d], vars := [g1, g2] }
  | _ => none }
def fnPutRow : OpenClaim := { program := "ytehkknphcflofaagreatdoor", sum := "2073caa27f1ee5746a1ee7c04c89b33a7c9ab21cd75f7774f2aa225670d8583c", func := "loop.example/g00793/laws.FnPut", spec := "fnPut", inPlace := ["internal/abi.NoEscape", "internal/bytealg.MakeNoZero", "internal/bytealg.IndexByteString", "internal/bytealg.IndexString", "math/bits.Add64", "internal/reflectlite.TypeOf"], unfollowed := true, recurses := true, named := ["loop.example/g00793/impl.currencies", "internal/strconv.uint64pow10", "math/bits.deBruijn32tab", "math/bits.deBruijn64tab", "internal/bytealg.MaxLen", "unicode/utf8.first", "unicode/utf8.acceptRanges", "loop.example/g00793/impl.errZeroDivisor", "math/bits.divideError", "math/bits.overflowError"], ifaces := true, plainKeys := false, apart := false, laid := [("math/bits.deBruijn32tab", laid_math_bits_deBruijn32tab), ("math/bits.deBruijn64tab", laid_math_bits_deBruijn64tab), ("internal/strconv.uint64pow10", laid_internal_strconv_uint64pow10), ("unicode/utf8.acceptRanges", laid_unicode_utf8_acceptRanges), ("loop.example/g00793/impl.errZeroDivisor", laid_loop_example_g00793_impl_errZeroDivisor), ("loop.example/g00793/impl.currencies", laid_loop_example_g00793_impl_currencies), ("unicode/utf8.first", laid_unicode_utf8_first)] }
def FnPutSaid : Prop := fnPutRow.holds Tryz.pinned (OpenSpec.ofChange fnPutSpec)

/-- ITS FALSE NEIGHBOUR: 'it returns false'. Refute it at one input. -/
def fnPutWrong : ChangeSpec := { name := "fnPut", vars := ["loop.example/g00793/impl.currencies", "loop.example/g00793/impl.errZeroDivisor"], fn := fun _ => fun
  | [d, g1, g2] => { results := [.lit (.bool false)], args := [d], vars := [g1, g2] }
  | _ => none }
def FnPutWrongFalsely : Prop := fnPutRow.holds Tryz.pinned (OpenSpec.ofChange fnPutWrong)

/-- 'laws.FnNeeded': WHATEVER THE INPUT: true; the input reads as it did. -/
def fnNeededSpec : ChangeSpec := { name := "fnNeeded", vars := ["loop.example/g00793/impl.currencies", "loop.example/g00793/impl.errZeroDivisor"], fn := fun _ => fun
  | [d, g1, g2] => { results := [.lit (.bool true)], args := [d], vars := [g1, g2] }
  | _ => none }
def fnNeededRow : OpenClaim := { program := "ytehkknphcflofaagreatdoor", sum := "2073caa27f1ee5746a1ee7c04c89b33a7c9ab21cd75f7774f2aa225670d8583c", func := "loop.example/g00793/laws.FnNeeded", spec := "fnNeeded", inPlace := ["math/bits.Add64", "internal/reflectlite.TypeOf"], unfollowed := true, recurses := true, named := ["loop.example/g00793/impl.currencies", "loop.example/g00793/impl.errZeroDivisor", "math/bits.divideError", "math/bits.overflowError"], ifaces := true, plainKeys := false, apart := false, laid := [("loop.example/g00793/impl.errZeroDivisor", laid_loop_example_g00793_impl_errZeroDivisor), ("loop.example/g00793/impl.currencies", laid_loop_example_g00793_impl_currencies)] }
def FnNeededSaid : Prop := fnNeededRow.holds Tryz.pinned (OpenSpec.ofChange fnNeededSpec)

/-- ITS FALSE NEIGHBOUR: 'it returns false'. Refute it at one input. -/
def fnNeededWrong : ChangeSpec := { name := "fnNeeded", vars := ["loop.example/g00793/impl.currencies", "loop.example/g00793/impl.errZeroDivisor"], fn := fun _ => fun
  | [d, g1, g2] => { results := [.lit (.bool false)], args := [d], vars := [g1, g2] }
  | _ => none }
def FnNeededWrongFalsely : Prop := fnNeededRow.holds Tryz.pinned (OpenSpec.ofChange fnNeededWrong)

/-- 'laws.FnSum': WHATEVER THE INPUT: true; the input reads as it did. -/
def fnSumSpec : ChangeSpec := { name := "fnSum", vars := ["loop.example/g00793/impl.currencies", "loop.example/g00793/impl.errZeroDivisor"], fn := fun _ => fun
  | [d, g1, g2] => { results := [.lit (.bool true)], args := [d], vars := [g1, g2] }
  | _ => none }
def fnSumRow : OpenClaim := { program := "ytehkknphcflofaagreatdoor", sum := "2073caa27f1ee5746a1ee7c04c89b33a7c9ab21cd75f7774f2aa225670d8583c", func := "loop.example/g00793/laws.FnSum", spec := "fnSum", inPlace := ["math/bits.Add64", "internal/reflectlite.TypeOf", "internal/reflectlite.ValueOf", "(internal/reflectlite.Value).Type", "(internal/reflectlite.Value).IsNil", "(internal/reflectlite.Value).Elem", "(internal/reflectlite.Value).Set"], unfollowed := true, recurses := true, named := ["loop.example/g00793/impl.currencies", "loop.example/g00793/impl.errZeroDivisor", "math/bits.divideError", "math/bits.overflowError", "errors.errorType"], ifaces := true, plainKeys := false, apart := false, laid := [("errors.errorType", laid_errors_errorType), ("loop.example/g00793/impl.errZeroDivisor", laid_loop_example_g00793_impl_errZeroDivisor), ("loop.example/g00793/impl.currencies", laid_loop_example_g00793_impl_currencies)] }
def FnSumSaid : Prop := fnSumRow.holds Tryz.pinned (OpenSpec.ofChange fnSumSpec)

/-- ITS FALSE NEIGHBOUR: 'it returns false'. Refute it at one input. -/
def fnSumWrong : ChangeSpec := { name := "fnSum", vars := ["loop.example/g00793/impl.currencies", "loop.example/g00793/impl.errZeroDivisor"], fn := fun _ => fun
  | [d, g1, g2] => { results := [.lit (.bool false)], args := [d], vars := [g1, g2] }
  | _ => none }
def FnSumWrongFalsely : Prop := fnSumRow.holds Tryz.pinned (OpenSpec.ofChange fnSumWrong)

/-- 'laws.FnExactUnitRate': WHATEVER THE INPUT: true; the input reads as it did. -/
def fnExactUnitRateSpec : ChangeSpec := { name := "fnExactUnitRate", vars := ["loop.example/g00793/impl.currencies", "loop.example/g00793/impl.errZeroDivisor"], fn := fun _ => fun
  | [d1, d2, d3, g1, g2] => { results := [.lit (.bool true)], args := [d1, d2, d3], vars := [g1, g2] }
  | _ => none }
def fnExactUnitRateRow : OpenClaim := { program := "ytehkknphcflofaagreatdoor", sum := "2073caa27f1ee5746a1ee7c04c89b33a7c9ab21cd75f7774f2aa225670d8583c", func := "loop.example/g00793/laws.FnExactUnitRate", spec := "fnExactUnitRate", inPlace := ["math/bits.Add64", "internal/reflectlite.TypeOf"], unfollowed := true, recurses := true, named := ["loop.example/g00793/impl.currencies", "loop.example/g00793/impl.errZeroDivisor", "math/bits.divideError", "math/bits.overflowError"], ifaces := true, plainKeys := false, apart := false, laid := [("loop.example/g00793/impl.errZeroDivisor", laid_loop_example_g00793_impl_errZeroDivisor), ("loop.example/g00793/impl.currencies", laid_loop_example_g00793_impl_currencies)] }
def FnExactUnitRateSaid : Prop := fnExactUnitRateRow.holds Tryz.pinned (OpenSpec.ofChange fnExactUnitRateSpec)

/-- ITS FALSE NEIGHBOUR: 'it returns false'. Refute it at one input. -/
def fnExactUnitRateWrong : ChangeSpec := { name := "fnExactUnitRate", vars := ["loop.example/g00793/impl.currencies", "loop.example/g00793/impl.errZeroDivisor"], fn := fun _ => fun
  | [d1, d2, d3, g1, g2] => { results := [.lit (.bool false)], args := [d1, d2, d3], vars := [g1, g2] }
  | _ => none }
def FnExactUnitRateWrongFalsely : Prop := fnExactUnitRateRow.holds Tryz.pinned (OpenSpec.ofChange fnExactUnitRateWrong)

/-- 'laws.FnExactExact': WHATEVER THE INPUT: true; the input reads as it did. -/
def fnExactExactSpec : ChangeSpec := { name := "fnExactExact", vars := ["loop.example/g00793/impl.currencies", "loop.example/g00793/impl.errZeroDivisor"], fn := fun _ => fun
  | [d1, d2, d3, g1, g2] => { results := [.lit (.bool true)], args := [d1, d2, d3], vars := [g1, g2] }
  | _ => none }
def fnExactExactRow : OpenClaim := { program := "ytehkknphcflofaagreatdoor", sum := "2073caa27f1ee5746a1ee7c04c89b33a7c9ab21cd75f7774f2aa225670d8583c", func := "loop.example/g00793/laws.FnExactExact", spec := "fnExactExact", inPlace := ["math/bits.Add64", "internal/reflectlite.TypeOf"], unfollowed := true, recurses := true, named := ["loop.example/g00793/impl.currencies", "loop.example/g00793/impl.errZeroDivisor", "math/bits.divideError", "math/bits.overflowError"], ifaces := true, plainKeys := false, apart := false, laid := [("loop.example/g00793/impl.errZeroDivisor", laid_loop_example_g00793_impl_errZeroDivisor), ("loop.example/g00793/impl.currencies", laid_loop_example_g00793_impl_currencies)] }
def FnExactExactSaid : Prop := fnExactExactRow.holds Tryz.pinned (OpenSpec.ofChange fnExactExactSpec)

/-- ITS FALSE NEIGHBOUR: 'it returns false'. Refute it at one input. -/
def fnExactExactWrong : ChangeSpec := { name := "fnExactExact", vars := ["loop.example/g00793/impl.currencies", "loop.example/g00793/impl.errZeroDivisor"], fn := fun _ => fun
  | [d1, d2, d3, g1, g2] => { results := [.lit (.bool false)], args := [d1, d2, d3], vars := [g1, g2] }
  | _ => none }
def FnExactExactWrongFalsely : Prop := fnExactExactRow.holds Tryz.pinned (OpenSpec.ofChange fnExactExactWrong)

/-- 'laws.FnExactConvert': WHATEVER THE INPUT: true; the input reads as it did. -/
def fnExactConvertSpec : ChangeSpec := { name := "fnExactConvert", vars := ["loop.example/g00793/impl.currencies", "loop.example/g00793/impl.errZeroDivisor"], fn := fun _ => fun
  | [d1, d2, d3, d4, g1, g2] => { results := [.lit (.bool true)], args := [d1, d2, d3, d4], vars := [g1, g2] }
  | _ => none }
def fnExactConvertRow : OpenClaim := { program := "ytehkknphcflofaagreatdoor", sum := "2073caa27f1ee5746a1ee7c04c89b33a7c9ab21cd75f7774f2aa225670d8583c", func := "loop.example/g00793/laws.FnExactConvert", spec := "fnExactConvert", inPlace := ["math/bits.Add64", "internal/reflectlite.TypeOf", "internal/reflectlite.ValueOf", "(internal/reflectlite.Value).Type", "(internal/reflectlite.Value).IsNil", "(internal/reflectlite.Value).Elem", "(internal/reflectlite.Value).Set"], unfollowed := true, recurses := true, named := ["loop.example/g00793/impl.currencies", "loop.example/g00793/impl.errZeroDivisor", "math/bits.divideError", "math/bits.overflowError", "errors.errorType"], ifaces := true, plainKeys := false, apart := false, laid := [("errors.errorType", laid_errors_errorType), ("loop.example/g00793/impl.errZeroDivisor", laid_loop_example_g00793_impl_errZeroDivisor), ("loop.example/g00793/impl.currencies", laid_loop_example_g00793_impl_currencies)] }
def FnExactConvertSaid : Prop := fnExactConvertRow.holds Tryz.pinned (OpenSpec.ofChange fnExactConvertSpec)

/-- ITS FALSE NEIGHBOUR: 'it returns false'. Refute it at one input. -/
def fnExactConvertWrong : ChangeSpec := { name := "fnExactConvert", vars := ["loop.example/g00793/impl.currencies", "loop.example/g00793/impl.errZeroDivisor"], fn := fun _ => fun
  | [d1, d2, d3, d4, g1, g2] => { results := [.lit (.bool false)], args := [d1, d2, d3, d4], vars := [g1, g2] }
  | _ => none }
def FnExactConvertWrongFalsely : Prop := fnExactConvertRow.holds Tryz.pinned (OpenSpec.ofChange fnExactConvertWrong)

/-- 'laws.FnExactNeeded': WHATEVER THE INPUT: true; the input reads as it did. -/
def fnExactNeededSpec : ChangeSpec := { name := "fnExactNeeded", vars := ["loop.example/g00793/impl.currencies", "loop.example/g00793/impl.errZeroDivisor"], fn := fun _ => fun
  | [d1, d2, d3, g1, g2] => { results := [.lit (.bool true)], args := [d1, d2, d3], vars := [g1, g2] }
  | _ => none }
def fnExactNeededRow : OpenClaim := { program := "ytehkknphcflofaagreatdoor", sum := "2073caa27f1ee5746a1ee7c04c89b33a7c9ab21cd75f7774f2aa225670d8583c", func := "loop.example/g00793/laws.FnExactNeeded", spec := "fnExactNeeded", inPlace := ["math/bits.Add64", "internal/reflectlite.TypeOf"], unfollowed := true, recurses := true, named := ["loop.example/g00793/impl.currencies", "loop.example/g00793/impl.errZeroDivisor", "math/bits.divideError", "math/bits.overflowError"], ifaces := true, plainKeys := false, apart := false, laid := [("loop.example/g00793/impl.errZeroDivisor", laid_loop_example_g00793_impl_errZeroDivisor), ("loop.example/g00793/impl.currencies", laid_loop_example_g00793_impl_currencies)] }
def FnExactNeededSaid : Prop := fnExactNeededRow.holds Tryz.pinned (OpenSpec.ofChange fnExactNeededSpec)

/-- ITS FALSE NEIGHBOUR: 'it returns false'. Refute it at one input. -/
def fnExactNeededWrong : ChangeSpec := { name := "fnExactNeeded", vars := ["loop.example/g00793/impl.currencies", "loop.example/g00793/impl.errZeroDivisor"], fn := fun _ => fun
  | [d1, d2, d3, g1, g2] => { results := [.lit (.bool false)], args := [d1, d2, d3], vars := [g1, g2] }
  | _ => none }
def FnExactNeededWrongFalsely : Prop := fnExactNeededRow.holds Tryz.pinned (OpenSpec.ofChange fnExactNeededWrong)

/-- 'laws.FnExactConvertSum': WHATEVER THE INPUT: true; the input reads as it did. -/
def fnExactConvertSumSpec : ChangeSpec := { name := "fnExactConvertSum", vars := ["loop.example/g00793/impl.currencies", "loop.example/g00793/impl.errZeroDivisor"], fn := fun _ => fun
  | [d1, d2, d3, d4, g1, g2] => { results := [.lit (.bool true)], args := [d1, d2, d3, d4], vars := [g1, g2] }
  | _ => none }
def fnExactConvertSumRow : OpenClaim := { program := "ytehkknphcflofaagreatdoor", sum := "2073caa27f1ee5746a1ee7c04c89b33a7c9ab21cd75f7774f2aa225670d8583c", func := "loop.example/g00793/laws.FnExactConvertSum", spec := "fnExactConvertSum", inPlace := ["math/bits.Add64", "internal/reflectlite.TypeOf", "internal/reflectlite.ValueOf", "(internal/reflectlite.Value).Type", "(internal/reflectlite.Value).IsNil", "(internal/reflectlite.Value).Elem", "(internal/reflectlite.Value).Set"], unfollowed := true, recurses := true, named := ["loop.example/g00793/impl.currencies", "loop.example/g00793/impl.errZeroDivisor", "math/bits.divideError", "math/bits.overflowError", "errors.errorType"], ifaces := true, plainKeys := false, apart := false, laid := [("errors.errorType", laid_errors_errorType), ("loop.example/g00793/impl.errZeroDivisor", laid_loop_example_g00793_impl_errZeroDivisor), ("loop.example/g00793/impl.currencies", laid_loop_example_g00793_impl_currencies)] }
def FnExactConvertSumSaid : Prop := fnExactConvertSumRow.holds Tryz.pinned (OpenSpec.ofChange fnExactConvertSumSpec)

/-- ITS FALSE NEIGHBOUR: 'it returns false'. Refute it at one input. -/
def fnExactConvertSumWrong : ChangeSpec := { name := "fnExactConvertSum", vars := ["loop.example/g00793/impl.currencies", "loop.example/g00793/impl.errZeroDivisor"], fn := fun _ => fun
  | [d1, d2, d3, d4, g1, g2] => { results := [.lit (.bool false)], args := [d1, d2, d3, d4], vars := [g1, g2] }
  | _ => none }
def FnExactConvertSumWrongFalsely : Prop := fnExactConvertSumRow.holds Tryz.pinned (OpenSpec.ofChange fnExactConvertSumWrong)

/- THE SECOND FORM. 'bulk': how many values and letters a reading holds, each counted each time it is reached (what is shared counts as often as it is met; a slice's spare places count too). A statement '..UptoSaid' is the law's where the arguments, and the package variables that the reading takes, are together of bulk at most 1048576: NARROWER than '..Said'. Prove '..Said' where nothing that the law and all that it calls make is longer than what came in: it says more and counts as full. Else prove '..UptoSaid'. A law counts once. -/
mutual
def uptoBulk {H : Type} : DataW H → Nat
  | .lit (.string bytes) => bytes.length + 1
  | .lit _ => 1
  | .nil => 1
  | .ptr d => uptoBulk d + 1
  | .slice elems spare => uptoBulkAll elems + uptoBulkAll spare + 1
  | .agg parts => uptoBulkAll parts + 1
  | .iface _ d => uptoBulk d + 1
  | .map entries => uptoBulkEntries entries + 1
  | .held _ => 1
def uptoBulkAll {H : Type} : List (DataW H) → Nat
  | [] => 0
  | d :: r => uptoBulk d + uptoBulkAll r
def uptoBulkEntries {H : Type} : List (Lit × DataW H) → Nat
  | [] => 0
  | x :: r => uptoBulkEntry x + uptoBulkEntries r
def uptoBulkEntry {H : Type} : Lit × DataW H → Nat
  | (.string bytes, d) => bytes.length + uptoBulk d + 1
  | (_, d) => uptoBulk d + 1
 end
def uptoSmall : (H : Type) → List (DataW H) → Bool := fun _ ds => decide (uptoBulkAll ds ≤ 1048576)
def OpenSpec.upto (s : _root_.Go.ChangeSpec) : _root_.Go.OpenSpec := { _root_.Go.OpenSpec.ofChange s with cond := some uptoSmall }

/-- 'laws.FnSwap', WHERE WHAT IT READS IS OF BULK AT MOST 1048576: true; the input reads as it did. -/
def fnSwapUptoRow : OpenClaim := { program := "ytehkknphcflofaagreatdoor", sum := "2073caa27f1ee5746a1ee7c04c89b33a7c9ab21cd75f7774f2aa225670d8583c", func := "loop.example/g00793/laws.FnSwap", spec := "fnSwap", inPlace := ["math/bits.Add64", "internal/reflectlite.TypeOf", "internal/reflectlite.ValueOf", "(internal/reflectlite.Value).Type", "(internal/reflectlite.Value).IsNil", "(internal/reflectlite.Value).Elem", "(internal/reflectlite.Value).Set"], unfollowed := true, recurses := true, named := ["loop.example/g00793/impl.currencies", "loop.example/g00793/impl.errZeroDivisor", "math/bits.divideError", "math/bits.overflowError", "errors.errorType"], ifaces := true, plainKeys := false, apart := false, laid := [("errors.errorType", laid_errors_errorType), ("loop.example/g00793/impl.errZeroDivisor", laid_loop_example_g00793_impl_errZeroDivisor), ("loop.example/g00793/impl.currencies", laid_loop_example_g00793_impl_currencies)], narrowed := true }
def FnSwapUptoSaid : Prop := fnSwapUptoRow.holds Tryz.pinned (OpenSpec.upto fnSwapSpec)

/-- 'laws.FnRates', WHERE WHAT IT READS IS OF BULK AT MOST 1048576: true; the input reads as it did. -/
def fnRatesUptoRow : OpenClaim := { program := "ytehkknphcflofaagreatdoor", sum := "2073caa27f1ee5746a1ee7c04c89b33a7c9ab21cd75f7774f2aa225670d8583c", func := "loop.example/g00793/laws.FnRates", spec := "fnRates", inPlace := ["math/bits.Add64", "internal/reflectlite.TypeOf"], unfollowed := true, recurses := true, named := ["loop.example/g00793/impl.currencies", "loop.example/g00793/impl.errZeroDivisor", "math/bits.divideError", "math/bits.overflowError"], ifaces := true, plainKeys := false, apart := false, laid := [("loop.example/g00793/impl.errZeroDivisor", laid_loop_example_g00793_impl_errZeroDivisor), ("loop.example/g00793/impl.currencies", laid_loop_example_g00793_impl_currencies)], narrowed := true }
def FnRatesUptoSaid : Prop := fnRatesUptoRow.holds Tryz.pinned (OpenSpec.upto fnRatesSpec)

/-- 'laws.FnPut', WHERE WHAT IT READS IS OF BULK AT MOST 1048576: true; the input reads as it did. -/
def fnPutUptoRow : OpenClaim := { program := "ytehkknphcflofaagreatdoor", sum := "2073caa27f1ee5746a1ee7c04c89b33a7c9ab21cd75f7774f2aa225670d8583c", func := "loop.example/g00793/laws.FnPut", spec := "fnPut", inPlace := ["internal/abi.NoEscape", "internal/bytealg.MakeNoZero", "internal/bytealg.IndexByteString", "internal/bytealg.IndexString", "math/bits.Add64", "internal/reflectlite.TypeOf"], unfollowed := true, recurses := true, named := ["loop.example/g00793/impl.currencies", "internal/strconv.uint64pow10", "math/bits.deBruijn32tab", "math/bits.deBruijn64tab", "internal/bytealg.MaxLen", "unicode/utf8.first", "unicode/utf8.acceptRanges", "loop.example/g00793/impl.errZeroDivisor", "math/bits.divideError", "math/bits.overflowError"], ifaces := true, plainKeys := false, apart := false, laid := [("math/bits.deBruijn32tab", laid_math_bits_deBruijn32tab), ("math/bits.deBruijn64tab", laid_math_bits_deBruijn64tab), ("internal/strconv.uint64pow10", laid_internal_strconv_uint64pow10), ("unicode/utf8.acceptRanges", laid_unicode_utf8_acceptRanges), ("loop.example/g00793/impl.errZeroDivisor", laid_loop_example_g00793_impl_errZeroDivisor), ("loop.example/g00793/impl.currencies", laid_loop_example_g00793_impl_currencies), ("unicode/utf8.first", laid_unicode_utf8_first)], narrowed := true }
def FnPutUptoSaid : Prop := fnPutUptoRow.holds Tryz.pinned (OpenSpec.upto fnPutSpec)

/-- 'laws.FnNeeded', WHERE WHAT IT READS IS OF BULK AT MOST 1048576: true; the input reads as it did. -/
def fnNeededUptoRow : OpenClaim := { program := "ytehkknphcflofaagreatdoor", sum := "2073caa27f1ee5746a1ee7c04c89b33a7c9ab21cd75f7774f2aa225670d8583c", func := "loop.example/g00793/laws.FnNeeded", spec := "fnNeeded", inPlace := ["math/bits.Add64", "internal/reflectlite.TypeOf"], unfollowed := true, recurses := true, named := ["loop.example/g00793/impl.currencies", "loop.example/g00793/impl.errZeroDivisor", "math/bits.divideError", "math/bits.overflowError"], ifaces := true, plainKeys := false, apart := false, laid := [("loop.example/g00793/impl.errZeroDivisor", laid_loop_example_g00793_impl_errZeroDivisor), ("loop.example/g00793/impl.currencies", laid_loop_example_g00793_impl_currencies)], narrowed := true }
def FnNeededUptoSaid : Prop := fnNeededUptoRow.holds Tryz.pinned (OpenSpec.upto fnNeededSpec)

/-- 'laws.FnSum', WHERE WHAT IT READS IS OF BULK AT MOST 1048576: true; the input reads as it did. -/
def fnSumUptoRow : OpenClaim := { program := "ytehkknphcflofaagreatdoor", sum := "2073caa27f1ee5746a1ee7c04c89b33a7c9ab21cd75f7774f2aa225670d8583c", func := "loop.example/g00793/laws.FnSum", spec := "fnSum", inPlace := ["math/bits.Add64", "internal/reflectlite.TypeOf", "internal/reflectlite.ValueOf", "(internal/reflectlite.Value).Type", "(internal/reflectlite.Value).IsNil", "(internal/reflectlite.Value).Elem", "(internal/reflectlite.Value).Set"], unfollowed := true, recurses := true, named := ["loop.example/g00793/impl.currencies", "loop.example/g00793/impl.errZeroDivisor", "math/bits.divideError", "math/bits.overflowError", "errors.errorType"], ifaces := true, plainKeys := false, apart := false, laid := [("errors.errorType", laid_errors_errorType), ("loop.example/g00793/impl.errZeroDivisor", laid_loop_example_g00793_impl_errZeroDivisor), ("loop.example/g00793/impl.currencies", laid_loop_example_g00793_impl_currencies)], narrowed := true }
def FnSumUptoSaid : Prop := fnSumUptoRow.holds Tryz.pinned (OpenSpec.upto fnSumSpec)

/-- 'laws.FnExactUnitRate', WHERE WHAT IT READS IS OF BULK AT MOST 1048576: true; the input reads as it did. -/
def fnExactUnitRateUptoRow : OpenClaim := { program := "ytehkknphcflofaagreatdoor", sum := "2073caa27f1ee5746a1ee7c04c89b33a7c9ab21cd75f7774f2aa225670d8583c", func := "loop.example/g00793/laws.FnExactUnitRate", spec := "fnExactUnitRate", inPlace := ["math/bits.Add64", "internal/reflectlite.TypeOf"], unfollowed := true, recurses := true, named := ["loop.example/g00793/impl.currencies", "loop.example/g00793/impl.errZeroDivisor", "math/bits.divideError", "math/bits.overflowError"], ifaces := true, plainKeys := false, apart := false, laid := [("loop.example/g00793/impl.errZeroDivisor", laid_loop_example_g00793_impl_errZeroDivisor), ("loop.example/g00793/impl.currencies", laid_loop_example_g00793_impl_currencies)], narrowed := true }
def FnExactUnitRateUptoSaid : Prop := fnExactUnitRateUptoRow.holds Tryz.pinned (OpenSpec.upto fnExactUnitRateSpec)

/-- 'laws.FnExactExact', WHERE WHAT IT READS IS OF BULK AT MOST 1048576: true; the input reads as it did. -/
def fnExactExactUptoRow : OpenClaim := { program := "ytehkknphcflofaagreatdoor", sum := "2073caa27f1ee5746a1ee7c04c89b33a7c9ab21cd75f7774f2aa225670d8583c", func := "loop.example/g00793/laws.FnExactExact", spec := "fnExactExact", inPlace := ["math/bits.Add64", "internal/reflectlite.TypeOf"], unfollowed := true, recurses := true, named := ["loop.example/g00793/impl.currencies", "loop.example/g00793/impl.errZeroDivisor", "math/bits.divideError", "math/bits.overflowError"], ifaces := true, plainKeys := false, apart := false, laid := [("loop.example/g00793/impl.errZeroDivisor", laid_loop_example_g00793_impl_errZeroDivisor), ("loop.example/g00793/impl.currencies", laid_loop_example_g00793_impl_currencies)], narrowed := true }
def FnExactExactUptoSaid : Prop := fnExactExactUptoRow.holds Tryz.pinned (OpenSpec.upto fnExactExactSpec)

/-- 'laws.FnExactConvert', WHERE WHAT IT READS IS OF BULK AT MOST 1048576: true; the input reads as it did. -/
def fnExactConvertUptoRow : OpenClaim := { program := "ytehkknphcflofaagreatdoor", sum := "2073caa27f1ee5746a1ee7c04c89b33a7c9ab21cd75f7774f2aa225670d8583c", func := "loop.example/g00793/laws.FnExactConvert", spec := "fnExactConvert", inPlace := ["math/bits.Add64", "internal/reflectlite.TypeOf", "internal/reflectlite.ValueOf", "(internal/reflectlite.Value).Type", "(internal/reflectlite.Value).IsNil", "(internal/reflectlite.Value).Elem", "(internal/reflectlite.Value).Set"], unfollowed := true, recurses := true, named := ["loop.example/g00793/impl.currencies", "loop.example/g00793/impl.errZeroDivisor", "math/bits.divideError", "math/bits.overflowError", "errors.errorType"], ifaces := true, plainKeys := false, apart := false, laid := [("errors.errorType", laid_errors_errorType), ("loop.example/g00793/impl.errZeroDivisor", laid_loop_example_g00793_impl_errZeroDivisor), ("loop.example/g00793/impl.currencies", laid_loop_example_g00793_impl_currencies)], narrowed := true }
def FnExactConvertUptoSaid : Prop := fnExactConvertUptoRow.holds Tryz.pinned (OpenSpec.upto fnExactConvertSpec)

/-- 'laws.FnExactNeeded', WHERE WHAT IT READS IS OF BULK AT MOST 1048576: true; the input reads as it did. -/
def fnExactNeededUptoRow : OpenClaim := { program := "ytehkknphcflofaagreatdoor", sum := "2073caa27f1ee5746a1ee7c04c89b33a7c9ab21cd75f7774f2aa225670d8583c", func := "loop.example/g00793/laws.FnExactNeeded", spec := "fnExactNeeded", inPlace := ["math/bits.Add64", "internal/reflectlite.TypeOf"], unfollowed := true, recurses := true, named := ["loop.example/g00793/impl.currencies", "loop.example/g00793/impl.errZeroDivisor", "math/bits.divideError", "math/bits.overflowError"], ifaces := true, plainKeys := false, apart := false, laid := [("loop.example/g00793/impl.errZeroDivisor", laid_loop_example_g00793_impl_errZeroDivisor), ("loop.example/g00793/impl.currencies", laid_loop_example_g00793_impl_currencies)], narrowed := true }
def FnExactNeededUptoSaid : Prop := fnExactNeededUptoRow.holds Tryz.pinned (OpenSpec.upto fnExactNeededSpec)

/-- 'laws.FnExactConvertSum', WHERE WHAT IT READS IS OF BULK AT MOST 1048576: true; the input reads as it did. -/
def fnExactConvertSumUptoRow : OpenClaim := { program := "ytehkknphcflofaagreatdoor", sum := "2073caa27f1ee5746a1ee7c04c89b33a7c9ab21cd75f7774f2aa225670d8583c", func := "loop.example/g00793/laws.FnExactConvertSum", spec := "fnExactConvertSum", inPlace := ["math/bits.Add64", "internal/reflectlite.TypeOf", "internal/reflectlite.ValueOf", "(internal/reflectlite.Value).Type", "(internal/reflectlite.Value).IsNil", "(internal/reflectlite.Value).Elem", "(internal/reflectlite.Value).Set"], unfollowed := true, recurses := true, named := ["loop.example/g00793/impl.currencies", "loop.example/g00793/impl.errZeroDivisor", "math/bits.divideError", "math/bits.overflowError", "errors.errorType"], ifaces := true, plainKeys := false, apart := false, laid := [("errors.errorType", laid_errors_errorType), ("loop.example/g00793/impl.errZeroDivisor", laid_loop_example_g00793_impl_errZeroDivisor), ("loop.example/g00793/impl.currencies", laid_loop_example_g00793_impl_currencies)], narrowed := true }
def FnExactConvertSumUptoSaid : Prop := fnExactConvertSumUptoRow.holds Tryz.pinned (OpenSpec.upto fnExactConvertSumSpec)

end Rows
end Go.Proofs.YtehkknphcflofaaGreatDoor
