/-
  NARROWER THAN 'FOR EVERY INPUT', by the rows' own cells (each row's printed sentence says how): FnExactDecRat: ifaces, laid · FnExactDecText: laid · FnExactTextDec: laid · FnExactRatRound: ifaces, laid · FnExactRatFloor: ifaces, laid · FnModes: ifaces, laid · FnStep: ifaces, laid.
  DERIVED. THE GIVEN ROWS OF THIS SEAT. 7 by the template 'for every input the law returns true; each argument reads behind the call as it read before'; 0 by the template 'total and deterministic' (their statements: YthfkdofnoomhaaaDoorTotals.lean).
  GIVEN WITH THE SEED: the statements are not yours to turn. If you find one false, say at which input.
  Laid BY PROGRAM, IN A SANDBOX (cutbox-rows.mjs): the forced cells as the released guide's own fill.sh prints them over the translation c99250feeba65c37… (all of the seat's roots in one cut). By AI agents, Wed Nov 11 2026. No macro, syntax, notation, axiom, sorry.
-/
import Derived.Test.YthfkdofnoomhaaaDoorChecked
import GoSem.PinnedTables
import GoSem.Claim
import GoSem.ClaimJoined
import GoSem.ClaimMapViews
import Derived.JoinedTies
import Derived.KernelRfl
namespace Go.Proofs.YthfkdofnoomhaaaDoor
/- THE CELL 'sum', in the pinned program and in every row, IS THE sha256 OF THE DUMP (.gsa) THAT YthfkdofnoomhaaaDoorProg.lean LOADS. Nothing in Lean hashes anything: it is a label: what it is worth is what the hold of that sum in a sandbox is worth. -/
noncomputable def Tryd.pinned : Pinned := { name := "ythfkdofnoomhaaadoor", sum := "c99250feeba65c3772a638b90fce2c8ebfa7c1edbb1b1938754fe681fffd102f", checked := Tryd.checked }
namespace Rows
def none {H : Type} : Left H := { results := [], args := [] }

/- WHAT THE LISTED PACKAGE-LEVEL VARIABLES READ AS WHEN THE CALL BEGINS. Each datum BY PROGRAM (the guide's laid-datum.mjs) off the statement by which the dump's own 'gosem.cut.vars' lays the variable. In a bare row this is a premise. The card (YthfkdofnoomhaaaDoorCards.lean) ties it to the program's text. -/
def laid_loop_example_g00793_impl_errZeroDivisor {H : Type} : DataW H := .iface "*errors.errorString" (.ptr (.agg [.lit (.string [100, 105, 118, 105, 115, 105, 111, 110, 32, 98, 121, 32, 122, 101, 114, 111])]))
def laid_math_bits_deBruijn32tab {H : Type} : DataW H := .agg [.lit (.int .u8 0), .lit (.int .u8 1), .lit (.int .u8 28), .lit (.int .u8 2), .lit (.int .u8 29), .lit (.int .u8 14), .lit (.int .u8 24), .lit (.int .u8 3), .lit (.int .u8 30), .lit (.int .u8 22), .lit (.int .u8 20), .lit (.int .u8 15), .lit (.int .u8 25), .lit (.int .u8 17), .lit (.int .u8 4), .lit (.int .u8 8), .lit (.int .u8 31), .lit (.int .u8 27), .lit (.int .u8 13), .lit (.int .u8 23), .lit (.int .u8 21), .lit (.int .u8 19), .lit (.int .u8 16), .lit (.int .u8 7), .lit (.int .u8 26), .lit (.int .u8 12), .lit (.int .u8 18), .lit (.int .u8 6), .lit (.int .u8 11), .lit (.int .u8 5), .lit (.int .u8 10), .lit (.int .u8 9)]
def laid_math_bits_deBruijn64tab {H : Type} : DataW H := .agg [.lit (.int .u8 0), .lit (.int .u8 1), .lit (.int .u8 56), .lit (.int .u8 2), .lit (.int .u8 57), .lit (.int .u8 49), .lit (.int .u8 28), .lit (.int .u8 3), .lit (.int .u8 61), .lit (.int .u8 58), .lit (.int .u8 42), .lit (.int .u8 50), .lit (.int .u8 38), .lit (.int .u8 29), .lit (.int .u8 17), .lit (.int .u8 4), .lit (.int .u8 62), .lit (.int .u8 47), .lit (.int .u8 59), .lit (.int .u8 36), .lit (.int .u8 45), .lit (.int .u8 43), .lit (.int .u8 51), .lit (.int .u8 22), .lit (.int .u8 53), .lit (.int .u8 39), .lit (.int .u8 33), .lit (.int .u8 30), .lit (.int .u8 24), .lit (.int .u8 18), .lit (.int .u8 12), .lit (.int .u8 5), .lit (.int .u8 63), .lit (.int .u8 55), .lit (.int .u8 48), .lit (.int .u8 27), .lit (.int .u8 60), .lit (.int .u8 41), .lit (.int .u8 37), .lit (.int .u8 16), .lit (.int .u8 46), .lit (.int .u8 35), .lit (.int .u8 44), .lit (.int .u8 21), .lit (.int .u8 52), .lit (.int .u8 32), .lit (.int .u8 23), .lit (.int .u8 11), .lit (.int .u8 54), .lit (.int .u8 26), .lit (.int .u8 40), .lit (.int .u8 15), .lit (.int .u8 34), .lit (.int .u8 20), .lit (.int .u8 31), .lit (.int .u8 10), .lit (.int .u8 25), .lit (.int .u8 14), .lit (.int .u8 19), .lit (.int .u8 9), .lit (.int .u8 13), .lit (.int .u8 8), .lit (.int .u8 7), .lit (.int .u8 6)]
def laid_internal_strconv_uint64pow10 {H : Type} : DataW H := .agg [.lit (.int .u64 1), .lit (.int .u64 10), .lit (.int .u64 100), .lit (.int .u64 1000), .lit (.int .u64 10000), .lit (.int .u64 100000), .lit (.int .u64 1000000), .lit (.int .u64 10000000), .lit (.int .u64 100000000), .lit (.int .u64 1000000000), .lit (.int .u64 10000000000), .lit (.int .u64 100000000000), .lit (.int .u64 1000000000000), .lit (.int .u64 10000000000000), .lit (.int .u64 100000000000000), .lit (.int .u64 1000000000000000), .lit (.int .u64 10000000000000000), .lit (.int .u64 100000000000000000), .lit (.int .u64 1000000000000000000), .lit (.int .u64 10000000000000000000)]
def laid_unicode_utf8_acceptRanges {H : Type} : DataW H := .agg [.agg [.lit (.int .u8 128), .lit (.int .u8 191)], .agg [.lit (.int .u8 160), .lit (.int .u8 191)], .agg [.lit (.int .u8 128), .lit (.int .u8 159)], .agg [.lit (.int .u8 144), .lit (.int .u8 191)], .agg [.lit (.int .u8 128), .lit (.int .u8 143)], .agg [.lit (.int .u8 0), .lit (.int .u8 0)], .agg [.lit (.int .u8 0), .lit (.int .u8 0)], .agg [.lit (.int .u8 0), .lit (.int .u8 0)], .agg [.lit (.int .u8 0), .lit (.int .u8 0)], .agg [.lit (.int .u8 0), .lit (.int .u8 0)], .agg [.lit (.int .u8 0), .lit (.int .u8 0)], .agg [.lit (.int .u8 0), .lit (.int .u8 0)], .agg [.lit (.int .u8 0), .lit (.int .u8 0)], .agg [.lit (.int .u8 0), .lit (.int .u8 0)], .agg [.lit (.int .u8 0), .lit (.int .u8 0)], .agg [.lit (.int .u8 0), .lit (.int .u8 0)]]
/-- One of Go's own tables, pinned by name: the form's constant. -/
def laid_unicode_utf8_first : DataW Unit := Go.Pinned.utf8First

/-- 'laws.FnExactDecRat': WHATEVER THE INPUT: true; the input reads as it did. -/
def fnExactDecRatSpec : ChangeSpec := { name := "fnExactDecRat", vars := ["loop.example/g00793/impl.errZeroDivisor"], fn := fun _ => fun
  | [d, g1] => { results := [.lit (.bool true)], args := [d], vars := [g1] }
  | _ => none }
def fnExactDecRatRow : OpenClaim := { program := "ythfkdofnoomhaaadoor", sum := "c99250feeba65c3772a638b90fce2c8ebfa7c1edbb1b1938754fe681fffd102f", func := "loop.example/g00793/laws.FnExactDecRat", spec := "fnExactDecRat", inPlace := ["math/bits.Add64", "internal/reflectlite.TypeOf"], unfollowed := true, recurses := true, named := ["loop.example/g00793/impl.errZeroDivisor", "math/bits.divideError", "math/bits.overflowError"], ifaces := true, apart := false, laid := [("loop.example/g00793/impl.errZeroDivisor", laid_loop_example_g00793_impl_errZeroDivisor)] }
def FnExactDecRatSaid : Prop := fnExactDecRatRow.holds Tryd.pinned (OpenSpec.ofChange fnExactDecRatSpec)

/-- ITS FALSE NEIGHBOUR: 'it returns false'. Refute it at one input. -/
def fnExactDecRatWrong : ChangeSpec := { name := "fnExactDecRat", vars := ["loop.example/g00793/impl.errZeroDivisor"], fn := fun _ => fun
  | [d, g1] => { results := [.lit (.bool false)], args := [d], vars := [g1] }
  | _ => none }
def FnExactDecRatWrongFalsely : Prop := fnExactDecRatRow.holds Tryd.pinned (OpenSpec.ofChange fnExactDecRatWrong)

/-- 'laws.FnExactDecText': WHATEVER THE INPUT: true; the input reads as it did. -/
def fnExactDecTextSpec : ChangeSpec := { name := "fnExactDecText", fn := fun _ => fun
  | [d] => { results := [.lit (.bool true)], args := [d] }
  | _ => none }
def fnExactDecTextRow : OpenClaim := { program := "ythfkdofnoomhaaadoor", sum := "c99250feeba65c3772a638b90fce2c8ebfa7c1edbb1b1938754fe681fffd102f", func := "loop.example/g00793/laws.FnExactDecText", spec := "fnExactDecText", inPlace := ["internal/abi.NoEscape", "internal/bytealg.MakeNoZero"], recurses := true, named := ["internal/strconv.uint64pow10", "math/bits.deBruijn32tab", "math/bits.deBruijn64tab"], apart := false, laid := [("math/bits.deBruijn32tab", laid_math_bits_deBruijn32tab), ("math/bits.deBruijn64tab", laid_math_bits_deBruijn64tab), ("internal/strconv.uint64pow10", laid_internal_strconv_uint64pow10)] }
def FnExactDecTextSaid : Prop := fnExactDecTextRow.holds Tryd.pinned (OpenSpec.ofChange fnExactDecTextSpec)

/-- ITS FALSE NEIGHBOUR: 'it returns false'. Refute it at one input. -/
def fnExactDecTextWrong : ChangeSpec := { name := "fnExactDecText", fn := fun _ => fun
  | [d] => { results := [.lit (.bool false)], args := [d] }
  | _ => none }
def FnExactDecTextWrongFalsely : Prop := fnExactDecTextRow.holds Tryd.pinned (OpenSpec.ofChange fnExactDecTextWrong)

/-- 'laws.FnExactTextDec': WHATEVER THE INPUT: true; the input reads as it did. -/
def fnExactTextDecSpec : ChangeSpec := { name := "fnExactTextDec", fn := fun _ => fun
  | [d] => { results := [.lit (.bool true)], args := [d] }
  | _ => none }
def fnExactTextDecRow : OpenClaim := { program := "ythfkdofnoomhaaadoor", sum := "c99250feeba65c3772a638b90fce2c8ebfa7c1edbb1b1938754fe681fffd102f", func := "loop.example/g00793/laws.FnExactTextDec", spec := "fnExactTextDec", inPlace := ["internal/bytealg.IndexByteString", "internal/bytealg.IndexString", "internal/abi.NoEscape", "internal/bytealg.MakeNoZero"], recurses := true, named := ["internal/bytealg.MaxLen", "unicode/utf8.first", "unicode/utf8.acceptRanges", "internal/strconv.uint64pow10", "math/bits.deBruijn32tab", "math/bits.deBruijn64tab"], apart := false, laid := [("math/bits.deBruijn32tab", laid_math_bits_deBruijn32tab), ("math/bits.deBruijn64tab", laid_math_bits_deBruijn64tab), ("internal/strconv.uint64pow10", laid_internal_strconv_uint64pow10), ("unicode/utf8.acceptRanges", laid_unicode_utf8_acceptRanges), ("unicode/utf8.first", laid_unicode_utf8_first)] }
def FnExactTextDecSaid : Prop := fnExactTextDecRow.holds Tryd.pinned (OpenSpec.ofChange fnExactTextDecSpec)

/-- ITS FALSE NEIGHBOUR: 'it returns false'. Refute it at one input. -/
def fnExactTextDecWrong : ChangeSpec := { name := "fnExactTextDec", fn := fun _ => fun
  | [d] => { results := [.lit (.bool false)], args := [d] }
  | _ => none }
def FnExactTextDecWrongFalsely : Prop := fnExactTextDecRow.holds Tryd.pinned (OpenSpec.ofChange fnExactTextDecWrong)

/-- 'laws.FnExactRatRound': WHATEVER THE INPUT: true; the input reads as it did. -/
def fnExactRatRoundSpec : ChangeSpec := { name := "fnExactRatRound", vars := ["loop.example/g00793/impl.errZeroDivisor"], fn := fun _ => fun
  | [d1, d2, g1] => { results := [.lit (.bool true)], args := [d1, d2], vars := [g1] }
  | _ => none }
def fnExactRatRoundRow : OpenClaim := { program := "ythfkdofnoomhaaadoor", sum := "c99250feeba65c3772a638b90fce2c8ebfa7c1edbb1b1938754fe681fffd102f", func := "loop.example/g00793/laws.FnExactRatRound", spec := "fnExactRatRound", inPlace := ["math/bits.Add64", "internal/reflectlite.TypeOf"], unfollowed := true, recurses := true, named := ["loop.example/g00793/impl.errZeroDivisor", "math/bits.divideError", "math/bits.overflowError"], ifaces := true, apart := false, laid := [("loop.example/g00793/impl.errZeroDivisor", laid_loop_example_g00793_impl_errZeroDivisor)] }
def FnExactRatRoundSaid : Prop := fnExactRatRoundRow.holds Tryd.pinned (OpenSpec.ofChange fnExactRatRoundSpec)

/-- ITS FALSE NEIGHBOUR: 'it returns false'. Refute it at one input. -/
def fnExactRatRoundWrong : ChangeSpec := { name := "fnExactRatRound", vars := ["loop.example/g00793/impl.errZeroDivisor"], fn := fun _ => fun
  | [d1, d2, g1] => { results := [.lit (.bool false)], args := [d1, d2], vars := [g1] }
  | _ => none }
def FnExactRatRoundWrongFalsely : Prop := fnExactRatRoundRow.holds Tryd.pinned (OpenSpec.ofChange fnExactRatRoundWrong)

/-- 'laws.FnExactRatFloor': WHATEVER THE INPUT: true; the input reads as it did. -/
def fnExactRatFloorSpec : ChangeSpec := { name := "fnExactRatFloor", vars := ["loop.example/g00793/impl.errZeroDivisor"], fn := fun _ => fun
  | [d, g1] => { results := [.lit (.bool true)], args := [d], vars := [g1] }
  | _ => none }
def fnExactRatFloorRow : OpenClaim := { program := "ythfkdofnoomhaaadoor", sum := "c99250feeba65c3772a638b90fce2c8ebfa7c1edbb1b1938754fe681fffd102f", func := "loop.example/g00793/laws.FnExactRatFloor", spec := "fnExactRatFloor", inPlace := ["math/bits.Add64", "internal/reflectlite.TypeOf"], unfollowed := true, recurses := true, named := ["loop.example/g00793/impl.errZeroDivisor", "math/bits.divideError", "math/bits.overflowError"], ifaces := true, apart := false, laid := [("loop.example/g00793/impl.errZeroDivisor", laid_loop_example_g00793_impl_errZeroDivisor)] }
def FnExactRatFloorSaid : Prop := fnExactRatFloorRow.holds Tryd.pinned (OpenSpec.ofChange fnExactRatFloorSpec)

/-- ITS FALSE NEIGHBOUR: 'it returns false'. Refute it at one input. -/
def fnExactRatFloorWrong : ChangeSpec := { name := "fnExactRatFloor", vars := ["loop.example/g00793/impl.errZeroDivisor"], fn := fun _ => fun
  | [d, g1] => { results := [.lit (.bool false)], args := [d], vars := [g1] }
  | _ => none }
def FnExactRatFloorWrongFalsely : Prop := fnExactRatFloorRow.holds Tryd.pinned (OpenSpec.ofChange fnExactRatFloorWrong)

/-- 'laws.FnModes': WHATEVER THE INPUT: true; the input reads as it did. -/
def fnModesSpec : ChangeSpec := { name := "fnModes", vars := ["loop.example/g00793/impl.errZeroDivisor"], fn := fun _ => fun
  | [d, g1] => { results := [.lit (.bool true)], args := [d], vars := [g1] }
  | _ => none }
def fnModesRow : OpenClaim := { program := "ythfkdofnoomhaaadoor", sum := "c99250feeba65c3772a638b90fce2c8ebfa7c1edbb1b1938754fe681fffd102f", func := "loop.example/g00793/laws.FnModes", spec := "fnModes", inPlace := ["math/bits.Add64", "internal/reflectlite.TypeOf"], unfollowed := true, recurses := true, named := ["loop.example/g00793/impl.errZeroDivisor", "math/bits.divideError", "math/bits.overflowError"], ifaces := true, apart := false, laid := [("loop.example/g00793/impl.errZeroDivisor", laid_loop_example_g00793_impl_errZeroDivisor)] }
def FnModesSaid : Prop := fnModesRow.holds Tryd.pinned (OpenSpec.ofChange fnModesSpec)

/-- ITS FALSE NEIGHBOUR: 'it returns false'. Refute it at one input. -/
def fnModesWrong : ChangeSpec := { name := "fnModes", vars := ["loop.example/g00793/impl.errZeroDivisor"], fn := fun _ => fun
  | [d, g1] => { results := [.lit (.bool false)], args := [d], vars := [g1] }
  | _ => none }
def FnModesWrongFalsely : Prop := fnModesRow.holds Tryd.pinned (OpenSpec.ofChange fnModesWrong)

/-- 'laws.FnStep': WHATEVER THE INPUT: true; the input reads as it did. -/
def fnStepSpec : ChangeSpec := { name := "fnStep", vars := ["loop.example/g00793/impl.errZeroDivisor"], fn := fun _ => fun
  | [d, g1] => { results := [.lit (.bool true)], args := [d], vars := [g1] }
  | _ => none }
def fnStepRow : OpenClaim := { program := "ythfkdofnoomhaaadoor", sum := "c99250feeba65c3772a638b90fce2c8ebfa7c1edbb1b1938754fe681fffd102f", func := "loop.example/g00793/laws.FnStep", spec := "fnStep", inPlace := ["math/bits.Add64", "internal/reflectlite.TypeOf"], unfollowed := true, recurses := true, named := ["loop.example/g00793/impl.errZeroDivisor", "math/bits.divideError", "math/bits.overflowError"], ifaces := true, apart := false, laid := [("loop.example/g00793/impl.errZeroDivisor", laid_loop_example_g00793_impl_errZeroDivisor)] }
def FnStepSaid : Prop := fnStepRow.holds Tryd.pinned (OpenSpec.ofChange fnStepSpec)

/-- ITS FALSE NEIGHBOUR: 'it returns false'. Refute it at one input. -/
def fnStepWrong : ChangeSpec := { name := "fnStep", vars := ["loop.example/g00793/impl.errZeroDivisor"], fn := fun _ => fun
  | [d, g1] => { results := [.lit (.bool false)], args := [d], vars := [g1] }
  | _ => none }
def FnStepWrongFalsely : Prop := fnStepRow.holds Tryd.pinned (OpenSpec.ofChange fnStepWrong)

/- THE SECOND FORM. 'bulk': how many values and letters a reading holds, each counted each time it is reached (what is shared counts as often as it is met; a slice's spare places count too). A statement '..UptoSaid' is the law's where the arguments, and the package variables that the reading takes, are together of bulk at most 1048576: NARROWER than '..Said'. Prove '..Said' where nothing that the law and all that it calls make is longer than what came in: it says more and counts as full. Else prove '..UptoSaid'. A law counts once. -/
mutual
def uptoBulk {H : Type} : DataW H → Nat
  | .lit (.string bytes) => bytes.length + 1
  | .lit _ => 1
  | .nil => 1
  | .ptr d => uptoBulk d + 1
  | .slice elems spare => uptoBulkAll elems + uptoBulkAll spare + 1
  | .agg parts => uptoBulkAll parts + 1
  | .iface _ d => uptoBulk d + 1
  | .map entries => uptoBulkEntries entries + 1
  | .held _ => 1
def uptoBulkAll {H : Type} : List (DataW H) → Nat
  | [] => 0
  | d :: r => uptoBulk d + uptoBulkAll r
def uptoBulkEntries {H : Type} : List (Lit × DataW H) → Nat
  | [] => 0
  | x :: r => uptoBulkEntry x + uptoBulkEntries r
def uptoBulkEntry {H : Type} : Lit × DataW H → Nat
  | (.string bytes, d) => bytes.length + uptoBulk d + 1
  | (_, d) => uptoBulk d + 1
 end
def uptoSmall : (H : Type) → List (DataW H) → Bool := fun _ ds => decide (uptoBulkAll ds ≤ 1048576)
def OpenSpec.upto (s : _root_.Go.ChangeSpec) : _root_.Go.OpenSpec := { _root_.Go.OpenSpec.ofChange s with cond := some uptoSmall }

/-- 'laws.FnExactDecRat', WHERE WHAT IT READS IS OF BULK AT MOST 1048576: true; the input reads as it did. -/
def fnExactDecRatUptoRow : OpenClaim := { program := "ythfkdofnoomhaaadoor", sum := "c99250feeba65c3772a638b90fce2c8ebfa7c1edbb1b1938754fe681fffd102f", func := "loop.example/g00793/laws.FnExactDecRat", spec := "fnExactDecRat", inPlace := ["math/bits.Add64", "internal/reflectlite.TypeOf"], unfollowed := true, recurses := true, named := ["loop.example/g00793/impl.errZeroDivisor", "math/bits.divideError", "math/bits.overflowError"], ifaces := true, apart := false, laid := [("loop.example/g00793/impl.errZeroDivisor", laid_loop_example_g00793_impl_errZeroDivisor)], narrowed := true }
def FnExactDecRatUptoSaid : Prop := fnExactDecRatUptoRow.holds Tryd.pinned (OpenSpec.upto fnExactDecRatSpec)

/-- 'laws.FnExactDecText', WHERE WHAT IT READS IS OF BULK AT MOST 1048576: true; the input reads as it did. -/
def fnExactDecTextUptoRow : OpenClaim := { program := "ythfkdofnoomhaaadoor", sum := "c99250feeba65c3772a638b90fce2c8ebfa7c1edbb1b1938754fe681fffd102f", func := "loop.example/g00793/laws.FnExactDecText", spec := "fnExactDecText", inPlace := ["internal/abi.NoEscape", "internal/bytealg.MakeNoZero"], recurses := true, named := ["internal/strconv.uint64pow10", "math/bits.deBruijn32tab", "math/bits.deBruijn64tab"], apart := false, laid := [("math/bits.deBruijn32tab", laid_math_bits_deBruijn32tab), ("math/bits.deBruijn64tab", laid_math_bits_deBruijn64tab), ("internal/strconv.uint64pow10", laid_internal_strconv_uint64pow10)], narrowed := true }
def FnExactDecTextUptoSaid : Prop := fnExactDecTextUptoRow.holds Tryd.pinned (OpenSpec.upto fnExactDecTextSpec)

/-- 'laws.FnExactTextDec', WHERE WHAT IT READS IS OF BULK AT MOST 1048576: true; the input reads as it did. -/
def fnExactTextDecUptoRow : OpenClaim := { program := "ythfkdofnoomhaaadoor", sum := "c99250feeba65c3772a638b90fce2c8ebfa7c1edbb1b1938754fe681fffd102f", func := "loop.example/g00793/laws.FnExactTextDec", spec := "fnExactTextDec", inPlace := ["internal/bytealg.IndexByteString", "internal/bytealg.IndexString", "internal/abi.NoEscape", "internal/bytealg.MakeNoZero"], recurses := true, named := ["internal/bytealg.MaxLen", "unicode/utf8.first", "unicode/utf8.acceptRanges", "internal/strconv.uint64pow10", "math/bits.deBruijn32tab", "math/bits.deBruijn64tab"], apart := false, laid := [("math/bits.deBruijn32tab", laid_math_bits_deBruijn32tab), ("math/bits.deBruijn64tab", laid_math_bits_deBruijn64tab), ("internal/strconv.uint64pow10", laid_internal_strconv_uint64pow10), ("unicode/utf8.acceptRanges", laid_unicode_utf8_acceptRanges), ("unicode/utf8.first", laid_unicode_utf8_first)], narrowed := true }
def FnExactTextDecUptoSaid : Prop := fnExactTextDecUptoRow.holds Tryd.pinned (OpenSpec.upto fnExactTextDecSpec)

/-- 'laws.FnExactRatRound', WHERE WHAT IT READS IS OF BULK AT MOST 1048576: true; the input reads as it did. -/
def fnExactRatRoundUptoRow : OpenClaim := { program := "ythfkdofnoomhaaadoor", sum := "c99250feeba65c3772a638b90fce2c8ebfa7c1edbb1b1938754fe681fffd102f", func := "loop.example/g00793/laws.FnExactRatRound", spec := "fnExactRatRound", inPlace := ["math/bits.Add64", "internal/reflectlite.TypeOf"], unfollowed := true, recurses := true, named := ["loop.example/g00793/impl.errZeroDivisor", "math/bits.divideError", "math/bits.overflowError"], ifaces := true, apart := false, laid := [("loop.example/g00793/impl.errZeroDivisor", laid_loop_example_g00793_impl_errZeroDivisor)], narrowed := true }
def FnExactRatRoundUptoSaid : Prop := fnExactRatRoundUptoRow.holds Tryd.pinned (OpenSpec.upto fnExactRatRoundSpec)

/-- 'laws.FnExactRatFloor', WHERE WHAT IT READS IS OF BULK AT MOST 1048576: true; the input reads as it did. -/
def fnExactRatFloorUptoRow : OpenClaim := { program := "ythfkdofnoomhaaadoor", sum := "c99250feeba65c3772a638b90fce2c8ebfa7c1edbb1b1938754fe681fffd102f", func := "loop.example/g00793/laws.FnExactRatFloor", spec := "fnExactRatFloor", inPlace := ["math/bits.Add64", "internal/reflectlite.TypeOf"], unfollowed := true, recurses := true, named := ["loop.example/g00793/impl.errZeroDivisor", "math/bits.divideError", "math/bits.overflowError"], ifaces := true, apart := false, laid := [("loop.example/g00793/impl.errZeroDivisor", laid_loop_example_g00793_impl_errZeroDivisor)], narrowed := true }
def FnExactRatFloorUptoSaid : Prop := fnExactRatFloorUptoRow.holds Tryd.pinned (OpenSpec.upto fnExactRatFloorSpec)

/-- 'laws.FnModes', WHERE WHAT IT READS IS OF BULK AT MOST 1048576: true; the input reads as it did. -/
def fnModesUptoRow : OpenClaim := { program := "ythfkdofnoomhaaadoor", sum := "c99250feeba65c3772a638b90fce2c8ebfa7c1edbb1b1938754fe681fffd102f", func := "loop.example/g00793/laws.FnModes", spec := "fnModes", inPlace := ["math/bits.Add64", "internal/reflectlite.TypeOf"], unfollowed := true, recurses := true, named := ["loop.example/g00793/impl.errZeroDivisor", "math/bits.divideError", "math/bits.overflowError"], ifaces := true, apart := false, laid := [("loop.example/g00793/impl.errZeroDivisor", laid_loop_example_g00793_impl_errZeroDivisor)], narrowed := true }
def FnModesUptoSaid : Prop := fnModesUptoRow.holds Tryd.pinned (OpenSpec.upto fnModesSpec)

/-- 'laws.FnStep', WHERE WHAT IT READS IS OF BULK AT MOST 1048576: true; the input reads as it did. -/
def fnStepUptoRow : OpenClaim := { program := "ythfkdofnoomhaaadoor", sum := "c99250feeba65c3772a638b90fce2c8ebfa7c1edbb1b1938754fe681fffd102f", func := "loop.example/g00793/laws.FnStep", spec := "fnStep", inPlace := ["math/bits.Add64", "internal/reflectlite.TypeOf"], unfollowed := true, recurses := true, named := ["loop.example/g00793/impl.errZeroDivisor", "math/bits.divideError", "math/bits.overflowError"], ifaces := true, apart := false, laid := [("loop.example/g00793/impl.errZeroDivisor", laid_loop_example_g00793_impl_errZeroDivisor)], narrowed := true }
def FnStepUptoSaid : Prop := fnStepUptoRow.holds Tryd.pinned (OpenSpec.upto fnStepSpec)

end Rows
end Go.Proofs.YthfkdofnoomhaaaDoor
