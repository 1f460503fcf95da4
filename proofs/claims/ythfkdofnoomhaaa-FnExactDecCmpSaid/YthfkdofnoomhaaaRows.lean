/-
  No cell of these rows narrows 'for every input' (looked for: loops, veiled, ifaces, maps, wideKeys, modest, calm, conditions, laid).
  DERIVED. THE GIVEN ROWS OF THIS SEAT. 5 by the template 'for every input the law returns true; each argument reads behind the call as it read before'; 0 by the template 'total and deterministic' (their statements: YthfkdofnoomhaaaTotals.lean).
  GIVEN WITH THE SEED: the statements are not yours to turn. If you find one false, say at which input.
  Laid BY PROGRAM, IN A SANDBOX (cutbox-rows.mjs): the forced cells as the released guide's own fill.sh prints them over the translation 0aaf56adaccb0759… (all of the seat's roots in one cut). By AI agents, Wed Nov 11 2026. No macro, syntax, notation, axiom, sorry.
-/
import Derived.Test.YthfkdofnoomhaaaChecked
import GoSem.Claim
import GoSem.ClaimJoined
import GoSem.ClaimMapViews
import Derived.JoinedTies
import Derived.KernelRfl
namespace Go.Proofs.Ythfkdofnoomhaaa
/- THE CELL 'sum', in the pinned program and in every row, IS THE sha256 OF THE DUMP (.gsa) THAT YthfkdofnoomhaaaProg.lean LOADS. Nothing in Lean hashes anything: it is a label: what it is worth is what the hold of that sum in a sandbox is worth. -/
noncomputable def Try.pinned : Pinned := { name := "ythfkdofnoomhaaa", sum := "0aaf56adaccb075947577f420481ff8d24aad21f5d0f0cdb07e3aef3bd66b26a", checked := Try.checked }
namespace Rows
def none {H : Type} : Left H := { results := [], args := [] }

/-- 'laws.FnExactDecOk': WHATEVER THE INPUT: true; the input reads as it did. -/
def fnExactDecOkSpec : ChangeSpec := { name := "fnExactDecOk", fn := fun _ => fun
  | [d] => { results := [.lit (.bool true)], args := [d] }
  | _ => none }
def fnExactDecOkRow : OpenClaim := { program := "ythfkdofnoomhaaa", sum := "0aaf56adaccb075947577f420481ff8d24aad21f5d0f0cdb07e3aef3bd66b26a", func := "loop.example/g00793/laws.FnExactDecOk", spec := "fnExactDecOk", apart := false }
def FnExactDecOkSaid : Prop := fnExactDecOkRow.holds Try.pinned (OpenSpec.ofChange fnExactDecOkSpec)

/-- ITS FALSE NEIGHBOUR: 'it returns false'. Refute it at one input. -/
def fnExactDecOkWrong : ChangeSpec := { name := "fnExactDecOk", fn := fun _ => fun
  | [d] => { results := [.lit (.bool false)], args := [d] }
  | _ => none }
def FnExactDecOkWrongFalsely : Prop := fnExactDecOkRow.holds Try.pinned (OpenSpec.ofChange fnExactDecOkWrong)

/-- 'laws.FnExactDecAdd': WHATEVER THE INPUT: true; the input reads as it did. -/
def fnExactDecAddSpec : ChangeSpec := { name := "fnExactDecAdd", fn := fun _ => fun
  | [d1, d2] => { results := [.lit (.bool true)], args := [d1, d2] }
  | _ => none }
def fnExactDecAddRow : OpenClaim := { program := "ythfkdofnoomhaaa", sum := "0aaf56adaccb075947577f420481ff8d24aad21f5d0f0cdb07e3aef3bd66b26a", func := "loop.example/g00793/laws.FnExactDecAdd", spec := "fnExactDecAdd", unfollowed := true, recurses := true, apart := false }
def FnExactDecAddSaid : Prop := fnExactDecAddRow.holds Try.pinned (OpenSpec.ofChange fnExactDecAddSpec)

/-- ITS FALSE NEIGHBOUR: 'it returns false'. Refute it at one input. -/
def fnExactDecAddWrong : ChangeSpec := { name := "fnExactDecAdd", fn := fun _ => fun
  | [d1, d2] => { results := [.lit (.bool false)], args := [d1, d2] }
  | _ => none }
def FnExactDecAddWrongFalsely : Prop := fnExactDecAddRow.holds Try.pinned (OpenSpec.ofChange fnExactDecAddWrong)

/-- 'laws.FnExactDecSub': WHATEVER THE INPUT: true; the input reads as it did. -/
def fnExactDecSubSpec : ChangeSpec := { name := "fnExactDecSub", fn := fun _ => fun
  | [d1, d2] => { results := [.lit (.bool true)], args := [d1, d2] }
  | _ => none }
def fnExactDecSubRow : OpenClaim := { program := "ythfkdofnoomhaaa", sum := "0aaf56adaccb075947577f420481ff8d24aad21f5d0f0cdb07e3aef3bd66b26a", func := "loop.example/g00793/laws.FnExactDecSub", spec := "fnExactDecSub", unfollowed := true, recurses := true, apart := false }
def FnExactDecSubSaid : Prop := fnExactDecSubRow.holds Try.pinned (OpenSpec.ofChange fnExactDecSubSpec)

/-- ITS FALSE NEIGHBOUR: 'it returns false'. Refute it at one input. -/
def fnExactDecSubWrong : ChangeSpec := { name := "fnExactDecSub", fn := fun _ => fun
  | [d1, d2] => { results := [.lit (.bool false)], args := [d1, d2] }
  | _ => none }
def FnExactDecSubWrongFalsely : Prop := fnExactDecSubRow.holds Try.pinned (OpenSpec.ofChange fnExactDecSubWrong)

/-- 'laws.FnExactDecMul': WHATEVER THE INPUT: true; the input reads as it did. -/
def fnExactDecMulSpec : ChangeSpec := { name := "fnExactDecMul", fn := fun _ => fun
  | [d1, d2] => { results := [.lit (.bool true)], args := [d1, d2] }
  | _ => none }
def fnExactDecMulRow : OpenClaim := { program := "ythfkdofnoomhaaa", sum := "0aaf56adaccb075947577f420481ff8d24aad21f5d0f0cdb07e3aef3bd66b26a", func := "loop.example/g00793/laws.FnExactDecMul", spec := "fnExactDecMul", apart := false }
def FnExactDecMulSaid : Prop := fnExactDecMulRow.holds Try.pinned (OpenSpec.ofChange fnExactDecMulSpec)

/-- ITS FALSE NEIGHBOUR: 'it returns false'. Refute it at one input. -/
def fnExactDecMulWrong : ChangeSpec := { name := "fnExactDecMul", fn := fun _ => fun
  | [d1, d2] => { results := [.lit (.bool false)], args := [d1, d2] }
  | _ => none }
def FnExactDecMulWrongFalsely : Prop := fnExactDecMulRow.holds Try.pinned (OpenSpec.ofChange fnExactDecMulWrong)

/-- 'laws.FnExactDecCmp': WHATEVER THE INPUT: true; the input reads as it did. -/
def fnExactDecCmpSpec : ChangeSpec := { name := "fnExactDecCmp", fn := fun _ => fun
  | [d1, d2] => { results := [.lit (.bool true)], args := [d1, d2] }
  | _ => none }
def fnExactDecCmpRow : OpenClaim := { program := "ythfkdofnoomhaaa", sum := "0aaf56adaccb075947577f420481ff8d24aad21f5d0f0cdb07e3aef3bd66b26a", func := "loop.example/g00793/laws.FnExactDecCmp", spec := "fnExactDecCmp", unfollowed := true, recurses := true, apart := false }
def FnExactDecCmpSaid : Prop := fnExactDecCmpRow.holds Try.pinned (OpenSpec.ofChange fnExactDecCmpSpec)

/-- ITS FALSE NEIGHBOUR: 'it returns false'. Refute it at one input. -/
def fnExactDecCmpWrong : ChangeSpec := { name := "fnExactDecCmp", fn := fun _ => fun
  | [d1, d2] => { results := [.lit (.bool false)], args := [d1, d2] }
  | _ => none }
def FnExactDecCmpWrongFalsely : Prop := fnExactDecCmpRow.holds Try.pinned (OpenSpec.ofChange fnExactDecCmpWrong)

/- THE SECOND FORM. 'bulk': how many values and letters a reading holds, each counted each time it is reached (what is shared counts as often as it is met; a slice's spare places count too). A statement '..UptoSaid' is the law's where the arguments, and the package variables that the reading takes, are together of bulk at most 1048576: NARROWER than '..Said'. Prove '..Said' where nothing that the law and all that it calls make is longer than what came in: it says more and counts as full. Else prove '..UptoSaid'. A law counts once. -/
mutual
def uptoBulk {H : Type} : DataW H → Nat
  | .lit (.string bytes) => bytes.length + 1
  | .lit _ => 1
  | .nil => 1
  | .ptr d => uptoBulk d + 1
  | .slice elems spare => uptoBulkAll elems + uptoBulkAll spare + 1
  | .agg parts => uptoBulkAll parts + 1
  | .iface _ d => uptoBulk d + 1
  | .map entries => uptoBulkEntries entries + 1
  | .held _ => 1
def uptoBulkAll {H : Type} : List (DataW H) → Nat
  | [] => 0
  | d :: r => uptoBulk d + uptoBulkAll r
def uptoBulkEntries {H : Type} : List (Lit × DataW H) → Nat
  | [] => 0
  | x :: r => uptoBulkEntry x + uptoBulkEntries r
def uptoBulkEntry {H : Type} : Lit × DataW H → Nat
  | (.string bytes, d) => bytes.length + uptoBulk d + 1
  | (_, d) => uptoBulk d + 1
 end
def uptoSmall : (H : Type) → List (DataW H) → Bool := fun _ ds => decide (uptoBulkAll ds ≤ 1048576)
def OpenSpec.upto (s : _root_.Go.ChangeSpec) : _root_.Go.OpenSpec := { _root_.Go.OpenSpec.ofChange s with cond := some uptoSmall }

/-- 'laws.FnExactDecOk', WHERE WHAT IT READS IS OF BULK AT MOST 1048576: true; the input reads as it did. -/
def fnExactDecOkUptoRow : OpenClaim := { program := "ythfkdofnoomhaaa", sum := "0aaf56adaccb075947577f420481ff8d24aad21f5d0f0cdb07e3aef3bd66b26a", func := "loop.example/g00793/laws.FnExactDecOk", spec := "fnExactDecOk", apart := false, narrowed := true }
def FnExactDecOkUptoSaid : Prop := fnExactDecOkUptoRow.holds Try.pinned (OpenSpec.upto fnExactDecOkSpec)

/-- 'laws.FnExactDecAdd', WHERE WHAT IT READS IS OF BULK AT MOST 1048576: true; the input reads as it did. -/
def fnExactDecAddUptoRow : OpenClaim := { program := "ythfkdofnoomhaaa", sum := "0aaf56adaccb075947577f420481ff8d24aad21f5d0f0cdb07e3aef3bd66b26a", func := "loop.example/g00793/laws.FnExactDecAdd", spec := "fnExactDecAdd", unfollowed := true, recurses := true, apart := false, narrowed := true }
def FnExactDecAddUptoSaid : Prop := fnExactDecAddUptoRow.holds Try.pinned (OpenSpec.upto fnExactDecAddSpec)

/-- 'laws.FnExactDecSub', WHERE WHAT IT READS IS OF BULK AT MOST 1048576: true; the input reads as it did. -/
def fnExactDecSubUptoRow : OpenClaim := { program := "ythfkdofnoomhaaa", sum := "0aaf56adaccb075947577f420481ff8d24aad21f5d0f0cdb07e3aef3bd66b26a", func := "loop.example/g00793/laws.FnExactDecSub", spec := "fnExactDecSub", unfollowed := true, recurses := true, apart := false, narrowed := true }
def FnExactDecSubUptoSaid : Prop := fnExactDecSubUptoRow.holds Try.pinned (OpenSpec.upto fnExactDecSubSpec)

/-- 'laws.FnExactDecMul', WHERE WHAT IT READS IS OF BULK AT MOST 1048576: true; the input reads as it did. -/
def fnExactDecMulUptoRow : OpenClaim := { program := "ythfkdofnoomhaaa", sum := "0aaf56adaccb075947577f420481ff8d24aad21f5d0f0cdb07e3aef3bd66b26a", func := "loop.example/g00793/laws.FnExactDecMul", spec := "fnExactDecMul", apart := false, narrowed := true }
def FnExactDecMulUptoSaid : Prop := fnExactDecMulUptoRow.holds Try.pinned (OpenSpec.upto fnExactDecMulSpec)

/-- 'laws.FnExactDecCmp', WHERE WHAT IT READS IS OF BULK AT MOST 1048576: true; the input reads as it did. -/
def fnExactDecCmpUptoRow : OpenClaim := { program := "ythfkdofnoomhaaa", sum := "0aaf56adaccb075947577f420481ff8d24aad21f5d0f0cdb07e3aef3bd66b26a", func := "loop.example/g00793/laws.FnExactDecCmp", spec := "fnExactDecCmp", unfollowed := true, recurses := true, apart := false, narrowed := true }
def FnExactDecCmpUptoSaid : Prop := fnExactDecCmpUptoRow.holds Try.pinned (OpenSpec.upto fnExactDecCmpSpec)

end Rows
end Go.Proofs.Ythfkdofnoomhaaa
