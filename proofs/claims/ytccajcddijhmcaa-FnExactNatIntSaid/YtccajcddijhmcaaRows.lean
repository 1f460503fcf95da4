/-
  No cell of these rows narrows 'for every input' (looked for: loops, veiled, ifaces, maps, wideKeys, modest, calm, conditions, laid).
  DERIVED. THE GIVEN ROWS OF THIS SEAT. 7 by the template 'for every input the law returns true; each argument reads behind the call as it read before'; 0 by the template 'total and deterministic' (their statements: YtccajcddijhmcaaTotals.lean).
  GIVEN WITH THE SEED: the statements are not yours to turn. If you find one false, say at which input.
  Laid BY PROGRAM, IN A SANDBOX (cutbox-rows.mjs): the forced cells as the released guide's own fill.sh prints them over the translation 03ccbae369eb8e10… (all of the seat's roots in one cut). By AI agents, Wed Nov 11 2026. No macro, syntax, notation, axiom, sorry.
-/
import Derived.Test.YtccajcddijhmcaaChecked
import GoSem.Claim
import GoSem.ClaimJoined
import GoSem.ClaimMapViews
import Derived.JoinedTies
import Derived.KernelRfl
namespace Go.Proofs.Ytccajcddijhmcaa
/- THE CELL 'sum', in the pinned program and in every row, IS THE sha256 OF THE DUMP (.gsa) THAT YtccajcddijhmcaaProg.lean LOADS. Nothing in Lean hashes anything: it is a label: what it is worth is what the hold of that sum in a sandbox is worth. -/
noncomputable def Try.pinned : Pinned := { name := "ytccajcddijhmcaa", sum := "03ccbae369eb8e1032c5af3122275803ede8275a54d17ca7aedb61c0e0a82485", checked := Try.checked }
namespace Rows
def none {H : Type} : Left H := { results := [], args := [] }

/-- 'laws.FnExactNatInt': WHATEVER THE INPUT: true; the input reads as it did. -/
def fnExactNatIntSpec : ChangeSpec := { name := "fnExactNatInt", fn := fun _ => fun
  | [d] => { results := [.lit (.bool true)], args := [d] }
  | _ => none }
def fnExactNatIntRow : OpenClaim := { program := "ytccajcddijhmcaa", sum := "03ccbae369eb8e1032c5af3122275803ede8275a54d17ca7aedb61c0e0a82485", func := "loop.example/g00793/laws.FnExactNatInt", spec := "fnExactNatInt", apart := false }
def FnExactNatIntSaid : Prop := fnExactNatIntRow.holds Try.pinned (OpenSpec.ofChange fnExactNatIntSpec)

/-- ITS FALSE NEIGHBOUR: 'it returns false'. Refute it at one input. -/
def fnExactNatIntWrong : ChangeSpec := { name := "fnExactNatInt", fn := fun _ => fun
  | [d] => { results := [.lit (.bool false)], args := [d] }
  | _ => none }
def FnExactNatIntWrongFalsely : Prop := fnExactNatIntRow.holds Try.pinned (OpenSpec.ofChange fnExactNatIntWrong)

/-- 'laws.FnExactNatCmp': WHATEVER THE INPUT: true; the input reads as it did. -/
def fnExactNatCmpSpec : ChangeSpec := { name := "fnExactNatCmp", fn := fun _ => fun
  | [d1, d2] => { results := [.lit (.bool true)], args := [d1, d2] }
  | _ => none }
def fnExactNatCmpRow : OpenClaim := { program := "ytccajcddijhmcaa", sum := "03ccbae369eb8e1032c5af3122275803ede8275a54d17ca7aedb61c0e0a82485", func := "loop.example/g00793/laws.FnExactNatCmp", spec := "fnExactNatCmp", apart := false }
def FnExactNatCmpSaid : Prop := fnExactNatCmpRow.holds Try.pinned (OpenSpec.ofChange fnExactNatCmpSpec)

/-- ITS FALSE NEIGHBOUR: 'it returns false'. Refute it at one input. -/
def fnExactNatCmpWrong : ChangeSpec := { name := "fnExactNatCmp", fn := fun _ => fun
  | [d1, d2] => { results := [.lit (.bool false)], args := [d1, d2] }
  | _ => none }
def FnExactNatCmpWrongFalsely : Prop := fnExactNatCmpRow.holds Try.pinned (OpenSpec.ofChange fnExactNatCmpWrong)

/-- 'laws.FnExactNatSub': WHATEVER THE INPUT: true; the input reads as it did. -/
def fnExactNatSubSpec : ChangeSpec := { name := "fnExactNatSub", fn := fun _ => fun
  | [d1, d2] => { results := [.lit (.bool true)], args := [d1, d2] }
  | _ => none }
def fnExactNatSubRow : OpenClaim := { program := "ytccajcddijhmcaa", sum := "03ccbae369eb8e1032c5af3122275803ede8275a54d17ca7aedb61c0e0a82485", func := "loop.example/g00793/laws.FnExactNatSub", spec := "fnExactNatSub", apart := false }
def FnExactNatSubSaid : Prop := fnExactNatSubRow.holds Try.pinned (OpenSpec.ofChange fnExactNatSubSpec)

/-- ITS FALSE NEIGHBOUR: 'it returns false'. Refute it at one input. -/
def fnExactNatSubWrong : ChangeSpec := { name := "fnExactNatSub", fn := fun _ => fun
  | [d1, d2] => { results := [.lit (.bool false)], args := [d1, d2] }
  | _ => none }
def FnExactNatSubWrongFalsely : Prop := fnExactNatSubRow.holds Try.pinned (OpenSpec.ofChange fnExactNatSubWrong)

/-- 'laws.FnExactNatTen': WHATEVER THE INPUT: true; the input reads as it did. -/
def fnExactNatTenSpec : ChangeSpec := { name := "fnExactNatTen", fn := fun _ => fun
  | [d] => { results := [.lit (.bool true)], args := [d] }
  | _ => none }
def fnExactNatTenRow : OpenClaim := { program := "ytccajcddijhmcaa", sum := "03ccbae369eb8e1032c5af3122275803ede8275a54d17ca7aedb61c0e0a82485", func := "loop.example/g00793/laws.FnExactNatTen", spec := "fnExactNatTen", apart := false }
def FnExactNatTenSaid : Prop := fnExactNatTenRow.holds Try.pinned (OpenSpec.ofChange fnExactNatTenSpec)

/-- ITS FALSE NEIGHBOUR: 'it returns false'. Refute it at one input. -/
def fnExactNatTenWrong : ChangeSpec := { name := "fnExactNatTen", fn := fun _ => fun
  | [d] => { results := [.lit (.bool false)], args := [d] }
  | _ => none }
def FnExactNatTenWrongFalsely : Prop := fnExactNatTenRow.holds Try.pinned (OpenSpec.ofChange fnExactNatTenWrong)

/-- 'laws.FnExactNatScale': WHATEVER THE INPUT: true; the input reads as it did. -/
def fnExactNatScaleSpec : ChangeSpec := { name := "fnExactNatScale", fn := fun _ => fun
  | [d1, d2] => { results := [.lit (.bool true)], args := [d1, d2] }
  | _ => none }
def fnExactNatScaleRow : OpenClaim := { program := "ytccajcddijhmcaa", sum := "03ccbae369eb8e1032c5af3122275803ede8275a54d17ca7aedb61c0e0a82485", func := "loop.example/g00793/laws.FnExactNatScale", spec := "fnExactNatScale", apart := false }
def FnExactNatScaleSaid : Prop := fnExactNatScaleRow.holds Try.pinned (OpenSpec.ofChange fnExactNatScaleSpec)

/-- ITS FALSE NEIGHBOUR: 'it returns false'. Refute it at one input. -/
def fnExactNatScaleWrong : ChangeSpec := { name := "fnExactNatScale", fn := fun _ => fun
  | [d1, d2] => { results := [.lit (.bool false)], args := [d1, d2] }
  | _ => none }
def FnExactNatScaleWrongFalsely : Prop := fnExactNatScaleRow.holds Try.pinned (OpenSpec.ofChange fnExactNatScaleWrong)

/-- 'laws.FnExactNatZeros': WHATEVER THE INPUT: true; the input reads as it did. -/
def fnExactNatZerosSpec : ChangeSpec := { name := "fnExactNatZeros", fn := fun _ => fun
  | [d] => { results := [.lit (.bool true)], args := [d] }
  | _ => none }
def fnExactNatZerosRow : OpenClaim := { program := "ytccajcddijhmcaa", sum := "03ccbae369eb8e1032c5af3122275803ede8275a54d17ca7aedb61c0e0a82485", func := "loop.example/g00793/laws.FnExactNatZeros", spec := "fnExactNatZeros", recurses := true, apart := false }
def FnExactNatZerosSaid : Prop := fnExactNatZerosRow.holds Try.pinned (OpenSpec.ofChange fnExactNatZerosSpec)

/-- ITS FALSE NEIGHBOUR: 'it returns false'. Refute it at one input. -/
def fnExactNatZerosWrong : ChangeSpec := { name := "fnExactNatZeros", fn := fun _ => fun
  | [d] => { results := [.lit (.bool false)], args := [d] }
  | _ => none }
def FnExactNatZerosWrongFalsely : Prop := fnExactNatZerosRow.holds Try.pinned (OpenSpec.ofChange fnExactNatZerosWrong)

/-- 'laws.FnExactNatEven': WHATEVER THE INPUT: true; the input reads as it did. -/
def fnExactNatEvenSpec : ChangeSpec := { name := "fnExactNatEven", fn := fun _ => fun
  | [d] => { results := [.lit (.bool true)], args := [d] }
  | _ => none }
def fnExactNatEvenRow : OpenClaim := { program := "ytccajcddijhmcaa", sum := "03ccbae369eb8e1032c5af3122275803ede8275a54d17ca7aedb61c0e0a82485", func := "loop.example/g00793/laws.FnExactNatEven", spec := "fnExactNatEven", apart := false }
def FnExactNatEvenSaid : Prop := fnExactNatEvenRow.holds Try.pinned (OpenSpec.ofChange fnExactNatEvenSpec)

/-- ITS FALSE NEIGHBOUR: 'it returns false'. Refute it at one input. -/
def fnExactNatEvenWrong : ChangeSpec := { name := "fnExactNatEven", fn := fun _ => fun
  | [d] => { results := [.lit (.bool false)], args := [d] }
  | _ => none }
def FnExactNatEvenWrongFalsely : Prop := fnExactNatEvenRow.holds Try.pinned (OpenSpec.ofChange fnExactNatEvenWrong)

/- THE SECOND FORM. 'bulk': how many values and letters a reading holds, each counted each time it is reached (what is shared counts as often as it is met; a slice's spare places count too). A statement '..UptoSaid' is the law's where the arguments, and the package variables that the reading takes, are together of bulk at most 1048576: NARROWER than '..Said'. Prove '..Said' where nothing that the law and all that it calls make is longer than what came in: it says more and counts as full. Else prove '..UptoSaid'. A law counts once. -/
mutual
def uptoBulk {H : Type} : DataW H → Nat
  | .lit (.string bytes) => bytes.length + 1
  | .lit _ => 1
  | .nil => 1
  | .ptr d => uptoBulk d + 1
  | .slice elems spare => uptoBulkAll elems + uptoBulkAll spare + 1
  | .agg parts => uptoBulkAll parts + 1
  | .iface _ d => uptoBulk d + 1
  | .map entries => uptoBulkEntries entries + 1
  | .held _ => 1
def uptoBulkAll {H : Type} : List (DataW H) → Nat
  | [] => 0
  | d :: r => uptoBulk d + uptoBulkAll r
def uptoBulkEntries {H : Type} : List (Lit × DataW H) → Nat
  | [] => 0
  | x :: r => uptoBulkEntry x + uptoBulkEntries r
def uptoBulkEntry {H : Type} : Lit × DataW H → Nat
  | (.string bytes, d) => bytes.length + uptoBulk d + 1
  | (_, d) => uptoBulk d + 1
 end
def uptoSmall : (H : Type) → List (DataW H) → Bool := fun _ ds => decide (uptoBulkAll ds ≤ 1048576)
def OpenSpec.upto (s : _root_.Go.ChangeSpec) : _root_.Go.OpenSpec := { _root_.Go.OpenSpec.ofChange s with cond := some uptoSmall }

/-- 'laws.FnExactNatInt', WHERE WHAT IT READS IS OF BULK AT MOST 1048576: true; the input reads as it did. -/
def fnExactNatIntUptoRow : OpenClaim := { program := "ytccajcddijhmcaa", sum := "03ccbae369eb8e1032c5af3122275803ede8275a54d17ca7aedb61c0e0a82485", func := "loop.example/g00793/laws.FnExactNatInt", spec := "fnExactNatInt", apart := false, narrowed := true }
def FnExactNatIntUptoSaid : Prop := fnExactNatIntUptoRow.holds Try.pinned (OpenSpec.upto fnExactNatIntSpec)

/-- 'laws.FnExactNatCmp', WHERE WHAT IT READS IS OF BULK AT MOST 1048576: true; the input reads as it did. -/
def fnExactNatCmpUptoRow : OpenClaim := { program := "ytccajcddijhmcaa", sum := "03ccbae369eb8e1032c5af3122275803ede8275a54d17ca7aedb61c0e0a82485", func := "loop.example/g00793/laws.FnExactNatCmp", spec := "fnExactNatCmp", apart := false, narrowed := true }
def FnExactNatCmpUptoSaid : Prop := fnExactNatCmpUptoRow.holds Try.pinned (OpenSpec.upto fnExactNatCmpSpec)

/-- 'laws.FnExactNatSub', WHERE WHAT IT READS IS OF BULK AT MOST 1048576: true; the input reads as it did. -/
def fnExactNatSubUptoRow : OpenClaim := { program := "ytccajcddijhmcaa", sum := "03ccbae369eb8e1032c5af3122275803ede8275a54d17ca7aedb61c0e0a82485", func := "loop.example/g00793/laws.FnExactNatSub", spec := "fnExactNatSub", apart := false, narrowed := true }
def FnExactNatSubUptoSaid : Prop := fnExactNatSubUptoRow.holds Try.pinned (OpenSpec.upto fnExactNatSubSpec)

/-- 'laws.FnExactNatTen', WHERE WHAT IT READS IS OF BULK AT MOST 1048576: true; the input reads as it did. -/
def fnExactNatTenUptoRow : OpenClaim := { program := "ytccajcddijhmcaa", sum := "03ccbae369eb8e1032c5af3122275803ede8275a54d17ca7aedb61c0e0a82485", func := "loop.example/g00793/laws.FnExactNatTen", spec := "fnExactNatTen", apart := false, narrowed := true }
def FnExactNatTenUptoSaid : Prop := fnExactNatTenUptoRow.holds Try.pinned (OpenSpec.upto fnExactNatTenSpec)

/-- 'laws.FnExactNatScale', WHERE WHAT IT READS IS OF BULK AT MOST 1048576: true; the input reads as it did. -/
def fnExactNatScaleUptoRow : OpenClaim := { program := "ytccajcddijhmcaa", sum := "03ccbae369eb8e1032c5af3122275803ede8275a54d17ca7aedb61c0e0a82485", func := "loop.example/g00793/laws.FnExactNatScale", spec := "fnExactNatScale", apart := false, narrowed := true }
def FnExactNatScaleUptoSaid : Prop := fnExactNatScaleUptoRow.holds Try.pinned (OpenSpec.upto fnExactNatScaleSpec)

/-- 'laws.FnExactNatZeros', WHERE WHAT IT READS IS OF BULK AT MOST 1048576: true; the input reads as it did. -/
def fnExactNatZerosUptoRow : OpenClaim := { program := "ytccajcddijhmcaa", sum := "03ccbae369eb8e1032c5af3122275803ede8275a54d17ca7aedb61c0e0a82485", func := "loop.example/g00793/laws.FnExactNatZeros", spec := "fnExactNatZeros", recurses := true, apart := false, narrowed := true }
def FnExactNatZerosUptoSaid : Prop := fnExactNatZerosUptoRow.holds Try.pinned (OpenSpec.upto fnExactNatZerosSpec)

/-- 'laws.FnExactNatEven', WHERE WHAT IT READS IS OF BULK AT MOST 1048576: true; the input reads as it did. -/
def fnExactNatEvenUptoRow : OpenClaim := { program := "ytccajcddijhmcaa", sum := "03ccbae369eb8e1032c5af3122275803ede8275a54d17ca7aedb61c0e0a82485", func := "loop.example/g00793/laws.FnExactNatEven", spec := "fnExactNatEven", apart := false, narrowed := true }
def FnExactNatEvenUptoSaid : Prop := fnExactNatEvenUptoRow.holds Try.pinned (OpenSpec.upto fnExactNatEvenSpec)

end Rows
end Go.Proofs.Ytccajcddijhmcaa
