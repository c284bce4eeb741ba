/-
  No cell of these rows narrows 'for every input' (looked for: loops, veiled, ifaces, maps, wideKeys, modest, calm, conditions, laid).
  DERIVED. THE GIVEN ROWS OF THIS SEAT. 9 by the template 'for every input the law returns true; each argument reads behind the call as it read before'; 0 by the template 'total and deterministic' (their statements: YtnejpdlikdgnnaaTotals.lean).
  GIVEN WITH THE SEED: the statements are not yours to turn. If you find one false, say at which input.
  Laid BY PROGRAM, IN A SANDBOX (cutbox-rows.mjs): the forced cells as the released guide's own fill.sh prints them over the translation 2ca174efaf7ebe88… (all of the seat's roots in one cut). By AI agents, Wed Nov 11 2026. No macro, syntax, notation, axiom, sorry.
-/
import Derived.Test.YtnejpdlikdgnnaaChecked
import GoSem.Claim
import GoSem.ClaimJoined
import GoSem.ClaimMapViews
import Derived.JoinedTies
import Derived.KernelRfl
namespace Go.Proofs.Ytnejpdlikdgnnaa
/- THE CELL 'sum', in the pinned program and in every row, IS THE sha256 OF THE DUMP (.gsa) THAT YtnejpdlikdgnnaaProg.lean LOADS. Nothing in Lean hashes anything: it is a label: what it is worth is what the hold of that sum in a sandbox is worth. -/
noncomputable def Try.pinned : Pinned := { name := "ytnejpdlikdgnnaa", sum := "2ca174efaf7ebe88a3df35cc7e8f6790a691faa8039888803a7329c2163ffdcf", checked := Try.checked }
namespace Rows
def none {H : Type} : Left H := { results := [], args := [] }

/-- 'laws.FnExactBigIntOk': WHATEVER THE INPUT: true; the input reads as it did. -/
def fnExactBigIntOkSpec : ChangeSpec := { name := "fnExactBigIntOk", fn := fun _ => fun
  | [d] => { results := [.lit (.bool true)], args := [d] }
  | _ => none }
def fnExactBigIntOkRow : OpenClaim := { program := "ytnejpdlikdgnnaa", sum := "2ca174efaf7ebe88a3df35cc7e8f6790a691faa8039888803a7329c2163ffdcf", func := "loop.example/g00812/laws.FnExactBigIntOk", spec := "fnExactBigIntOk", apart := false }
def FnExactBigIntOkSaid : Prop := fnExactBigIntOkRow.holds Try.pinned (OpenSpec.ofChange fnExactBigIntOkSpec)

/-- ITS FALSE NEIGHBOUR: 'it returns false'. Refute it at one input. -/
def fnExactBigIntOkWrong : ChangeSpec := { name := "fnExactBigIntOk", fn := fun _ => fun
  | [d] => { results := [.lit (.bool false)], args := [d] }
  | _ => none }
def FnExactBigIntOkWrongFalsely : Prop := fnExactBigIntOkRow.holds Try.pinned (OpenSpec.ofChange fnExactBigIntOkWrong)

/-- 'laws.FnExactBigIntOf': WHATEVER THE INPUT: true; the input reads as it did. -/
def fnExactBigIntOfSpec : ChangeSpec := { name := "fnExactBigIntOf", fn := fun _ => fun
  | [d] => { results := [.lit (.bool true)], args := [d] }
  | _ => none }
def fnExactBigIntOfRow : OpenClaim := { program := "ytnejpdlikdgnnaa", sum := "2ca174efaf7ebe88a3df35cc7e8f6790a691faa8039888803a7329c2163ffdcf", func := "loop.example/g00812/laws.FnExactBigIntOf", spec := "fnExactBigIntOf", apart := false }
def FnExactBigIntOfSaid : Prop := fnExactBigIntOfRow.holds Try.pinned (OpenSpec.ofChange fnExactBigIntOfSpec)

/-- ITS FALSE NEIGHBOUR: 'it returns false'. Refute it at one input. -/
def fnExactBigIntOfWrong : ChangeSpec := { name := "fnExactBigIntOf", fn := fun _ => fun
  | [d] => { results := [.lit (.bool false)], args := [d] }
  | _ => none }
def FnExactBigIntOfWrongFalsely : Prop := fnExactBigIntOfRow.holds Try.pinned (OpenSpec.ofChange fnExactBigIntOfWrong)

/-- 'laws.FnExactBigIntToInt': WHATEVER THE INPUT: true; the input reads as it did. -/
def fnExactBigIntToIntSpec : ChangeSpec := { name := "fnExactBigIntToInt", fn := fun _ => fun
  | [d] => { results := [.lit (.bool true)], args := [d] }
  | _ => none }
def fnExactBigIntToIntRow : OpenClaim := { program := "ytnejpdlikdgnnaa", sum := "2ca174efaf7ebe88a3df35cc7e8f6790a691faa8039888803a7329c2163ffdcf", func := "loop.example/g00812/laws.FnExactBigIntToInt", spec := "fnExactBigIntToInt", apart := false }
def FnExactBigIntToIntSaid : Prop := fnExactBigIntToIntRow.holds Try.pinned (OpenSpec.ofChange fnExactBigIntToIntSpec)

/-- ITS FALSE NEIGHBOUR: 'it returns false'. Refute it at one input. -/
def fnExactBigIntToIntWrong : ChangeSpec := { name := "fnExactBigIntToInt", fn := fun _ => fun
  | [d] => { results := [.lit (.bool false)], args := [d] }
  | _ => none }
def FnExactBigIntToIntWrongFalsely : Prop := fnExactBigIntToIntRow.holds Try.pinned (OpenSpec.ofChange fnExactBigIntToIntWrong)

/-- 'laws.FnExactBigIntNeg': WHATEVER THE INPUT: true; the input reads as it did. -/
def fnExactBigIntNegSpec : ChangeSpec := { name := "fnExactBigIntNeg", fn := fun _ => fun
  | [d] => { results := [.lit (.bool true)], args := [d] }
  | _ => none }
def fnExactBigIntNegRow : OpenClaim := { program := "ytnejpdlikdgnnaa", sum := "2ca174efaf7ebe88a3df35cc7e8f6790a691faa8039888803a7329c2163ffdcf", func := "loop.example/g00812/laws.FnExactBigIntNeg", spec := "fnExactBigIntNeg", apart := false }
def FnExactBigIntNegSaid : Prop := fnExactBigIntNegRow.holds Try.pinned (OpenSpec.ofChange fnExactBigIntNegSpec)

/-- ITS FALSE NEIGHBOUR: 'it returns false'. Refute it at one input. -/
def fnExactBigIntNegWrong : ChangeSpec := { name := "fnExactBigIntNeg", fn := fun _ => fun
  | [d] => { results := [.lit (.bool false)], args := [d] }
  | _ => none }
def FnExactBigIntNegWrongFalsely : Prop := fnExactBigIntNegRow.holds Try.pinned (OpenSpec.ofChange fnExactBigIntNegWrong)

/-- 'laws.FnExactBigIntAdd': WHATEVER THE INPUT: true; the input reads as it did. -/
def fnExactBigIntAddSpec : ChangeSpec := { name := "fnExactBigIntAdd", fn := fun _ => fun
  | [d1, d2] => { results := [.lit (.bool true)], args := [d1, d2] }
  | _ => none }
def fnExactBigIntAddRow : OpenClaim := { program := "ytnejpdlikdgnnaa", sum := "2ca174efaf7ebe88a3df35cc7e8f6790a691faa8039888803a7329c2163ffdcf", func := "loop.example/g00812/laws.FnExactBigIntAdd", spec := "fnExactBigIntAdd", apart := false }
def FnExactBigIntAddSaid : Prop := fnExactBigIntAddRow.holds Try.pinned (OpenSpec.ofChange fnExactBigIntAddSpec)

/-- ITS FALSE NEIGHBOUR: 'it returns false'. Refute it at one input. -/
def fnExactBigIntAddWrong : ChangeSpec := { name := "fnExactBigIntAdd", fn := fun _ => fun
  | [d1, d2] => { results := [.lit (.bool false)], args := [d1, d2] }
  | _ => none }
def FnExactBigIntAddWrongFalsely : Prop := fnExactBigIntAddRow.holds Try.pinned (OpenSpec.ofChange fnExactBigIntAddWrong)

/-- 'laws.FnExactBigIntSub': WHATEVER THE INPUT: true; the input reads as it did. -/
def fnExactBigIntSubSpec : ChangeSpec := { name := "fnExactBigIntSub", fn := fun _ => fun
  | [d1, d2] => { results := [.lit (.bool true)], args := [d1, d2] }
  | _ => none }
def fnExactBigIntSubRow : OpenClaim := { program := "ytnejpdlikdgnnaa", sum := "2ca174efaf7ebe88a3df35cc7e8f6790a691faa8039888803a7329c2163ffdcf", func := "loop.example/g00812/laws.FnExactBigIntSub", spec := "fnExactBigIntSub", apart := false }
def FnExactBigIntSubSaid : Prop := fnExactBigIntSubRow.holds Try.pinned (OpenSpec.ofChange fnExactBigIntSubSpec)

/-- ITS FALSE NEIGHBOUR: 'it returns false'. Refute it at one input. -/
def fnExactBigIntSubWrong : ChangeSpec := { name := "fnExactBigIntSub", fn := fun _ => fun
  | [d1, d2] => { results := [.lit (.bool false)], args := [d1, d2] }
  | _ => none }
def FnExactBigIntSubWrongFalsely : Prop := fnExactBigIntSubRow.holds Try.pinned (OpenSpec.ofChange fnExactBigIntSubWrong)

/-- 'laws.FnExactBigIntMul': WHATEVER THE INPUT: true; the input reads as it did. -/
def fnExactBigIntMulSpec : ChangeSpec := { name := "fnExactBigIntMul", fn := fun _ => fun
  | [d1, d2] => { results := [.lit (.bool true)], args := [d1, d2] }
  | _ => none }
def fnExactBigIntMulRow : OpenClaim := { program := "ytnejpdlikdgnnaa", sum := "2ca174efaf7ebe88a3df35cc7e8f6790a691faa8039888803a7329c2163ffdcf", func := "loop.example/g00812/laws.FnExactBigIntMul", spec := "fnExactBigIntMul", apart := false }
def FnExactBigIntMulSaid : Prop := fnExactBigIntMulRow.holds Try.pinned (OpenSpec.ofChange fnExactBigIntMulSpec)

/-- ITS FALSE NEIGHBOUR: 'it returns false'. Refute it at one input. -/
def fnExactBigIntMulWrong : ChangeSpec := { name := "fnExactBigIntMul", fn := fun _ => fun
  | [d1, d2] => { results := [.lit (.bool false)], args := [d1, d2] }
  | _ => none }
def FnExactBigIntMulWrongFalsely : Prop := fnExactBigIntMulRow.holds Try.pinned (OpenSpec.ofChange fnExactBigIntMulWrong)

/-- 'laws.FnExactBigIntCmp': WHATEVER THE INPUT: true; the input reads as it did. -/
def fnExactBigIntCmpSpec : ChangeSpec := { name := "fnExactBigIntCmp", fn := fun _ => fun
  | [d1, d2] => { results := [.lit (.bool true)], args := [d1, d2] }
  | _ => none }
def fnExactBigIntCmpRow : OpenClaim := { program := "ytnejpdlikdgnnaa", sum := "2ca174efaf7ebe88a3df35cc7e8f6790a691faa8039888803a7329c2163ffdcf", func := "loop.example/g00812/laws.FnExactBigIntCmp", spec := "fnExactBigIntCmp", apart := false }
def FnExactBigIntCmpSaid : Prop := fnExactBigIntCmpRow.holds Try.pinned (OpenSpec.ofChange fnExactBigIntCmpSpec)

/-- ITS FALSE NEIGHBOUR: 'it returns false'. Refute it at one input. -/
def fnExactBigIntCmpWrong : ChangeSpec := { name := "fnExactBigIntCmp", fn := fun _ => fun
  | [d1, d2] => { results := [.lit (.bool false)], args := [d1, d2] }
  | _ => none }
def FnExactBigIntCmpWrongFalsely : Prop := fnExactBigIntCmpRow.holds Try.pinned (OpenSpec.ofChange fnExactBigIntCmpWrong)

/-- 'laws.FnExactBigIntFloorDiv': WHATEVER THE INPUT: true; the input reads as it did. -/
def fnExactBigIntFloorDivSpec : ChangeSpec := { name := "fnExactBigIntFloorDiv", fn := fun _ => fun
  | [d1, d2] => { results := [.lit (.bool true)], args := [d1, d2] }
  | _ => none }
def fnExactBigIntFloorDivRow : OpenClaim := { program := "ytnejpdlikdgnnaa", sum := "2ca174efaf7ebe88a3df35cc7e8f6790a691faa8039888803a7329c2163ffdcf", func := "loop.example/g00812/laws.FnExactBigIntFloorDiv", spec := "fnExactBigIntFloorDiv", inPlace := ["math/bits.Add64"], named := ["math/bits.divideError", "math/bits.overflowError"], apart := false }
def FnExactBigIntFloorDivSaid : Prop := fnExactBigIntFloorDivRow.holds Try.pinned (OpenSpec.ofChange fnExactBigIntFloorDivSpec)

/-- ITS FALSE NEIGHBOUR: 'it returns false'. Refute it at one input. -/
def fnExactBigIntFloorDivWrong : ChangeSpec := { name := "fnExactBigIntFloorDiv", fn := fun _ => fun
  | [d1, d2] => { results := [.lit (.bool false)], args := [d1, d2] }
  | _ => none }
def FnExactBigIntFloorDivWrongFalsely : Prop := fnExactBigIntFloorDivRow.holds Try.pinned (OpenSpec.ofChange fnExactBigIntFloorDivWrong)

/- THE SECOND FORM. 'bulk': how many values and letters a reading holds, each counted each time it is reached (what is shared counts as often as it is met; a slice's spare places count too). A statement '..UptoSaid' is the law's where the arguments, and the package variables that the reading takes, are together of bulk at most 1048576: NARROWER than '..Said'. Prove '..Said' where nothing that the law and all that it calls make is longer than what came in: it says more and counts as full. Else prove '..UptoSaid'. A law counts once. -/
mutual
def uptoBulk {H : Type} : DataW H → Nat
  | .lit (.string bytes) => bytes.length + 1
  | .lit _ => 1
  | .nil => 1
  | .ptr d => uptoBulk d + 1
  | .slice elems spare => uptoBulkAll elems + uptoBulkAll spare + 1
  | .agg parts => uptoBulkAll parts + 1
  | .iface _ d => uptoBulk d + 1
  | .map entries => uptoBulkEntries entries + 1
  | .held _ => 1
def uptoBulkAll {H : Type} : List (DataW H) → Nat
  | [] => 0
  | d :: r => uptoBulk d + uptoBulkAll r
def uptoBulkEntries {H : Type} : List (Lit × DataW H) → Nat
  | [] => 0
  | x :: r => uptoBulkEntry x + uptoBulkEntries r
def uptoBulkEntry {H : Type} : Lit × DataW H → Nat
  | (.string bytes, d) => bytes.length + uptoBulk d + 1
  | (_, d) => uptoBulk d + 1
 end
def uptoSmall : (H : Type) → List (DataW H) → Bool := fun _ ds => decide (uptoBulkAll ds ≤ 1048576)
def OpenSpec.upto (s : _root_.Go.ChangeSpec) : _root_.Go.OpenSpec := { _root_.Go.OpenSpec.ofChange s with cond := some uptoSmall }

/-- 'laws.FnExactBigIntOk', WHERE WHAT IT READS IS OF BULK AT MOST 1048576: true; the input reads as it did. -/
def fnExactBigIntOkUptoRow : OpenClaim := { program := "ytnejpdlikdgnnaa", sum := "2ca174efaf7ebe88a3df35cc7e8f6790a691faa8039888803a7329c2163ffdcf", func := "loop.example/g00812/laws.FnExactBigIntOk", spec := "fnExactBigIntOk", apart := false, narrowed := true }
def FnExactBigIntOkUptoSaid : Prop := fnExactBigIntOkUptoRow.holds Try.pinned (OpenSpec.upto fnExactBigIntOkSpec)

/-- 'laws.FnExactBigIntOf', WHERE WHAT IT READS IS OF BULK AT MOST 1048576: true; the input reads as it did. -/
def fnExactBigIntOfUptoRow : OpenClaim := { program := "ytnejpdlikdgnnaa", sum := "2ca174efaf7ebe88a3df35cc7e8f6790a691faa8039888803a7329c2163ffdcf", func := "loop.example/g00812/laws.FnExactBigIntOf", spec := "fnExactBigIntOf", apart := false, narrowed := true }
def FnExactBigIntOfUptoSaid : Prop := fnExactBigIntOfUptoRow.holds Try.pinned (OpenSpec.upto fnExactBigIntOfSpec)

/-- 'laws.FnExactBigIntToInt', WHERE WHAT IT READS IS OF BULK AT MOST 1048576: true; the input reads as it did. -/
def fnExactBigIntToIntUptoRow : OpenClaim := { program := "ytnejpdlikdgnnaa", sum := "2ca174efaf7ebe88a3df35cc7e8f6790a691faa8039888803a7329c2163ffdcf", func := "loop.example/g00812/laws.FnExactBigIntToInt", spec := "fnExactBigIntToInt", apart := false, narrowed := true }
def FnExactBigIntToIntUptoSaid : Prop := fnExactBigIntToIntUptoRow.holds Try.pinned (OpenSpec.upto fnExactBigIntToIntSpec)

/-- 'laws.FnExactBigIntNeg', WHERE WHAT IT READS IS OF BULK AT MOST 1048576: true; the input reads as it did. -/
def fnExactBigIntNegUptoRow : OpenClaim := { program := "ytnejpdlikdgnnaa", sum := "2ca174efaf7ebe88a3df35cc7e8f6790a691faa8039888803a7329c2163ffdcf", func := "loop.example/g00812/laws.FnExactBigIntNeg", spec := "fnExactBigIntNeg", apart := false, narrowed := true }
def FnExactBigIntNegUptoSaid : Prop := fnExactBigIntNegUptoRow.holds Try.pinned (OpenSpec.upto fnExactBigIntNegSpec)

/-- 'laws.FnExactBigIntAdd', WHERE WHAT IT READS IS OF BULK AT MOST 1048576: true; the input reads as it did. -/
def fnExactBigIntAddUptoRow : OpenClaim := { program := "ytnejpdlikdgnnaa", sum := "2ca174efaf7ebe88a3df35cc7e8f6790a691faa8039888803a7329c2163ffdcf", func := "loop.example/g00812/laws.FnExactBigIntAdd", spec := "fnExactBigIntAdd", apart := false, narrowed := true }
def FnExactBigIntAddUptoSaid : Prop := fnExactBigIntAddUptoRow.holds Try.pinned (OpenSpec.upto fnExactBigIntAddSpec)

/-- 'laws.FnExactBigIntSub', WHERE WHAT IT READS IS OF BULK AT MOST 1048576: true; the input reads as it did. -/
def fnExactBigIntSubUptoRow : OpenClaim := { program := "ytnejpdlikdgnnaa", sum := "2ca174efaf7ebe88a3df35cc7e8f6790a691faa8039888803a7329c2163ffdcf", func := "loop.example/g00812/laws.FnExactBigIntSub", spec := "fnExactBigIntSub", apart := false, narrowed := true }
def FnExactBigIntSubUptoSaid : Prop := fnExactBigIntSubUptoRow.holds Try.pinned (OpenSpec.upto fnExactBigIntSubSpec)

/-- 'laws.FnExactBigIntMul', WHERE WHAT IT READS IS OF BULK AT MOST 1048576: true; the input reads as it did. -/
def fnExactBigIntMulUptoRow : OpenClaim := { program := "ytnejpdlikdgnnaa", sum := "2ca174efaf7ebe88a3df35cc7e8f6790a691faa8039888803a7329c2163ffdcf", func := "loop.example/g00812/laws.FnExactBigIntMul", spec := "fnExactBigIntMul", apart := false, narrowed := true }
def FnExactBigIntMulUptoSaid : Prop := fnExactBigIntMulUptoRow.holds Try.pinned (OpenSpec.upto fnExactBigIntMulSpec)

/-- 'laws.FnExactBigIntCmp', WHERE WHAT IT READS IS OF BULK AT MOST 1048576: true; the input reads as it did. -/
def fnExactBigIntCmpUptoRow : OpenClaim := { program := "ytnejpdlikdgnnaa", sum := "2ca174efaf7ebe88a3df35cc7e8f6790a691faa8039888803a7329c2163ffdcf", func := "loop.example/g00812/laws.FnExactBigIntCmp", spec := "fnExactBigIntCmp", apart := false, narrowed := true }
def FnExactBigIntCmpUptoSaid : Prop := fnExactBigIntCmpUptoRow.holds Try.pinned (OpenSpec.upto fnExactBigIntCmpSpec)

/-- 'laws.FnExactBigIntFloorDiv', WHERE WHAT IT READS IS OF BULK AT MOST 1048576: true; the input reads as it did. -/
def fnExactBigIntFloorDivUptoRow : OpenClaim := { program := "ytnejpdlikdgnnaa", sum := "2ca174efaf7ebe88a3df35cc7e8f6790a691faa8039888803a7329c2163ffdcf", func := "loop.example/g00812/laws.FnExactBigIntFloorDiv", spec := "fnExactBigIntFloorDiv", inPlace := ["math/bits.Add64"], named := ["math/bits.divideError", "math/bits.overflowError"], apart := false, narrowed := true }
def FnExactBigIntFloorDivUptoSaid : Prop := fnExactBigIntFloorDivUptoRow.holds Try.pinned (OpenSpec.upto fnExactBigIntFloorDivSpec)

end Rows
end Go.Proofs.Ytnejpdlikdgnnaa
