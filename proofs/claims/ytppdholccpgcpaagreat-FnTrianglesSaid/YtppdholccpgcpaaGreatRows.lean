/-
  No cell of these rows narrows 'for every input' (looked for: loops, veiled, ifaces, maps, wideKeys, modest, calm, conditions, laid).
  DERIVED. THE GIVEN ROWS OF THIS SEAT. 8 by the template 'for every input the law returns true; each argument reads behind the call as it read before'; 0 by the template 'total and deterministic' (their statements: YtppdholccpgcpaaGreatTotals.lean).
  GIVEN WITH THE SEED: the statements are not yours to turn. If you find one false, say at which input.
  Laid BY PROGRAM, IN A SANDBOX (cutbox-rows.mjs): the forced cells as the released guide's own fill.sh prints them over the translation d927ccc47a0a83d7… (all of the seat's roots in one cut). By AI agents, Wed Nov 11 2026. No macro, syntax, notation, axiom, sorry.
-/
import Derived.Test.YtppdholccpgcpaaGreatChecked
import GoSem.Claim
import GoSem.ClaimJoined
import GoSem.ClaimMapViews
import Derived.JoinedTies
import Derived.KernelRfl
namespace Go.Proofs.YtppdholccpgcpaaGreat
/- THE CELL 'sum', in the pinned program and in every row, IS THE sha256 OF THE DUMP (.gsa) THAT YtppdholccpgcpaaGreatProg.lean LOADS. Nothing in Lean hashes anything: it is a label: what it is worth is what the hold of that sum in a sandbox is worth. -/
noncomputable def Tryz.pinned : Pinned := { name := "ytppdholccpgcpaagreat", sum := "d927ccc47a0a83d773c4421b39abfa0fdef5fbf3fc89c66a2f44a593a933d69e", checked := Tryz.checked }
namespace Rows
def none {H : Type} : Left H := { results := [], args := [] }

/-- 'laws.FnTriangles': WHATEVER THE INPUT: true; the input reads as it did. -/
def fnTrianglesSpec : ChangeSpec := { name := "fnTriangles", fn := fun _ => fun
  | [d] => { results := [.lit (.bool true)], args := [d] }
  | _ => none }
def fnTrianglesRow : OpenClaim := { program := "ytppdholccpgcpaagreat", sum := "d927ccc47a0a83d773c4421b39abfa0fdef5fbf3fc89c66a2f44a593a933d69e", func := "loop.example/g00812/laws.FnTriangles", spec := "fnTriangles", inPlace := ["math/bits.Add64"], unfollowed := true, recurses := true, named := ["math/bits.divideError", "math/bits.overflowError"], apart := false }
def FnTrianglesSaid : Prop := fnTrianglesRow.holds Tryz.pinned (OpenSpec.ofChange fnTrianglesSpec)

/-- ITS FALSE NEIGHBOUR: 'it returns false'. Refute it at one input. -/
def fnTrianglesWrong : ChangeSpec := { name := "fnTriangles", fn := fun _ => fun
  | [d] => { results := [.lit (.bool false)], args := [d] }
  | _ => none }
def FnTrianglesWrongFalsely : Prop := fnTrianglesRow.holds Tryz.pinned (OpenSpec.ofChange fnTrianglesWrong)

/-- 'laws.FnElements': WHATEVER THE INPUT: true; the input reads as it did. -/
def fnElementsSpec : ChangeSpec := { name := "fnElements", fn := fun _ => fun
  | [d] => { results := [.lit (.bool true)], args := [d] }
  | _ => none }
def fnElementsRow : OpenClaim := { program := "ytppdholccpgcpaagreat", sum := "d927ccc47a0a83d773c4421b39abfa0fdef5fbf3fc89c66a2f44a593a933d69e", func := "loop.example/g00812/laws.FnElements", spec := "fnElements", inPlace := ["math/bits.Add64"], named := ["math/bits.divideError", "math/bits.overflowError"], apart := false }
def FnElementsSaid : Prop := fnElementsRow.holds Tryz.pinned (OpenSpec.ofChange fnElementsSpec)

/-- ITS FALSE NEIGHBOUR: 'it returns false'. Refute it at one input. -/
def fnElementsWrong : ChangeSpec := { name := "fnElements", fn := fun _ => fun
  | [d] => { results := [.lit (.bool false)], args := [d] }
  | _ => none }
def FnElementsWrongFalsely : Prop := fnElementsRow.holds Tryz.pinned (OpenSpec.ofChange fnElementsWrong)

/-- 'laws.FnIntegrals': WHATEVER THE INPUT: true; the input reads as it did. -/
def fnIntegralsSpec : ChangeSpec := { name := "fnIntegrals", fn := fun _ => fun
  | [d] => { results := [.lit (.bool true)], args := [d] }
  | _ => none }
def fnIntegralsRow : OpenClaim := { program := "ytppdholccpgcpaagreat", sum := "d927ccc47a0a83d773c4421b39abfa0fdef5fbf3fc89c66a2f44a593a933d69e", func := "loop.example/g00812/laws.FnIntegrals", spec := "fnIntegrals", inPlace := ["math/bits.Add64"], unfollowed := true, recurses := true, named := ["math/bits.divideError", "math/bits.overflowError"], apart := false }
def FnIntegralsSaid : Prop := fnIntegralsRow.holds Tryz.pinned (OpenSpec.ofChange fnIntegralsSpec)

/-- ITS FALSE NEIGHBOUR: 'it returns false'. Refute it at one input. -/
def fnIntegralsWrong : ChangeSpec := { name := "fnIntegrals", fn := fun _ => fun
  | [d] => { results := [.lit (.bool false)], args := [d] }
  | _ => none }
def FnIntegralsWrongFalsely : Prop := fnIntegralsRow.holds Tryz.pinned (OpenSpec.ofChange fnIntegralsWrong)

/-- 'laws.FnExactGradients': WHATEVER THE INPUT: true; the input reads as it did. -/
def fnExactGradientsSpec : ChangeSpec := { name := "fnExactGradients", fn := fun _ => fun
  | [d] => { results := [.lit (.bool true)], args := [d] }
  | _ => none }
def fnExactGradientsRow : OpenClaim := { program := "ytppdholccpgcpaagreat", sum := "d927ccc47a0a83d773c4421b39abfa0fdef5fbf3fc89c66a2f44a593a933d69e", func := "loop.example/g00812/laws.FnExactGradients", spec := "fnExactGradients", inPlace := ["math/bits.Add64"], unfollowed := true, recurses := true, named := ["math/bits.divideError", "math/bits.overflowError"], apart := false }
def FnExactGradientsSaid : Prop := fnExactGradientsRow.holds Tryz.pinned (OpenSpec.ofChange fnExactGradientsSpec)

/-- ITS FALSE NEIGHBOUR: 'it returns false'. Refute it at one input. -/
def fnExactGradientsWrong : ChangeSpec := { name := "fnExactGradients", fn := fun _ => fun
  | [d] => { results := [.lit (.bool false)], args := [d] }
  | _ => none }
def FnExactGradientsWrongFalsely : Prop := fnExactGradientsRow.holds Tryz.pinned (OpenSpec.ofChange fnExactGradientsWrong)

/-- 'laws.FnExactLocalGradient': WHATEVER THE INPUT: true; the input reads as it did. -/
def fnExactLocalGradientSpec : ChangeSpec := { name := "fnExactLocalGradient", fn := fun _ => fun
  | [d1, d2] => { results := [.lit (.bool true)], args := [d1, d2] }
  | _ => none }
def fnExactLocalGradientRow : OpenClaim := { program := "ytppdholccpgcpaagreat", sum := "d927ccc47a0a83d773c4421b39abfa0fdef5fbf3fc89c66a2f44a593a933d69e", func := "loop.example/g00812/laws.FnExactLocalGradient", spec := "fnExactLocalGradient", inPlace := ["math/bits.Add64"], unfollowed := true, recurses := true, named := ["math/bits.divideError", "math/bits.overflowError"], apart := false }
def FnExactLocalGradientSaid : Prop := fnExactLocalGradientRow.holds Tryz.pinned (OpenSpec.ofChange fnExactLocalGradientSpec)

/-- ITS FALSE NEIGHBOUR: 'it returns false'. Refute it at one input. -/
def fnExactLocalGradientWrong : ChangeSpec := { name := "fnExactLocalGradient", fn := fun _ => fun
  | [d1, d2] => { results := [.lit (.bool false)], args := [d1, d2] }
  | _ => none }
def FnExactLocalGradientWrongFalsely : Prop := fnExactLocalGradientRow.holds Tryz.pinned (OpenSpec.ofChange fnExactLocalGradientWrong)

/-- 'laws.FnExactLocalStiffness': WHATEVER THE INPUT: true; the input reads as it did. -/
def fnExactLocalStiffnessSpec : ChangeSpec := { name := "fnExactLocalStiffness", fn := fun _ => fun
  | [d] => { results := [.lit (.bool true)], args := [d] }
  | _ => none }
def fnExactLocalStiffnessRow : OpenClaim := { program := "ytppdholccpgcpaagreat", sum := "d927ccc47a0a83d773c4421b39abfa0fdef5fbf3fc89c66a2f44a593a933d69e", func := "loop.example/g00812/laws.FnExactLocalStiffness", spec := "fnExactLocalStiffness", inPlace := ["math/bits.Add64"], named := ["math/bits.divideError", "math/bits.overflowError"], apart := false }
def FnExactLocalStiffnessSaid : Prop := fnExactLocalStiffnessRow.holds Tryz.pinned (OpenSpec.ofChange fnExactLocalStiffnessSpec)

/-- ITS FALSE NEIGHBOUR: 'it returns false'. Refute it at one input. -/
def fnExactLocalStiffnessWrong : ChangeSpec := { name := "fnExactLocalStiffness", fn := fun _ => fun
  | [d] => { results := [.lit (.bool false)], args := [d] }
  | _ => none }
def FnExactLocalStiffnessWrongFalsely : Prop := fnExactLocalStiffnessRow.holds Tryz.pinned (OpenSpec.ofChange fnExactLocalStiffnessWrong)

/-- 'laws.FnExactLocalMass': WHATEVER THE INPUT: true; the input reads as it did. -/
def fnExactLocalMassSpec : ChangeSpec := { name := "fnExactLocalMass", fn := fun _ => fun
  | [d] => { results := [.lit (.bool true)], args := [d] }
  | _ => none }
def fnExactLocalMassRow : OpenClaim := { program := "ytppdholccpgcpaagreat", sum := "d927ccc47a0a83d773c4421b39abfa0fdef5fbf3fc89c66a2f44a593a933d69e", func := "loop.example/g00812/laws.FnExactLocalMass", spec := "fnExactLocalMass", inPlace := ["math/bits.Add64"], named := ["math/bits.divideError", "math/bits.overflowError"], apart := false }
def FnExactLocalMassSaid : Prop := fnExactLocalMassRow.holds Tryz.pinned (OpenSpec.ofChange fnExactLocalMassSpec)

/-- ITS FALSE NEIGHBOUR: 'it returns false'. Refute it at one input. -/
def fnExactLocalMassWrong : ChangeSpec := { name := "fnExactLocalMass", fn := fun _ => fun
  | [d] => { results := [.lit (.bool false)], args := [d] }
  | _ => none }
def FnExactLocalMassWrongFalsely : Prop := fnExactLocalMassRow.holds Tryz.pinned (OpenSpec.ofChange fnExactLocalMassWrong)

/-- 'laws.FnExactProductIntegral': WHATEVER THE INPUT: true; the input reads as it did. -/
def fnExactProductIntegralSpec : ChangeSpec := { name := "fnExactProductIntegral", fn := fun _ => fun
  | [d1, d2, d3] => { results := [.lit (.bool true)], args := [d1, d2, d3] }
  | _ => none }
def fnExactProductIntegralRow : OpenClaim := { program := "ytppdholccpgcpaagreat", sum := "d927ccc47a0a83d773c4421b39abfa0fdef5fbf3fc89c66a2f44a593a933d69e", func := "loop.example/g00812/laws.FnExactProductIntegral", spec := "fnExactProductIntegral", inPlace := ["math/bits.Add64"], unfollowed := true, recurses := true, named := ["math/bits.divideError", "math/bits.overflowError"], apart := false }
def FnExactProductIntegralSaid : Prop := fnExactProductIntegralRow.holds Tryz.pinned (OpenSpec.ofChange fnExactProductIntegralSpec)

/-- ITS FALSE NEIGHBOUR: 'it returns false'. Refute it at one input. -/
def fnExactProductIntegralWrong : ChangeSpec := { name := "fnExactProductIntegral", fn := fun _ => fun
  | [d1, d2, d3] => { results := [.lit (.bool false)], args := [d1, d2, d3] }
  | _ => none }
def FnExactProductIntegralWrongFalsely : Prop := fnExactProductIntegralRow.holds Tryz.pinned (OpenSpec.ofChange fnExactProductIntegralWrong)

/- THE SECOND FORM. 'bulk': how many values and letters a reading holds, each counted each time it is reached (what is shared counts as often as it is met; a slice's spare places count too). A statement '..UptoSaid' is the law's where the arguments, and the package variables that the reading takes, are together of bulk at most 1048576: NARROWER than '..Said'. Prove '..Said' where nothing that the law and all that it calls make is longer than what came in: it says more and counts as full. Else prove '..UptoSaid'. A law counts once. -/
mutual
def uptoBulk {H : Type} : DataW H → Nat
  | .lit (.string bytes) => bytes.length + 1
  | .lit _ => 1
  | .nil => 1
  | .ptr d => uptoBulk d + 1
  | .slice elems spare => uptoBulkAll elems + uptoBulkAll spare + 1
  | .agg parts => uptoBulkAll parts + 1
  | .iface _ d => uptoBulk d + 1
  | .map entries => uptoBulkEntries entries + 1
  | .held _ => 1
def uptoBulkAll {H : Type} : List (DataW H) → Nat
  | [] => 0
  | d :: r => uptoBulk d + uptoBulkAll r
def uptoBulkEntries {H : Type} : List (Lit × DataW H) → Nat
  | [] => 0
  | x :: r => uptoBulkEntry x + uptoBulkEntries r
def uptoBulkEntry {H : Type} : Lit × DataW H → Nat
  | (.string bytes, d) => bytes.length + uptoBulk d + 1
  | (_, d) => uptoBulk d + 1
 end
def uptoSmall : (H : Type) → List (DataW H) → Bool := fun _ ds => decide (uptoBulkAll ds ≤ 1048576)
def OpenSpec.upto (s : _root_.Go.ChangeSpec) : _root_.Go.OpenSpec := { _root_.Go.OpenSpec.ofChange s with cond := some uptoSmall }

/-- 'laws.FnTriangles', WHERE WHAT IT READS IS OF BULK AT MOST 1048576: true; the input reads as it did. -/
def fnTrianglesUptoRow : OpenClaim := { program := "ytppdholccpgcpaagreat", sum := "d927ccc47a0a83d773c4421b39abfa0fdef5fbf3fc89c66a2f44a593a933d69e", func := "loop.example/g00812/laws.FnTriangles", spec := "fnTriangles", inPlace := ["math/bits.Add64"], unfollowed := true, recurses := true, named := ["math/bits.divideError", "math/bits.overflowError"], apart := false, narrowed := true }
def FnTrianglesUptoSaid : Prop := fnTrianglesUptoRow.holds Tryz.pinned (OpenSpec.upto fnTrianglesSpec)

/-- 'laws.FnElements', WHERE WHAT IT READS IS OF BULK AT MOST 1048576: true; the input reads as it did. -/
def fnElementsUptoRow : OpenClaim := { program := "ytppdholccpgcpaagreat", sum := "d927ccc47a0a83d773c4421b39abfa0fdef5fbf3fc89c66a2f44a593a933d69e", func := "loop.example/g00812/laws.FnElements", spec := "fnElements", inPlace := ["math/bits.Add64"], named := ["math/bits.divideError", "math/bits.overflowError"], apart := false, narrowed := true }
def FnElementsUptoSaid : Prop := fnElementsUptoRow.holds Tryz.pinned (OpenSpec.upto fnElementsSpec)

/-- 'laws.FnIntegrals', WHERE WHAT IT READS IS OF BULK AT MOST 1048576: true; the input reads as it did. -/
def fnIntegralsUptoRow : OpenClaim := { program := "ytppdholccpgcpaagreat", sum := "d927ccc47a0a83d773c4421b39abfa0fdef5fbf3fc89c66a2f44a593a933d69e", func := "loop.example/g00812/laws.FnIntegrals", spec := "fnIntegrals", inPlace := ["math/bits.Add64"], unfollowed := true, recurses := true, named := ["math/bits.divideError", "math/bits.overflowError"], apart := false, narrowed := true }
def FnIntegralsUptoSaid : Prop := fnIntegralsUptoRow.holds Tryz.pinned (OpenSpec.upto fnIntegralsSpec)

/-- 'laws.FnExactGradients', WHERE WHAT IT READS IS OF BULK AT MOST 1048576: true; the input reads as it did. -/
def fnExactGradientsUptoRow : OpenClaim := { program := "ytppdholccpgcpaagreat", sum := "d927ccc47a0a83d773c4421b39abfa0fdef5fbf3fc89c66a2f44a593a933d69e", func := "loop.example/g00812/laws.FnExactGradients", spec := "fnExactGradients", inPlace := ["math/bits.Add64"], unfollowed := true, recurses := true, named := ["math/bits.divideError", "math/bits.overflowError"], apart := false, narrowed := true }
def FnExactGradientsUptoSaid : Prop := fnExactGradientsUptoRow.holds Tryz.pinned (OpenSpec.upto fnExactGradientsSpec)

/-- 'laws.FnExactLocalGradient', WHERE WHAT IT READS IS OF BULK AT MOST 1048576: true; the input reads as it did. -/
def fnExactLocalGradientUptoRow : OpenClaim := { program := "ytppdholccpgcpaagreat", sum := "d927ccc47a0a83d773c4421b39abfa0fdef5fbf3fc89c66a2f44a593a933d69e", func := "loop.example/g00812/laws.FnExactLocalGradient", spec := "fnExactLocalGradient", inPlace := ["math/bits.Add64"], unfollowed := true, recurses := true, named := ["math/bits.divideError", "math/bits.overflowError"], apart := false, narrowed := true }
def FnExactLocalGradientUptoSaid : Prop := fnExactLocalGradientUptoRow.holds Tryz.pinned (OpenSpec.upto fnExactLocalGradientSpec)

/-- 'laws.FnExactLocalStiffness', WHERE WHAT IT READS IS OF BULK AT MOST 1048576: true; the input reads as it did. -/
def fnExactLocalStiffnessUptoRow : OpenClaim := { program := "ytppdholccpgcpaagreat", sum := "d927ccc47a0a83d773c4421b39abfa0fdef5fbf3fc89c66a2f44a593a933d69e", func := "loop.example/g00812/laws.FnExactLocalStiffness", spec := "fnExactLocalStiffness", inPlace := ["math/bits.Add64"], named := ["math/bits.divideError", "math/bits.overflowError"], apart := false, narrowed := true }
def FnExactLocalStiffnessUptoSaid : Prop := fnExactLocalStiffnessUptoRow.holds Tryz.pinned (OpenSpec.upto fnExactLocalStiffnessSpec)

/-- 'laws.FnExactLocalMass', WHERE WHAT IT READS IS OF BULK AT MOST 1048576: true; the input reads as it did. -/
def fnExactLocalMassUptoRow : OpenClaim := { program := "ytppdholccpgcpaagreat", sum := "d927ccc47a0a83d773c4421b39abfa0fdef5fbf3fc89c66a2f44a593a933d69e", func := "loop.example/g00812/laws.FnExactLocalMass", spec := "fnExactLocalMass", inPlace := ["math/bits.Add64"], named := ["math/bits.divideError", "math/bits.overflowError"], apart := false, narrowed := true }
def FnExactLocalMassUptoSaid : Prop := fnExactLocalMassUptoRow.holds Tryz.pinned (OpenSpec.upto fnExactLocalMassSpec)

/-- 'laws.FnExactProductIntegral', WHERE WHAT IT READS IS OF BULK AT MOST 1048576: true; the input reads as it did. -/
def fnExactProductIntegralUptoRow : OpenClaim := { program := "ytppdholccpgcpaagreat", sum := "d927ccc47a0a83d773c4421b39abfa0fdef5fbf3fc89c66a2f44a593a933d69e", func := "loop.example/g00812/laws.FnExactProductIntegral", spec := "fnExactProductIntegral", inPlace := ["math/bits.Add64"], unfollowed := true, recurses := true, named := ["math/bits.divideError", "math/bits.overflowError"], apart := false, narrowed := true }
def FnExactProductIntegralUptoSaid : Prop := fnExactProductIntegralUptoRow.holds Tryz.pinned (OpenSpec.upto fnExactProductIntegralSpec)

end Rows
end Go.Proofs.YtppdholccpgcpaaGreat
