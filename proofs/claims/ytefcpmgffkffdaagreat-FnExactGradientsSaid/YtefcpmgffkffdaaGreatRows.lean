/-
  No cell of these rows narrows 'for every input' (looked for: loops, veiled, ifaces, maps, wideKeys, modest, calm, conditions, laid).
  DERIVED. THE GIVEN ROWS OF THIS SEAT. 10 by the template 'for every input the law returns true; each argument reads behind the call as it read before'; 0 by the template 'total and deterministic' (their statements: YtefcpmgffkffdaaGreatTotals.lean).
  GIVEN WITH THE SEED: the statements are not yours to turn. If you find one false, say at which input.
  Laid BY PROGRAM, IN A SANDBOX (cutbox-rows.mjs): the forced cells as the released guide's own fill.sh prints them over the translation 4732317cb01f95d8… (all of the seat's roots in one cut). By AI agents, Wed Nov 11 2026. No macro, syntax, notation, axiom, sorry.
-/
import Derived.Test.YtefcpmgffkffdaaGreatChecked
import GoSem.Claim
import GoSem.ClaimJoined
import GoSem.ClaimMapViews
import Derived.JoinedTies
import Derived.KernelRfl
namespace Go.Proofs.YtefcpmgffkffdaaGreat
/- THE CELL 'sum', in the pinned program and in every row, IS THE sha256 OF THE DUMP (.gsa) THAT YtefcpmgffkffdaaGreatProg.lean LOADS. Nothing in Lean hashes anything: it is a label: what it is worth is what the hold of that sum in a sandbox is worth. -/
noncomputable def Tryz.pinned : Pinned := { name := "ytefcpmgffkffdaagreat", sum := "4732317cb01f95d88f0b388c5643e17d87c68940dbb33d9cbf6f8e8df08d4b23", checked := Tryz.checked }
namespace Rows
def none {H : Type} : Left H := { results := [], args := [] }

/-- 'laws.FnTriangles': WHATEVER THE INPUT: true; the input reads as it did. -/
def fnTrianglesSpec : ChangeSpec := { name := "fnTriangles", fn := fun _ => fun
  | [d] => { results := [.lit (.bool true)], args := [d] }
  | _ => none }
def fnTrianglesRow : OpenClaim := { program := "ytefcpmgffkffdaagreat", sum := "4732317cb01f95d88f0b388c5643e17d87c68940dbb33d9cbf6f8e8df08d4b23", func := "loop.example/g00812/laws.FnTriangles", spec := "fnTriangles", inPlace := ["math/bits.Add64"], unfollowed := true, recurses := true, named := ["math/bits.divideError", "math/bits.overflowError"], apart := false }
def FnTrianglesSaid : Prop := fnTrianglesRow.holds Tryz.pinned (OpenSpec.ofChange fnTrianglesSpec)

/-- ITS FALSE NEIGHBOUR: 'it returns false'. Refute it at one input. -/
def fnTrianglesWrong : ChangeSpec := { name := "fnTriangles", fn := fun _ => fun
  | [d] => { results := [.lit (.bool false)], args := [d] }
  | _ => none }
def FnTrianglesWrongFalsely : Prop := fnTrianglesRow.holds Tryz.pinned (OpenSpec.ofChange fnTrianglesWrong)

/-- 'laws.FnShapes': WHATEVER THE INPUT: true; the input reads as it did. -/
def fnShapesSpec : ChangeSpec := { name := "fnShapes", fn := fun _ => fun
  | [d] => { results := [.lit (.bool true)], args := [d] }
  | _ => none }
def fnShapesRow : OpenClaim := { program := "ytefcpmgffkffdaagreat", sum := "4732317cb01f95d88f0b388c5643e17d87c68940dbb33d9cbf6f8e8df08d4b23", func := "loop.example/g00812/laws.FnShapes", spec := "fnShapes", inPlace := ["math/bits.Add64"], unfollowed := true, recurses := true, named := ["math/bits.divideError", "math/bits.overflowError"], apart := false }
def FnShapesSaid : Prop := fnShapesRow.holds Tryz.pinned (OpenSpec.ofChange fnShapesSpec)

/-- ITS FALSE NEIGHBOUR: 'it returns false'. Refute it at one input. -/
def fnShapesWrong : ChangeSpec := { name := "fnShapes", fn := fun _ => fun
  | [d] => { results := [.lit (.bool false)], args := [d] }
  | _ => none }
def FnShapesWrongFalsely : Prop := fnShapesRow.holds Tryz.pinned (OpenSpec.ofChange fnShapesWrong)

/-- 'laws.FnExactIsProper': WHATEVER THE INPUT: true; the input reads as it did. -/
def fnExactIsProperSpec : ChangeSpec := { name := "fnExactIsProper", fn := fun _ => fun
  | [d] => { results := [.lit (.bool true)], args := [d] }
  | _ => none }
def fnExactIsProperRow : OpenClaim := { program := "ytefcpmgffkffdaagreat", sum := "4732317cb01f95d88f0b388c5643e17d87c68940dbb33d9cbf6f8e8df08d4b23", func := "loop.example/g00812/laws.FnExactIsProper", spec := "fnExactIsProper", inPlace := ["math/bits.Add64"], named := ["math/bits.divideError", "math/bits.overflowError"], apart := false }
def FnExactIsProperSaid : Prop := fnExactIsProperRow.holds Tryz.pinned (OpenSpec.ofChange fnExactIsProperSpec)

/-- ITS FALSE NEIGHBOUR: 'it returns false'. Refute it at one input. -/
def fnExactIsProperWrong : ChangeSpec := { name := "fnExactIsProper", fn := fun _ => fun
  | [d] => { results := [.lit (.bool false)], args := [d] }
  | _ => none }
def FnExactIsProperWrongFalsely : Prop := fnExactIsProperRow.holds Tryz.pinned (OpenSpec.ofChange fnExactIsProperWrong)

/-- 'laws.FnExactAreaOf': WHATEVER THE INPUT: true; the input reads as it did. -/
def fnExactAreaOfSpec : ChangeSpec := { name := "fnExactAreaOf", fn := fun _ => fun
  | [d] => { results := [.lit (.bool true)], args := [d] }
  | _ => none }
def fnExactAreaOfRow : OpenClaim := { program := "ytefcpmgffkffdaagreat", sum := "4732317cb01f95d88f0b388c5643e17d87c68940dbb33d9cbf6f8e8df08d4b23", func := "loop.example/g00812/laws.FnExactAreaOf", spec := "fnExactAreaOf", inPlace := ["math/bits.Add64"], named := ["math/bits.divideError", "math/bits.overflowError"], apart := false }
def FnExactAreaOfSaid : Prop := fnExactAreaOfRow.holds Tryz.pinned (OpenSpec.ofChange fnExactAreaOfSpec)

/-- ITS FALSE NEIGHBOUR: 'it returns false'. Refute it at one input. -/
def fnExactAreaOfWrong : ChangeSpec := { name := "fnExactAreaOf", fn := fun _ => fun
  | [d] => { results := [.lit (.bool false)], args := [d] }
  | _ => none }
def FnExactAreaOfWrongFalsely : Prop := fnExactAreaOfRow.holds Tryz.pinned (OpenSpec.ofChange fnExactAreaOfWrong)

/-- 'laws.FnExactCentroid': WHATEVER THE INPUT: true; the input reads as it did. -/
def fnExactCentroidSpec : ChangeSpec := { name := "fnExactCentroid", fn := fun _ => fun
  | [d] => { results := [.lit (.bool true)], args := [d] }
  | _ => none }
def fnExactCentroidRow : OpenClaim := { program := "ytefcpmgffkffdaagreat", sum := "4732317cb01f95d88f0b388c5643e17d87c68940dbb33d9cbf6f8e8df08d4b23", func := "loop.example/g00812/laws.FnExactCentroid", spec := "fnExactCentroid", inPlace := ["math/bits.Add64"], named := ["math/bits.divideError", "math/bits.overflowError"], apart := false }
def FnExactCentroidSaid : Prop := fnExactCentroidRow.holds Tryz.pinned (OpenSpec.ofChange fnExactCentroidSpec)

/-- ITS FALSE NEIGHBOUR: 'it returns false'. Refute it at one input. -/
def fnExactCentroidWrong : ChangeSpec := { name := "fnExactCentroid", fn := fun _ => fun
  | [d] => { results := [.lit (.bool false)], args := [d] }
  | _ => none }
def FnExactCentroidWrongFalsely : Prop := fnExactCentroidRow.holds Tryz.pinned (OpenSpec.ofChange fnExactCentroidWrong)

/-- 'laws.FnExactBarycentric': WHATEVER THE INPUT: true; the input reads as it did. -/
def fnExactBarycentricSpec : ChangeSpec := { name := "fnExactBarycentric", fn := fun _ => fun
  | [d1, d2] => { results := [.lit (.bool true)], args := [d1, d2] }
  | _ => none }
def fnExactBarycentricRow : OpenClaim := { program := "ytefcpmgffkffdaagreat", sum := "4732317cb01f95d88f0b388c5643e17d87c68940dbb33d9cbf6f8e8df08d4b23", func := "loop.example/g00812/laws.FnExactBarycentric", spec := "fnExactBarycentric", inPlace := ["math/bits.Add64"], named := ["math/bits.divideError", "math/bits.overflowError"], apart := false }
def FnExactBarycentricSaid : Prop := fnExactBarycentricRow.holds Tryz.pinned (OpenSpec.ofChange fnExactBarycentricSpec)

/-- ITS FALSE NEIGHBOUR: 'it returns false'. Refute it at one input. -/
def fnExactBarycentricWrong : ChangeSpec := { name := "fnExactBarycentric", fn := fun _ => fun
  | [d1, d2] => { results := [.lit (.bool false)], args := [d1, d2] }
  | _ => none }
def FnExactBarycentricWrongFalsely : Prop := fnExactBarycentricRow.holds Tryz.pinned (OpenSpec.ofChange fnExactBarycentricWrong)

/-- 'laws.FnExactSideOf': WHATEVER THE INPUT: true; the input reads as it did. -/
def fnExactSideOfSpec : ChangeSpec := { name := "fnExactSideOf", fn := fun _ => fun
  | [d1, d2] => { results := [.lit (.bool true)], args := [d1, d2] }
  | _ => none }
def fnExactSideOfRow : OpenClaim := { program := "ytefcpmgffkffdaagreat", sum := "4732317cb01f95d88f0b388c5643e17d87c68940dbb33d9cbf6f8e8df08d4b23", func := "loop.example/g00812/laws.FnExactSideOf", spec := "fnExactSideOf", inPlace := ["math/bits.Add64"], named := ["math/bits.divideError", "math/bits.overflowError"], apart := false }
def FnExactSideOfSaid : Prop := fnExactSideOfRow.holds Tryz.pinned (OpenSpec.ofChange fnExactSideOfSpec)

/-- ITS FALSE NEIGHBOUR: 'it returns false'. Refute it at one input. -/
def fnExactSideOfWrong : ChangeSpec := { name := "fnExactSideOf", fn := fun _ => fun
  | [d1, d2] => { results := [.lit (.bool false)], args := [d1, d2] }
  | _ => none }
def FnExactSideOfWrongFalsely : Prop := fnExactSideOfRow.holds Tryz.pinned (OpenSpec.ofChange fnExactSideOfWrong)

/-- 'laws.FnExactGradients': WHATEVER THE INPUT: true; the input reads as it did. -/
def fnExactGradientsSpec : ChangeSpec := { name := "fnExactGradients", fn := fun _ => fun
  | [d] => { results := [.lit (.bool true)], args := [d] }
  | _ => none }
def fnExactGradientsRow : OpenClaim := { program := "ytefcpmgffkffdaagreat", sum := "4732317cb01f95d88f0b388c5643e17d87c68940dbb33d9cbf6f8e8df08d4b23", func := "loop.example/g00812/laws.FnExactGradients", spec := "fnExactGradients", inPlace := ["math/bits.Add64"], named := ["math/bits.divideError", "math/bits.overflowError"], apart := false }
def FnExactGradientsSaid : Prop := fnExactGradientsRow.holds Tryz.pinned (OpenSpec.ofChange fnExactGradientsSpec)

/-- ITS FALSE NEIGHBOUR: 'it returns false'. Refute it at one input. -/
def fnExactGradientsWrong : ChangeSpec := { name := "fnExactGradients", fn := fun _ => fun
  | [d] => { results := [.lit (.bool false)], args := [d] }
  | _ => none }
def FnExactGradientsWrongFalsely : Prop := fnExactGradientsRow.holds Tryz.pinned (OpenSpec.ofChange fnExactGradientsWrong)

/-- 'laws.FnExactShapeOf': WHATEVER THE INPUT: true; the input reads as it did. -/
def fnExactShapeOfSpec : ChangeSpec := { name := "fnExactShapeOf", fn := fun _ => fun
  | [d] => { results := [.lit (.bool true)], args := [d] }
  | _ => none }
def fnExactShapeOfRow : OpenClaim := { program := "ytefcpmgffkffdaagreat", sum := "4732317cb01f95d88f0b388c5643e17d87c68940dbb33d9cbf6f8e8df08d4b23", func := "loop.example/g00812/laws.FnExactShapeOf", spec := "fnExactShapeOf", inPlace := ["math/bits.Add64"], named := ["math/bits.divideError", "math/bits.overflowError"], apart := false }
def FnExactShapeOfSaid : Prop := fnExactShapeOfRow.holds Tryz.pinned (OpenSpec.ofChange fnExactShapeOfSpec)

/-- ITS FALSE NEIGHBOUR: 'it returns false'. Refute it at one input. -/
def fnExactShapeOfWrong : ChangeSpec := { name := "fnExactShapeOf", fn := fun _ => fun
  | [d] => { results := [.lit (.bool false)], args := [d] }
  | _ => none }
def FnExactShapeOfWrongFalsely : Prop := fnExactShapeOfRow.holds Tryz.pinned (OpenSpec.ofChange fnExactShapeOfWrong)

/-- 'laws.FnExactOverlap': WHATEVER THE INPUT: true; the input reads as it did. -/
def fnExactOverlapSpec : ChangeSpec := { name := "fnExactOverlap", fn := fun _ => fun
  | [d1, d2] => { results := [.lit (.bool true)], args := [d1, d2] }
  | _ => none }
def fnExactOverlapRow : OpenClaim := { program := "ytefcpmgffkffdaagreat", sum := "4732317cb01f95d88f0b388c5643e17d87c68940dbb33d9cbf6f8e8df08d4b23", func := "loop.example/g00812/laws.FnExactOverlap", spec := "fnExactOverlap", inPlace := ["math/bits.Add64"], named := ["math/bits.divideError", "math/bits.overflowError"], apart := false }
def FnExactOverlapSaid : Prop := fnExactOverlapRow.holds Tryz.pinned (OpenSpec.ofChange fnExactOverlapSpec)

/-- ITS FALSE NEIGHBOUR: 'it returns false'. Refute it at one input. -/
def fnExactOverlapWrong : ChangeSpec := { name := "fnExactOverlap", fn := fun _ => fun
  | [d1, d2] => { results := [.lit (.bool false)], args := [d1, d2] }
  | _ => none }
def FnExactOverlapWrongFalsely : Prop := fnExactOverlapRow.holds Tryz.pinned (OpenSpec.ofChange fnExactOverlapWrong)

/- THE SECOND FORM. 'bulk': how many values and letters a reading holds, each counted each time it is reached (what is shared counts as often as it is met; a slice's spare places count too). A statement '..UptoSaid' is the law's where the arguments, and the package variables that the reading takes, are together of bulk at most 1048576: NARROWER than '..Said'. Prove '..Said' where nothing that the law and all that it calls make is longer than what came in: it says more and counts as full. Else prove '..UptoSaid'. A law counts once. -/
mutual
def uptoBulk {H : Type} : DataW H → Nat
  | .lit (.string bytes) => bytes.length + 1
  | .lit _ => 1
  | .nil => 1
  | .ptr d => uptoBulk d + 1
  | .slice elems spare => uptoBulkAll elems + uptoBulkAll spare + 1
  | .agg parts => uptoBulkAll parts + 1
  | .iface _ d => uptoBulk d + 1
  | .map entries => uptoBulkEntries entries + 1
  | .held _ => 1
def uptoBulkAll {H : Type} : List (DataW H) → Nat
  | [] => 0
  | d :: r => uptoBulk d + uptoBulkAll r
def uptoBulkEntries {H : Type} : List (Lit × DataW H) → Nat
  | [] => 0
  | x :: r => uptoBulkEntry x + uptoBulkEntries r
def uptoBulkEntry {H : Type} : Lit × DataW H → Nat
  | (.string bytes, d) => bytes.length + uptoBulk d + 1
  | (_, d) => uptoBulk d + 1
 end
def uptoSmall : (H : Type) → List (DataW H) → Bool := fun _ ds => decide (uptoBulkAll ds ≤ 1048576)
def OpenSpec.upto (s : _root_.Go.ChangeSpec) : _root_.Go.OpenSpec := { _root_.Go.OpenSpec.ofChange s with cond := some uptoSmall }

/-- 'laws.FnTriangles', WHERE WHAT IT READS IS OF BULK AT MOST 1048576: true; the input reads as it did. -/
def fnTrianglesUptoRow : OpenClaim := { program := "ytefcpmgffkffdaagreat", sum := "4732317cb01f95d88f0b388c5643e17d87c68940dbb33d9cbf6f8e8df08d4b23", func := "loop.example/g00812/laws.FnTriangles", spec := "fnTriangles", inPlace := ["math/bits.Add64"], unfollowed := true, recurses := true, named := ["math/bits.divideError", "math/bits.overflowError"], apart := false, narrowed := true }
def FnTrianglesUptoSaid : Prop := fnTrianglesUptoRow.holds Tryz.pinned (OpenSpec.upto fnTrianglesSpec)

/-- 'laws.FnShapes', WHERE WHAT IT READS IS OF BULK AT MOST 1048576: true; the input reads as it did. -/
def fnShapesUptoRow : OpenClaim := { program := "ytefcpmgffkffdaagreat", sum := "4732317cb01f95d88f0b388c5643e17d87c68940dbb33d9cbf6f8e8df08d4b23", func := "loop.example/g00812/laws.FnShapes", spec := "fnShapes", inPlace := ["math/bits.Add64"], unfollowed := true, recurses := true, named := ["math/bits.divideError", "math/bits.overflowError"], apart := false, narrowed := true }
def FnShapesUptoSaid : Prop := fnShapesUptoRow.holds Tryz.pinned (OpenSpec.upto fnShapesSpec)

/-- 'laws.FnExactIsProper', WHERE WHAT IT READS IS OF BULK AT MOST 1048576: true; the input reads as it did. -/
def fnExactIsProperUptoRow : OpenClaim := { program := "ytefcpmgffkffdaagreat", sum := "4732317cb01f95d88f0b388c5643e17d87c68940dbb33d9cbf6f8e8df08d4b23", func := "loop.example/g00812/laws.FnExactIsProper", spec := "fnExactIsProper", inPlace := ["math/bits.Add64"], named := ["math/bits.divideError", "math/bits.overflowError"], apart := false, narrowed := true }
def FnExactIsProperUptoSaid : Prop := fnExactIsProperUptoRow.holds Tryz.pinned (OpenSpec.upto fnExactIsProperSpec)

/-- 'laws.FnExactAreaOf', WHERE WHAT IT READS IS OF BULK AT MOST 1048576: true; the input reads as it did. -/
def fnExactAreaOfUptoRow : OpenClaim := { program := "ytefcpmgffkffdaagreat", sum := "4732317cb01f95d88f0b388c5643e17d87c68940dbb33d9cbf6f8e8df08d4b23", func := "loop.example/g00812/laws.FnExactAreaOf", spec := "fnExactAreaOf", inPlace := ["math/bits.Add64"], named := ["math/bits.divideError", "math/bits.overflowError"], apart := false, narrowed := true }
def FnExactAreaOfUptoSaid : Prop := fnExactAreaOfUptoRow.holds Tryz.pinned (OpenSpec.upto fnExactAreaOfSpec)

/-- 'laws.FnExactCentroid', WHERE WHAT IT READS IS OF BULK AT MOST 1048576: true; the input reads as it did. -/
def fnExactCentroidUptoRow : OpenClaim := { program := "ytefcpmgffkffdaagreat", sum := "4732317cb01f95d88f0b388c5643e17d87c68940dbb33d9cbf6f8e8df08d4b23", func := "loop.example/g00812/laws.FnExactCentroid", spec := "fnExactCentroid", inPlace := ["math/bits.Add64"], named := ["math/bits.divideError", "math/bits.overflowError"], apart := false, narrowed := true }
def FnExactCentroidUptoSaid : Prop := fnExactCentroidUptoRow.holds Tryz.pinned (OpenSpec.upto fnExactCentroidSpec)

/-- 'laws.FnExactBarycentric', WHERE WHAT IT READS IS OF BULK AT MOST 1048576: true; the input reads as it did. -/
def fnExactBarycentricUptoRow : OpenClaim := { program := "ytefcpmgffkffdaagreat", sum := "4732317cb01f95d88f0b388c5643e17d87c68940dbb33d9cbf6f8e8df08d4b23", func := "loop.example/g00812/laws.FnExactBarycentric", spec := "fnExactBarycentric", inPlace := ["math/bits.Add64"], named := ["math/bits.divideError", "math/bits.overflowError"], apart := false, narrowed := true }
def FnExactBarycentricUptoSaid : Prop := fnExactBarycentricUptoRow.holds Tryz.pinned (OpenSpec.upto fnExactBarycentricSpec)

/-- 'laws.FnExactSideOf', WHERE WHAT IT READS IS OF BULK AT MOST 1048576: true; the input reads as it did. -/
def fnExactSideOfUptoRow : OpenClaim := { program := "ytefcpmgffkffdaagreat", sum := "4732317cb01f95d88f0b388c5643e17d87c68940dbb33d9cbf6f8e8df08d4b23", func := "loop.example/g00812/laws.FnExactSideOf", spec := "fnExactSideOf", inPlace := ["math/bits.Add64"], named := ["math/bits.divideError", "math/bits.overflowError"], apart := false, narrowed := true }
def FnExactSideOfUptoSaid : Prop := fnExactSideOfUptoRow.holds Tryz.pinned (OpenSpec.upto fnExactSideOfSpec)

/-- 'laws.FnExactGradients', WHERE WHAT IT READS IS OF BULK AT MOST 1048576: true; the input reads as it did. -/
def fnExactGradientsUptoRow : OpenClaim := { program := "ytefcpmgffkffdaagreat", sum := "4732317cb01f95d88f0b388c5643e17d87c68940dbb33d9cbf6f8e8df08d4b23", func := "loop.example/g00812/laws.FnExactGradients", spec := "fnExactGradients", inPlace := ["math/bits.Add64"], named := ["math/bits.divideError", "math/bits.overflowError"], apart := false, narrowed := true }
def FnExactGradientsUptoSaid : Prop := fnExactGradientsUptoRow.holds Tryz.pinned (OpenSpec.upto fnExactGradientsSpec)

/-- 'laws.FnExactShapeOf', WHERE WHAT IT READS IS OF BULK AT MOST 1048576: true; the input reads as it did. -/
def fnExactShapeOfUptoRow : OpenClaim := { program := "ytefcpmgffkffdaagreat", sum := "4732317cb01f95d88f0b388c5643e17d87c68940dbb33d9cbf6f8e8df08d4b23", func := "loop.example/g00812/laws.FnExactShapeOf", spec := "fnExactShapeOf", inPlace := ["math/bits.Add64"], named := ["math/bits.divideError", "math/bits.overflowError"], apart := false, narrowed := true }
def FnExactShapeOfUptoSaid : Prop := fnExactShapeOfUptoRow.holds Tryz.pinned (OpenSpec.upto fnExactShapeOfSpec)

/-- 'laws.FnExactOverlap', WHERE WHAT IT READS IS OF BULK AT MOST 1048576: true; the input reads as it did. -/
def fnExactOverlapUptoRow : OpenClaim := { program := "ytefcpmgffkffdaagreat", sum := "4732317cb01f95d88f0b388c5643e17d87c68940dbb33d9cbf6f8e8df08d4b23", func := "loop.example/g00812/laws.FnExactOverlap", spec := "fnExactOverlap", inPlace := ["math/bits.Add64"], named := ["math/bits.divideError", "math/bits.overflowError"], apart := false, narrowed := true }
def FnExactOverlapUptoSaid : Prop := fnExactOverlapUptoRow.holds Tryz.pinned (OpenSpec.upto fnExactOverlapSpec)

end Rows
end Go.Proofs.YtefcpmgffkffdaaGreat
