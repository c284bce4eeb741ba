/-
  No cell of these rows narrows 'for every input' (looked for: loops, veiled, ifaces, maps, wideKeys, modest, calm, conditions, laid).
  DERIVED. THE GIVEN ROWS OF THIS SEAT. 9 by the template 'for every input the law returns true; each argument reads behind the call as it read before'; 0 by the template 'total and deterministic' (their statements: YtenjjojbjpmhbaaGreatTotals.lean).
  GIVEN WITH THE SEED: the statements are not yours to turn. If you find one false, say at which input.
  Laid BY PROGRAM, IN A SANDBOX (cutbox-rows.mjs): the forced cells as the released guide's own fill.sh prints them over the translation 4b956819d81b9d17… (all of the seat's roots in one cut). By AI agents, Wed Nov 11 2026. No macro, syntax, notation, axiom, sorry.
-/
import Derived.Test.YtenjjojbjpmhbaaGreatChecked
import GoSem.Claim
import GoSem.ClaimJoined
import GoSem.ClaimMapViews
import Derived.JoinedTies
import Derived.KernelRfl
namespace Go.Proofs.YtenjjojbjpmhbaaGreat
/- THE CELL 'sum', in the pinned program and in every row, IS THE sha256 OF THE DUMP (.gsa) THAT YtenjjojbjpmhbaaGreatProg.lean LOADS. Nothing in Lean hashes anything: it is a label: what it is worth is what the hold of that sum in a sandbox is worth. -/
noncomputable def Tryz.pinned : Pinned := { name := "ytenjjojbjpmhbaagreat", sum := "4b956819d81b9d170d0f8ad556f78d81d0adae57b1751d429e30d9d8869cf07f", checked := Tryz.checked }
namespace Rows
def none {H : Type} : Left H := { results := [], args := [] }

/-- 'laws.FnTriangles': WHATEVER THE INPUT: true; the input reads as it did. -/
def fnTrianglesSpec : ChangeSpec := { name := "fnTriangles", fn := fun _ => fun
  | [d] => { results := [.lit (.bool true)], args := [d] }
  | _ => none }
def fnTrianglesRow : OpenClaim := { program := "ytenjjojbjpmhbaagreat", sum := "4b956819d81b9d170d0f8ad556f78d81d0adae57b1751d429e30d9d8869cf07f", func := "loop.example/g00812/laws.FnTriangles", spec := "fnTriangles", inPlace := ["math/bits.Add64"], unfollowed := true, recurses := true, named := ["math/bits.divideError", "math/bits.overflowError"], plainKeys := false, apart := false }
def FnTrianglesSaid : Prop := fnTrianglesRow.holds Tryz.pinned (OpenSpec.ofChange fnTrianglesSpec)

/-- ITS FALSE NEIGHBOUR: 'it returns false'. Refute it at one input. -/
def fnTrianglesWrong : ChangeSpec := { name := "fnTriangles", fn := fun _ => fun
  | [d] => { results := [.lit (.bool false)], args := [d] }
  | _ => none }
def FnTrianglesWrongFalsely : Prop := fnTrianglesRow.holds Tryz.pinned (OpenSpec.ofChange fnTrianglesWrong)

/-- 'laws.FnExactAreaOf': WHATEVER THE INPUT: true; the input reads as it did. -/
def fnExactAreaOfSpec : ChangeSpec := { name := "fnExactAreaOf", fn := fun _ => fun
  | [d] => { results := [.lit (.bool true)], args := [d] }
  | _ => none }
def fnExactAreaOfRow : OpenClaim := { program := "ytenjjojbjpmhbaagreat", sum := "4b956819d81b9d170d0f8ad556f78d81d0adae57b1751d429e30d9d8869cf07f", func := "loop.example/g00812/laws.FnExactAreaOf", spec := "fnExactAreaOf", inPlace := ["math/bits.Add64"], named := ["math/bits.divideError", "math/bits.overflowError"], plainKeys := false, apart := false }
def FnExactAreaOfSaid : Prop := fnExactAreaOfRow.holds Tryz.pinned (OpenSpec.ofChange fnExactAreaOfSpec)

/-- ITS FALSE NEIGHBOUR: 'it returns false'. Refute it at one input. -/
def fnExactAreaOfWrong : ChangeSpec := { name := "fnExactAreaOf", fn := fun _ => fun
  | [d] => { results := [.lit (.bool false)], args := [d] }
  | _ => none }
def FnExactAreaOfWrongFalsely : Prop := fnExactAreaOfRow.holds Tryz.pinned (OpenSpec.ofChange fnExactAreaOfWrong)

/-- 'laws.FnExactSideOf': WHATEVER THE INPUT: true; the input reads as it did. -/
def fnExactSideOfSpec : ChangeSpec := { name := "fnExactSideOf", fn := fun _ => fun
  | [d1, d2] => { results := [.lit (.bool true)], args := [d1, d2] }
  | _ => none }
def fnExactSideOfRow : OpenClaim := { program := "ytenjjojbjpmhbaagreat", sum := "4b956819d81b9d170d0f8ad556f78d81d0adae57b1751d429e30d9d8869cf07f", func := "loop.example/g00812/laws.FnExactSideOf", spec := "fnExactSideOf", inPlace := ["math/bits.Add64"], named := ["math/bits.divideError", "math/bits.overflowError"], plainKeys := false, apart := false }
def FnExactSideOfSaid : Prop := fnExactSideOfRow.holds Tryz.pinned (OpenSpec.ofChange fnExactSideOfSpec)

/-- ITS FALSE NEIGHBOUR: 'it returns false'. Refute it at one input. -/
def fnExactSideOfWrong : ChangeSpec := { name := "fnExactSideOf", fn := fun _ => fun
  | [d1, d2] => { results := [.lit (.bool false)], args := [d1, d2] }
  | _ => none }
def FnExactSideOfWrongFalsely : Prop := fnExactSideOfRow.holds Tryz.pinned (OpenSpec.ofChange fnExactSideOfWrong)

/-- 'laws.FnExactIsMesh': WHATEVER THE INPUT: true; the input reads as it did. -/
def fnExactIsMeshSpec : ChangeSpec := { name := "fnExactIsMesh", fn := fun _ => fun
  | [d] => { results := [.lit (.bool true)], args := [d] }
  | _ => none }
def fnExactIsMeshRow : OpenClaim := { program := "ytenjjojbjpmhbaagreat", sum := "4b956819d81b9d170d0f8ad556f78d81d0adae57b1751d429e30d9d8869cf07f", func := "loop.example/g00812/laws.FnExactIsMesh", spec := "fnExactIsMesh", inPlace := ["math/bits.Add64"], unfollowed := true, recurses := true, named := ["math/bits.divideError", "math/bits.overflowError"], plainKeys := false, apart := false }
def FnExactIsMeshSaid : Prop := fnExactIsMeshRow.holds Tryz.pinned (OpenSpec.ofChange fnExactIsMeshSpec)

/-- ITS FALSE NEIGHBOUR: 'it returns false'. Refute it at one input. -/
def fnExactIsMeshWrong : ChangeSpec := { name := "fnExactIsMesh", fn := fun _ => fun
  | [d] => { results := [.lit (.bool false)], args := [d] }
  | _ => none }
def FnExactIsMeshWrongFalsely : Prop := fnExactIsMeshRow.holds Tryz.pinned (OpenSpec.ofChange fnExactIsMeshWrong)

/-- 'laws.FnExactEdgesOf': WHATEVER THE INPUT: true; the input reads as it did. -/
def fnExactEdgesOfSpec : ChangeSpec := { name := "fnExactEdgesOf", fn := fun _ => fun
  | [d] => { results := [.lit (.bool true)], args := [d] }
  | _ => none }
def fnExactEdgesOfRow : OpenClaim := { program := "ytenjjojbjpmhbaagreat", sum := "4b956819d81b9d170d0f8ad556f78d81d0adae57b1751d429e30d9d8869cf07f", func := "loop.example/g00812/laws.FnExactEdgesOf", spec := "fnExactEdgesOf", inPlace := ["math/bits.Add64"], unfollowed := true, recurses := true, named := ["math/bits.divideError", "math/bits.overflowError"], plainKeys := false, apart := false }
def FnExactEdgesOfSaid : Prop := fnExactEdgesOfRow.holds Tryz.pinned (OpenSpec.ofChange fnExactEdgesOfSpec)

/-- ITS FALSE NEIGHBOUR: 'it returns false'. Refute it at one input. -/
def fnExactEdgesOfWrong : ChangeSpec := { name := "fnExactEdgesOf", fn := fun _ => fun
  | [d] => { results := [.lit (.bool false)], args := [d] }
  | _ => none }
def FnExactEdgesOfWrongFalsely : Prop := fnExactEdgesOfRow.holds Tryz.pinned (OpenSpec.ofChange fnExactEdgesOfWrong)

/-- 'laws.FnExactBoundaryPoints': WHATEVER THE INPUT: true; the input reads as it did. -/
def fnExactBoundaryPointsSpec : ChangeSpec := { name := "fnExactBoundaryPoints", fn := fun _ => fun
  | [d] => { results := [.lit (.bool true)], args := [d] }
  | _ => none }
def fnExactBoundaryPointsRow : OpenClaim := { program := "ytenjjojbjpmhbaagreat", sum := "4b956819d81b9d170d0f8ad556f78d81d0adae57b1751d429e30d9d8869cf07f", func := "loop.example/g00812/laws.FnExactBoundaryPoints", spec := "fnExactBoundaryPoints", inPlace := ["math/bits.Add64"], unfollowed := true, recurses := true, named := ["math/bits.divideError", "math/bits.overflowError"], plainKeys := false, apart := false }
def FnExactBoundaryPointsSaid : Prop := fnExactBoundaryPointsRow.holds Tryz.pinned (OpenSpec.ofChange fnExactBoundaryPointsSpec)

/-- ITS FALSE NEIGHBOUR: 'it returns false'. Refute it at one input. -/
def fnExactBoundaryPointsWrong : ChangeSpec := { name := "fnExactBoundaryPoints", fn := fun _ => fun
  | [d] => { results := [.lit (.bool false)], args := [d] }
  | _ => none }
def FnExactBoundaryPointsWrongFalsely : Prop := fnExactBoundaryPointsRow.holds Tryz.pinned (OpenSpec.ofChange fnExactBoundaryPointsWrong)

/-- 'laws.FnExactInteriorPoints': WHATEVER THE INPUT: true; the input reads as it did. -/
def fnExactInteriorPointsSpec : ChangeSpec := { name := "fnExactInteriorPoints", fn := fun _ => fun
  | [d] => { results := [.lit (.bool true)], args := [d] }
  | _ => none }
def fnExactInteriorPointsRow : OpenClaim := { program := "ytenjjojbjpmhbaagreat", sum := "4b956819d81b9d170d0f8ad556f78d81d0adae57b1751d429e30d9d8869cf07f", func := "loop.example/g00812/laws.FnExactInteriorPoints", spec := "fnExactInteriorPoints", inPlace := ["math/bits.Add64"], unfollowed := true, recurses := true, named := ["math/bits.divideError", "math/bits.overflowError"], plainKeys := false, apart := false }
def FnExactInteriorPointsSaid : Prop := fnExactInteriorPointsRow.holds Tryz.pinned (OpenSpec.ofChange fnExactInteriorPointsSpec)

/-- ITS FALSE NEIGHBOUR: 'it returns false'. Refute it at one input. -/
def fnExactInteriorPointsWrong : ChangeSpec := { name := "fnExactInteriorPoints", fn := fun _ => fun
  | [d] => { results := [.lit (.bool false)], args := [d] }
  | _ => none }
def FnExactInteriorPointsWrongFalsely : Prop := fnExactInteriorPointsRow.holds Tryz.pinned (OpenSpec.ofChange fnExactInteriorPointsWrong)

/-- 'laws.FnExactMeshArea': WHATEVER THE INPUT: true; the input reads as it did. -/
def fnExactMeshAreaSpec : ChangeSpec := { name := "fnExactMeshArea", fn := fun _ => fun
  | [d] => { results := [.lit (.bool true)], args := [d] }
  | _ => none }
def fnExactMeshAreaRow : OpenClaim := { program := "ytenjjojbjpmhbaagreat", sum := "4b956819d81b9d170d0f8ad556f78d81d0adae57b1751d429e30d9d8869cf07f", func := "loop.example/g00812/laws.FnExactMeshArea", spec := "fnExactMeshArea", inPlace := ["math/bits.Add64"], unfollowed := true, recurses := true, named := ["math/bits.divideError", "math/bits.overflowError"], plainKeys := false, apart := false }
def FnExactMeshAreaSaid : Prop := fnExactMeshAreaRow.holds Tryz.pinned (OpenSpec.ofChange fnExactMeshAreaSpec)

/-- ITS FALSE NEIGHBOUR: 'it returns false'. Refute it at one input. -/
def fnExactMeshAreaWrong : ChangeSpec := { name := "fnExactMeshArea", fn := fun _ => fun
  | [d] => { results := [.lit (.bool false)], args := [d] }
  | _ => none }
def FnExactMeshAreaWrongFalsely : Prop := fnExactMeshAreaRow.holds Tryz.pinned (OpenSpec.ofChange fnExactMeshAreaWrong)

/-- 'laws.FnExactTriangleAt': WHATEVER THE INPUT: true; the input reads as it did. -/
def fnExactTriangleAtSpec : ChangeSpec := { name := "fnExactTriangleAt", fn := fun _ => fun
  | [d1, d2] => { results := [.lit (.bool true)], args := [d1, d2] }
  | _ => none }
def fnExactTriangleAtRow : OpenClaim := { program := "ytenjjojbjpmhbaagreat", sum := "4b956819d81b9d170d0f8ad556f78d81d0adae57b1751d429e30d9d8869cf07f", func := "loop.example/g00812/laws.FnExactTriangleAt", spec := "fnExactTriangleAt", inPlace := ["math/bits.Add64"], unfollowed := true, recurses := true, named := ["math/bits.divideError", "math/bits.overflowError"], plainKeys := false, apart := false }
def FnExactTriangleAtSaid : Prop := fnExactTriangleAtRow.holds Tryz.pinned (OpenSpec.ofChange fnExactTriangleAtSpec)

/-- ITS FALSE NEIGHBOUR: 'it returns false'. Refute it at one input. -/
def fnExactTriangleAtWrong : ChangeSpec := { name := "fnExactTriangleAt", fn := fun _ => fun
  | [d1, d2] => { results := [.lit (.bool false)], args := [d1, d2] }
  | _ => none }
def FnExactTriangleAtWrongFalsely : Prop := fnExactTriangleAtRow.holds Tryz.pinned (OpenSpec.ofChange fnExactTriangleAtWrong)

/- THE SECOND FORM. 'bulk': how many values and letters a reading holds, each counted each time it is reached (what is shared counts as often as it is met; a slice's spare places count too). A statement '..UptoSaid' is the law's where the arguments, and the package variables that the reading takes, are together of bulk at most 1048576: NARROWER than '..Said'. Prove '..Said' where nothing that the law and all that it calls make is longer than what came in: it says more and counts as full. Else prove '..UptoSaid'. A law counts once. -/
mutual
def uptoBulk {H : Type} : DataW H → Nat
  | .lit (.string bytes) => bytes.length + 1
  | .lit _ => 1
  | .nil => 1
  | .ptr d => uptoBulk d + 1
  | .slice elems spare => uptoBulkAll elems + uptoBulkAll spare + 1
  | .agg parts => uptoBulkAll parts + 1
  | .iface _ d => uptoBulk d + 1
  | .map entries => uptoBulkEntries entries + 1
  | .held _ => 1
def uptoBulkAll {H : Type} : List (DataW H) → Nat
  | [] => 0
  | d :: r => uptoBulk d + uptoBulkAll r
def uptoBulkEntries {H : Type} : List (Lit × DataW H) → Nat
  | [] => 0
  | x :: r => uptoBulkEntry x + uptoBulkEntries r
def uptoBulkEntry {H : Type} : Lit × DataW H → Nat
  | (.string bytes, d) => bytes.length + uptoBulk d + 1
  | (_, d) => uptoBulk d + 1
 end
def uptoSmall : (H : Type) → List (DataW H) → Bool := fun _ ds => decide (uptoBulkAll ds ≤ 1048576)
def OpenSpec.upto (s : _root_.Go.ChangeSpec) : _root_.Go.OpenSpec := { _root_.Go.OpenSpec.ofChange s with cond := some uptoSmall }

/-- 'laws.FnTriangles', WHERE WHAT IT READS IS OF BULK AT MOST 1048576: true; the input reads as it did. -/
def fnTrianglesUptoRow : OpenClaim := { program := "ytenjjojbjpmhbaagreat", sum := "4b956819d81b9d170d0f8ad556f78d81d0adae57b1751d429e30d9d8869cf07f", func := "loop.example/g00812/laws.FnTriangles", spec := "fnTriangles", inPlace := ["math/bits.Add64"], unfollowed := true, recurses := true, named := ["math/bits.divideError", "math/bits.overflowError"], plainKeys := false, apart := false, narrowed := true }
def FnTrianglesUptoSaid : Prop := fnTrianglesUptoRow.holds Tryz.pinned (OpenSpec.upto fnTrianglesSpec)

/-- 'laws.FnExactAreaOf', WHERE WHAT IT READS IS OF BULK AT MOST 1048576: true; the input reads as it did. -/
def fnExactAreaOfUptoRow : OpenClaim := { program := "ytenjjojbjpmhbaagreat", sum := "4b956819d81b9d170d0f8ad556f78d81d0adae57b1751d429e30d9d8869cf07f", func := "loop.example/g00812/laws.FnExactAreaOf", spec := "fnExactAreaOf", inPlace := ["math/bits.Add64"], named := ["math/bits.divideError", "math/bits.overflowError"], plainKeys := false, apart := false, narrowed := true }
def FnExactAreaOfUptoSaid : Prop := fnExactAreaOfUptoRow.holds Tryz.pinned (OpenSpec.upto fnExactAreaOfSpec)

/-- 'laws.FnExactSideOf', WHERE WHAT IT READS IS OF BULK AT MOST 1048576: true; the input reads as it did. -/
def fnExactSideOfUptoRow : OpenClaim := { program := "ytenjjojbjpmhbaagreat", sum := "4b956819d81b9d170d0f8ad556f78d81d0adae57b1751d429e30d9d8869cf07f", func := "loop.example/g00812/laws.FnExactSideOf", spec := "fnExactSideOf", inPlace := ["math/bits.Add64"], named := ["math/bits.divideError", "math/bits.overflowError"], plainKeys := false, apart := false, narrowed := true }
def FnExactSideOfUptoSaid : Prop := fnExactSideOfUptoRow.holds Tryz.pinned (OpenSpec.upto fnExactSideOfSpec)

/-- 'laws.FnExactIsMesh', WHERE WHAT IT READS IS OF BULK AT MOST 1048576: true; the input reads as it did. -/
def fnExactIsMeshUptoRow : OpenClaim := { program := "ytenjjojbjpmhbaagreat", sum := "4b956819d81b9d170d0f8ad556f78d81d0adae57b1751d429e30d9d8869cf07f", func := "loop.example/g00812/laws.FnExactIsMesh", spec := "fnExactIsMesh", inPlace := ["math/bits.Add64"], unfollowed := true, recurses := true, named := ["math/bits.divideError", "math/bits.overflowError"], plainKeys := false, apart := false, narrowed := true }
def FnExactIsMeshUptoSaid : Prop := fnExactIsMeshUptoRow.holds Tryz.pinned (OpenSpec.upto fnExactIsMeshSpec)

/-- 'laws.FnExactEdgesOf', WHERE WHAT IT READS IS OF BULK AT MOST 1048576: true; the input reads as it did. -/
def fnExactEdgesOfUptoRow : OpenClaim := { program := "ytenjjojbjpmhbaagreat", sum := "4b956819d81b9d170d0f8ad556f78d81d0adae57b1751d429e30d9d8869cf07f", func := "loop.example/g00812/laws.FnExactEdgesOf", spec := "fnExactEdgesOf", inPlace := ["math/bits.Add64"], unfollowed := true, recurses := true, named := ["math/bits.divideError", "math/bits.overflowError"], plainKeys := false, apart := false, narrowed := true }
def FnExactEdgesOfUptoSaid : Prop := fnExactEdgesOfUptoRow.holds Tryz.pinned (OpenSpec.upto fnExactEdgesOfSpec)

/-- 'laws.FnExactBoundaryPoints', WHERE WHAT IT READS IS OF BULK AT MOST 1048576: true; the input reads as it did. -/
def fnExactBoundaryPointsUptoRow : OpenClaim := { program := "ytenjjojbjpmhbaagreat", sum := "4b956819d81b9d170d0f8ad556f78d81d0adae57b1751d429e30d9d8869cf07f", func := "loop.example/g00812/laws.FnExactBoundaryPoints", spec := "fnExactBoundaryPoints", inPlace := ["math/bits.Add64"], unfollowed := true, recurses := true, named := ["math/bits.divideError", "math/bits.overflowError"], plainKeys := false, apart := false, narrowed := true }
def FnExactBoundaryPointsUptoSaid : Prop := fnExactBoundaryPointsUptoRow.holds Tryz.pinned (OpenSpec.upto fnExactBoundaryPointsSpec)

/-- 'laws.FnExactInteriorPoints', WHERE WHAT IT READS IS OF BULK AT MOST 1048576: true; the input reads as it did. -/
def fnExactInteriorPointsUptoRow : OpenClaim := { program := "ytenjjojbjpmhbaagreat", sum := "4b956819d81b9d170d0f8ad556f78d81d0adae57b1751d429e30d9d8869cf07f", func := "loop.example/g00812/laws.FnExactInteriorPoints", spec := "fnExactInteriorPoints", inPlace := ["math/bits.Add64"], unfollowed := true, recurses := true, named := ["math/bits.divideError", "math/bits.overflowError"], plainKeys := false, apart := false, narrowed := true }
def FnExactInteriorPointsUptoSaid : Prop := fnExactInteriorPointsUptoRow.holds Tryz.pinned (OpenSpec.upto fnExactInteriorPointsSpec)

/-- 'laws.FnExactMeshArea', WHERE WHAT IT READS IS OF BULK AT MOST 1048576: true; the input reads as it did. -/
def fnExactMeshAreaUptoRow : OpenClaim := { program := "ytenjjojbjpmhbaagreat", sum := "4b956819d81b9d170d0f8ad556f78d81d0adae57b1751d429e30d9d8869cf07f", func := "loop.example/g00812/laws.FnExactMeshArea", spec := "fnExactMeshArea", inPlace := ["math/bits.Add64"], unfollowed := true, recurses := true, named := ["math/bits.divideError", "math/bits.overflowError"], plainKeys := false, apart := false, narrowed := true }
def FnExactMeshAreaUptoSaid : Prop := fnExactMeshAreaUptoRow.holds Tryz.pinned (OpenSpec.upto fnExactMeshAreaSpec)

/-- 'laws.FnExactTriangleAt', WHERE WHAT IT READS IS OF BULK AT MOST 1048576: true; the input reads as it did. -/
def fnExactTriangleAtUptoRow : OpenClaim := { program := "ytenjjojbjpmhbaagreat", sum := "4b956819d81b9d170d0f8ad556f78d81d0adae57b1751d429e30d9d8869cf07f", func := "loop.example/g00812/laws.FnExactTriangleAt", spec := "fnExactTriangleAt", inPlace := ["math/bits.Add64"], unfollowed := true, recurses := true, named := ["math/bits.divideError", "math/bits.overflowError"], plainKeys := false, apart := false, narrowed := true }
def FnExactTriangleAtUptoSaid : Prop := fnExactTriangleAtUptoRow.holds Tryz.pinned (OpenSpec.upto fnExactTriangleAtSpec)

end Rows
end Go.Proofs.YtenjjojbjpmhbaaGreat
