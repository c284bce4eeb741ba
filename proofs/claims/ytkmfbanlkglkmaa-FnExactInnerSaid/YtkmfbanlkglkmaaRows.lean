/-
  No cell of these rows narrows 'for every input' (looked for: loops, veiled, ifaces, maps, wideKeys, modest, calm, conditions, laid).
  DERIVED. THE GIVEN ROWS OF THIS SEAT. 7 by the template 'for every input the law returns true; each argument reads behind the call as it read before'; 0 by the template 'total and deterministic' (their statements: YtkmfbanlkglkmaaTotals.lean).
  GIVEN WITH THE SEED: the statements are not yours to turn. If you find one false, say at which input.
  Laid BY PROGRAM, IN A SANDBOX (cutbox-rows.mjs): the forced cells as the released guide's own fill.sh prints them over the translation 74c1343d4aef33e4… (all of the seat's roots in one cut). By AI agents, Wed Nov 11 2026. No macro, syntax, notation, axiom, sorry.
-/
import Derived.Test.YtkmfbanlkglkmaaChecked
import GoSem.Claim
import GoSem.ClaimJoined
import GoSem.ClaimMapViews
import Derived.JoinedTies
import Derived.KernelRfl
namespace Go.Proofs.Ytkmfbanlkglkmaa
/- THE CELL 'sum', in the pinned program and in every row, IS THE sha256 OF THE DUMP (.gsa) THAT YtkmfbanlkglkmaaProg.lean LOADS. Nothing in Lean hashes anything: it is a label: what it is worth is what the hold of that sum in a sandbox is worth. -/
noncomputable def Try.pinned : Pinned := { name := "ytkmfbanlkglkmaa", sum := "74c1343d4aef33e45d43a063cca0152202612e83ef26c6553d2dd9de5a4ae896", checked := Try.checked }
namespace Rows
def none {H : Type} : Left H := { results := [], args := [] }

/-- 'laws.FnExactIsValidPoint': WHATEVER THE INPUT: true; the input reads as it did. -/
def fnExactIsValidPointSpec : ChangeSpec := { name := "fnExactIsValidPoint", fn := fun _ => fun
  | [d] => { results := [.lit (.bool true)], args := [d] }
  | _ => none }
def fnExactIsValidPointRow : OpenClaim := { program := "ytkmfbanlkglkmaa", sum := "74c1343d4aef33e45d43a063cca0152202612e83ef26c6553d2dd9de5a4ae896", func := "loop.example/g00812/laws.FnExactIsValidPoint", spec := "fnExactIsValidPoint", inPlace := ["math/bits.Add64"], named := ["math/bits.divideError", "math/bits.overflowError"], apart := false }
def FnExactIsValidPointSaid : Prop := fnExactIsValidPointRow.holds Try.pinned (OpenSpec.ofChange fnExactIsValidPointSpec)

/-- ITS FALSE NEIGHBOUR: 'it returns false'. Refute it at one input. -/
def fnExactIsValidPointWrong : ChangeSpec := { name := "fnExactIsValidPoint", fn := fun _ => fun
  | [d] => { results := [.lit (.bool false)], args := [d] }
  | _ => none }
def FnExactIsValidPointWrongFalsely : Prop := fnExactIsValidPointRow.holds Try.pinned (OpenSpec.ofChange fnExactIsValidPointWrong)

/-- 'laws.FnExactSamePoint': WHATEVER THE INPUT: true; the input reads as it did. -/
def fnExactSamePointSpec : ChangeSpec := { name := "fnExactSamePoint", fn := fun _ => fun
  | [d1, d2] => { results := [.lit (.bool true)], args := [d1, d2] }
  | _ => none }
def fnExactSamePointRow : OpenClaim := { program := "ytkmfbanlkglkmaa", sum := "74c1343d4aef33e45d43a063cca0152202612e83ef26c6553d2dd9de5a4ae896", func := "loop.example/g00812/laws.FnExactSamePoint", spec := "fnExactSamePoint", apart := false }
def FnExactSamePointSaid : Prop := fnExactSamePointRow.holds Try.pinned (OpenSpec.ofChange fnExactSamePointSpec)

/-- ITS FALSE NEIGHBOUR: 'it returns false'. Refute it at one input. -/
def fnExactSamePointWrong : ChangeSpec := { name := "fnExactSamePoint", fn := fun _ => fun
  | [d1, d2] => { results := [.lit (.bool false)], args := [d1, d2] }
  | _ => none }
def FnExactSamePointWrongFalsely : Prop := fnExactSamePointRow.holds Try.pinned (OpenSpec.ofChange fnExactSamePointWrong)

/-- 'laws.FnExactPointAt': WHATEVER THE INPUT: true; the input reads as it did. -/
def fnExactPointAtSpec : ChangeSpec := { name := "fnExactPointAt", fn := fun _ => fun
  | [d1, d2] => { results := [.lit (.bool true)], args := [d1, d2] }
  | _ => none }
def fnExactPointAtRow : OpenClaim := { program := "ytkmfbanlkglkmaa", sum := "74c1343d4aef33e45d43a063cca0152202612e83ef26c6553d2dd9de5a4ae896", func := "loop.example/g00812/laws.FnExactPointAt", spec := "fnExactPointAt", apart := false }
def FnExactPointAtSaid : Prop := fnExactPointAtRow.holds Try.pinned (OpenSpec.ofChange fnExactPointAtSpec)

/-- ITS FALSE NEIGHBOUR: 'it returns false'. Refute it at one input. -/
def fnExactPointAtWrong : ChangeSpec := { name := "fnExactPointAt", fn := fun _ => fun
  | [d1, d2] => { results := [.lit (.bool false)], args := [d1, d2] }
  | _ => none }
def FnExactPointAtWrongFalsely : Prop := fnExactPointAtRow.holds Try.pinned (OpenSpec.ofChange fnExactPointAtWrong)

/-- 'laws.FnExactHalfPoint': WHATEVER THE INPUT: true; the input reads as it did. -/
def fnExactHalfPointSpec : ChangeSpec := { name := "fnExactHalfPoint", fn := fun _ => fun
  | [d1, d2] => { results := [.lit (.bool true)], args := [d1, d2] }
  | _ => none }
def fnExactHalfPointRow : OpenClaim := { program := "ytkmfbanlkglkmaa", sum := "74c1343d4aef33e45d43a063cca0152202612e83ef26c6553d2dd9de5a4ae896", func := "loop.example/g00812/laws.FnExactHalfPoint", spec := "fnExactHalfPoint", inPlace := ["math/bits.Add64"], named := ["math/bits.divideError", "math/bits.overflowError"], apart := false }
def FnExactHalfPointSaid : Prop := fnExactHalfPointRow.holds Try.pinned (OpenSpec.ofChange fnExactHalfPointSpec)

/-- ITS FALSE NEIGHBOUR: 'it returns false'. Refute it at one input. -/
def fnExactHalfPointWrong : ChangeSpec := { name := "fnExactHalfPoint", fn := fun _ => fun
  | [d1, d2] => { results := [.lit (.bool false)], args := [d1, d2] }
  | _ => none }
def FnExactHalfPointWrongFalsely : Prop := fnExactHalfPointRow.holds Try.pinned (OpenSpec.ofChange fnExactHalfPointWrong)

/-- 'laws.FnExactAddPoints': WHATEVER THE INPUT: true; the input reads as it did. -/
def fnExactAddPointsSpec : ChangeSpec := { name := "fnExactAddPoints", fn := fun _ => fun
  | [d1, d2] => { results := [.lit (.bool true)], args := [d1, d2] }
  | _ => none }
def fnExactAddPointsRow : OpenClaim := { program := "ytkmfbanlkglkmaa", sum := "74c1343d4aef33e45d43a063cca0152202612e83ef26c6553d2dd9de5a4ae896", func := "loop.example/g00812/laws.FnExactAddPoints", spec := "fnExactAddPoints", inPlace := ["math/bits.Add64"], unfollowed := true, recurses := true, named := ["math/bits.divideError", "math/bits.overflowError"], apart := false }
def FnExactAddPointsSaid : Prop := fnExactAddPointsRow.holds Try.pinned (OpenSpec.ofChange fnExactAddPointsSpec)

/-- ITS FALSE NEIGHBOUR: 'it returns false'. Refute it at one input. -/
def fnExactAddPointsWrong : ChangeSpec := { name := "fnExactAddPoints", fn := fun _ => fun
  | [d1, d2] => { results := [.lit (.bool false)], args := [d1, d2] }
  | _ => none }
def FnExactAddPointsWrongFalsely : Prop := fnExactAddPointsRow.holds Try.pinned (OpenSpec.ofChange fnExactAddPointsWrong)

/-- 'laws.FnExactScalePoint': WHATEVER THE INPUT: true; the input reads as it did. -/
def fnExactScalePointSpec : ChangeSpec := { name := "fnExactScalePoint", fn := fun _ => fun
  | [d1, d2] => { results := [.lit (.bool true)], args := [d1, d2] }
  | _ => none }
def fnExactScalePointRow : OpenClaim := { program := "ytkmfbanlkglkmaa", sum := "74c1343d4aef33e45d43a063cca0152202612e83ef26c6553d2dd9de5a4ae896", func := "loop.example/g00812/laws.FnExactScalePoint", spec := "fnExactScalePoint", inPlace := ["math/bits.Add64"], named := ["math/bits.divideError", "math/bits.overflowError"], apart := false }
def FnExactScalePointSaid : Prop := fnExactScalePointRow.holds Try.pinned (OpenSpec.ofChange fnExactScalePointSpec)

/-- ITS FALSE NEIGHBOUR: 'it returns false'. Refute it at one input. -/
def fnExactScalePointWrong : ChangeSpec := { name := "fnExactScalePoint", fn := fun _ => fun
  | [d1, d2] => { results := [.lit (.bool false)], args := [d1, d2] }
  | _ => none }
def FnExactScalePointWrongFalsely : Prop := fnExactScalePointRow.holds Try.pinned (OpenSpec.ofChange fnExactScalePointWrong)

/-- 'laws.FnExactInner': WHATEVER THE INPUT: true; the input reads as it did. -/
def fnExactInnerSpec : ChangeSpec := { name := "fnExactInner", fn := fun _ => fun
  | [d1, d2] => { results := [.lit (.bool true)], args := [d1, d2] }
  | _ => none }
def fnExactInnerRow : OpenClaim := { program := "ytkmfbanlkglkmaa", sum := "74c1343d4aef33e45d43a063cca0152202612e83ef26c6553d2dd9de5a4ae896", func := "loop.example/g00812/laws.FnExactInner", spec := "fnExactInner", inPlace := ["math/bits.Add64"], unfollowed := true, recurses := true, named := ["math/bits.divideError", "math/bits.overflowError"], apart := false }
def FnExactInnerSaid : Prop := fnExactInnerRow.holds Try.pinned (OpenSpec.ofChange fnExactInnerSpec)

/-- ITS FALSE NEIGHBOUR: 'it returns false'. Refute it at one input. -/
def fnExactInnerWrong : ChangeSpec := { name := "fnExactInner", fn := fun _ => fun
  | [d1, d2] => { results := [.lit (.bool false)], args := [d1, d2] }
  | _ => none }
def FnExactInnerWrongFalsely : Prop := fnExactInnerRow.holds Try.pinned (OpenSpec.ofChange fnExactInnerWrong)

/- THE SECOND FORM. 'bulk': how many values and letters a reading holds, each counted each time it is reached (what is shared counts as often as it is met; a slice's spare places count too). A statement '..UptoSaid' is the law's where the arguments, and the package variables that the reading takes, are together of bulk at most 1048576: NARROWER than '..Said'. Prove '..Said' where nothing that the law and all that it calls make is longer than what came in: it says more and counts as full. Else prove '..UptoSaid'. A law counts once. -/
mutual
def uptoBulk {H : Type} : DataW H → Nat
  | .lit (.string bytes) => bytes.length + 1
  | .lit _ => 1
  | .nil => 1
  | .ptr d => uptoBulk d + 1
  | .slice elems spare => uptoBulkAll elems + uptoBulkAll spare + 1
  | .agg parts => uptoBulkAll parts + 1
  | .iface _ d => uptoBulk d + 1
  | .map entries => uptoBulkEntries entries + 1
  | .held _ => 1
def uptoBulkAll {H : Type} : List (DataW H) → Nat
  | [] => 0
  | d :: r => uptoBulk d + uptoBulkAll r
def uptoBulkEntries {H : Type} : List (Lit × DataW H) → Nat
  | [] => 0
  | x :: r => uptoBulkEntry x + uptoBulkEntries r
def uptoBulkEntry {H : Type} : Lit × DataW H → Nat
  | (.string bytes, d) => bytes.length + uptoBulk d + 1
  | (_, d) => uptoBulk d + 1
 end
def uptoSmall : (H : Type) → List (DataW H) → Bool := fun _ ds => decide (uptoBulkAll ds ≤ 1048576)
def OpenSpec.upto (s : _root_.Go.ChangeSpec) : _root_.Go.OpenSpec := { _root_.Go.OpenSpec.ofChange s with cond := some uptoSmall }

/-- 'laws.FnExactIsValidPoint', WHERE WHAT IT READS IS OF BULK AT MOST 1048576: true; the input reads as it did. -/
def fnExactIsValidPointUptoRow : OpenClaim := { program := "ytkmfbanlkglkmaa", sum := "74c1343d4aef33e45d43a063cca0152202612e83ef26c6553d2dd9de5a4ae896", func := "loop.example/g00812/laws.FnExactIsValidPoint", spec := "fnExactIsValidPoint", inPlace := ["math/bits.Add64"], named := ["math/bits.divideError", "math/bits.overflowError"], apart := false, narrowed := true }
def FnExactIsValidPointUptoSaid : Prop := fnExactIsValidPointUptoRow.holds Try.pinned (OpenSpec.upto fnExactIsValidPointSpec)

/-- 'laws.FnExactSamePoint', WHERE WHAT IT READS IS OF BULK AT MOST 1048576: true; the input reads as it did. -/
def fnExactSamePointUptoRow : OpenClaim := { program := "ytkmfbanlkglkmaa", sum := "74c1343d4aef33e45d43a063cca0152202612e83ef26c6553d2dd9de5a4ae896", func := "loop.example/g00812/laws.FnExactSamePoint", spec := "fnExactSamePoint", apart := false, narrowed := true }
def FnExactSamePointUptoSaid : Prop := fnExactSamePointUptoRow.holds Try.pinned (OpenSpec.upto fnExactSamePointSpec)

/-- 'laws.FnExactPointAt', WHERE WHAT IT READS IS OF BULK AT MOST 1048576: true; the input reads as it did. -/
def fnExactPointAtUptoRow : OpenClaim := { program := "ytkmfbanlkglkmaa", sum := "74c1343d4aef33e45d43a063cca0152202612e83ef26c6553d2dd9de5a4ae896", func := "loop.example/g00812/laws.FnExactPointAt", spec := "fnExactPointAt", apart := false, narrowed := true }
def FnExactPointAtUptoSaid : Prop := fnExactPointAtUptoRow.holds Try.pinned (OpenSpec.upto fnExactPointAtSpec)

/-- 'laws.FnExactHalfPoint', WHERE WHAT IT READS IS OF BULK AT MOST 1048576: true; the input reads as it did. -/
def fnExactHalfPointUptoRow : OpenClaim := { program := "ytkmfbanlkglkmaa", sum := "74c1343d4aef33e45d43a063cca0152202612e83ef26c6553d2dd9de5a4ae896", func := "loop.example/g00812/laws.FnExactHalfPoint", spec := "fnExactHalfPoint", inPlace := ["math/bits.Add64"], named := ["math/bits.divideError", "math/bits.overflowError"], apart := false, narrowed := true }
def FnExactHalfPointUptoSaid : Prop := fnExactHalfPointUptoRow.holds Try.pinned (OpenSpec.upto fnExactHalfPointSpec)

/-- 'laws.FnExactAddPoints', WHERE WHAT IT READS IS OF BULK AT MOST 1048576: true; the input reads as it did. -/
def fnExactAddPointsUptoRow : OpenClaim := { program := "ytkmfbanlkglkmaa", sum := "74c1343d4aef33e45d43a063cca0152202612e83ef26c6553d2dd9de5a4ae896", func := "loop.example/g00812/laws.FnExactAddPoints", spec := "fnExactAddPoints", inPlace := ["math/bits.Add64"], unfollowed := true, recurses := true, named := ["math/bits.divideError", "math/bits.overflowError"], apart := false, narrowed := true }
def FnExactAddPointsUptoSaid : Prop := fnExactAddPointsUptoRow.holds Try.pinned (OpenSpec.upto fnExactAddPointsSpec)

/-- 'laws.FnExactScalePoint', WHERE WHAT IT READS IS OF BULK AT MOST 1048576: true; the input reads as it did. -/
def fnExactScalePointUptoRow : OpenClaim := { program := "ytkmfbanlkglkmaa", sum := "74c1343d4aef33e45d43a063cca0152202612e83ef26c6553d2dd9de5a4ae896", func := "loop.example/g00812/laws.FnExactScalePoint", spec := "fnExactScalePoint", inPlace := ["math/bits.Add64"], named := ["math/bits.divideError", "math/bits.overflowError"], apart := false, narrowed := true }
def FnExactScalePointUptoSaid : Prop := fnExactScalePointUptoRow.holds Try.pinned (OpenSpec.upto fnExactScalePointSpec)

/-- 'laws.FnExactInner', WHERE WHAT IT READS IS OF BULK AT MOST 1048576: true; the input reads as it did. -/
def fnExactInnerUptoRow : OpenClaim := { program := "ytkmfbanlkglkmaa", sum := "74c1343d4aef33e45d43a063cca0152202612e83ef26c6553d2dd9de5a4ae896", func := "loop.example/g00812/laws.FnExactInner", spec := "fnExactInner", inPlace := ["math/bits.Add64"], unfollowed := true, recurses := true, named := ["math/bits.divideError", "math/bits.overflowError"], apart := false, narrowed := true }
def FnExactInnerUptoSaid : Prop := fnExactInnerUptoRow.holds Try.pinned (OpenSpec.upto fnExactInnerSpec)

end Rows
end Go.Proofs.Ytkmfbanlkglkmaa
