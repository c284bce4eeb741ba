/-
  What the harness' functions do over points.
-/
import Derived.Test.YtdgfbnnohnaoaaaGreatDoorR3
namespace Go.Proofs.YtdgfbnnohnaoaaaGreatDoor
open Go.ChangeShapes Go.WideShapes Go.ChangeAt Go.RowKit
open Go.ChangeMaps (open_string shut_string)
set_option linter.unusedVariables false
set_option linter.unusedSimpArgs false
set_option maxRecDepth 4000

/-- Equal data. -/
def sameR (x u : R3) : Bool := decide (x.p = u.p) && decide (x.l = u.l) && decide (x.m = u.m)
end Go.Proofs.YtdgfbnnohnaoaaaGreatDoor

