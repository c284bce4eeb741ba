/-
  Lists of points: the row of their cells (six a point), the rows of their limbs; what may be read of them, what the call made itself.
-/
import Derived.Test.YtdgfbnnohnaoaaaGreatDoorPtE
import Derived.Test.YtdgfbnnohnaoaaaGreatDoorPtH
namespace Go.Proofs.YtdgfbnnohnaoaaaGreatDoor
open Go.ChangeShapes Go.WideShapes Go.ChangeAt Go.RowKit
open Go.ChangeMaps (open_string shut_string)
set_option linter.unusedVariables false
set_option linter.unusedSimpArgs false
set_option maxRecDepth 4000

/-- A point: its data and where its rows lie. -/
structure PV where
  x : R3
  y : R3
  a : Ad
  b : Ad
end Go.Proofs.YtdgfbnnohnaoaaaGreatDoor

