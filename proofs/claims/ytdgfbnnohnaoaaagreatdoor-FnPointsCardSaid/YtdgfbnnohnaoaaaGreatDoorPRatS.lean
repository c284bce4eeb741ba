/-
  'ParseRat' of the model.
-/
import Derived.Test.YtdgfbnnohnaoaaaGreatDoorPRat
import Derived.Test.YtdgfbnnohnaoaaaGreatDoorDkF
namespace Go.Proofs.YtdgfbnnohnaoaaaGreatDoor
open Go.ChangeShapes Go.WideShapes Go.ChangeAt Go.RowKit
open Go.ChangeMaps (open_string shut_string)
set_option linter.unusedVariables false
set_option linter.unusedSimpArgs false
set_option maxRecDepth 4000

end Go.Proofs.YtdgfbnnohnaoaaaGreatDoor

