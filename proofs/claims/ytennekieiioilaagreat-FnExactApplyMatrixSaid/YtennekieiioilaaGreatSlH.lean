/-
  What the harness' functions do over lists of points: the room they take, copies, equality.
-/
import Derived.Test.YtennekieiioilaaGreatSl
namespace Go.Proofs.YtennekieiioilaaGreat
open Go.ChangeShapes Go.WideShapes Go.ChangeAt Go.RowKit
open Go.ChangeMaps (open_string shut_string)
set_option linter.unusedVariables false
set_option linter.unusedSimpArgs false
set_option maxRecDepth 4000

end Go.Proofs.YtennekieiioilaaGreat
