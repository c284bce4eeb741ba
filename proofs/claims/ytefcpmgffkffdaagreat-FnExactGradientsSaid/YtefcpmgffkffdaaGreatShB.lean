/-
  The square of a side.
-/
import Derived.Test.YtefcpmgffkffdaaGreatTriC
import Derived.Test.YtefcpmgffkffdaaGreatTriS
namespace Go.Proofs.YtefcpmgffkffdaaGreat
open Go.ChangeShapes Go.WideShapes Go.ChangeAt Go.RowKit
open Go.ChangeMaps (open_string shut_string)
set_option linter.unusedVariables false
set_option linter.unusedSimpArgs false
set_option maxRecDepth 4000

end Go.Proofs.YtefcpmgffkffdaaGreat

