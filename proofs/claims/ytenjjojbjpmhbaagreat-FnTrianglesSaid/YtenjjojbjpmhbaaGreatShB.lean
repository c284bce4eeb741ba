/-
  The square of a side.
-/
import Derived.Test.YtenjjojbjpmhbaaGreatTriC
import Derived.Test.YtenjjojbjpmhbaaGreatTriS
namespace Go.Proofs.YtenjjojbjpmhbaaGreat
open Go.ChangeShapes Go.WideShapes Go.ChangeAt Go.RowKit
set_option linter.unusedVariables false
set_option linter.unusedSimpArgs false
set_option maxRecDepth 4000
end Go.Proofs.YtenjjojbjpmhbaaGreat
