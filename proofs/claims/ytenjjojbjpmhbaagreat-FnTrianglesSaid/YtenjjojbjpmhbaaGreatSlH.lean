/-
  What the harness' functions do over lists of points: the room they take, copies, equality.
-/
import Derived.Test.YtenjjojbjpmhbaaGreatSl
namespace Go.Proofs.YtenjjojbjpmhbaaGreat
open Go.ChangeShapes Go.WideShapes Go.ChangeAt Go.RowKit
set_option linter.unusedVariables false
set_option linter.unusedSimpArgs false
set_option maxRecDepth 4000
end Go.Proofs.YtenjjojbjpmhbaaGreat
