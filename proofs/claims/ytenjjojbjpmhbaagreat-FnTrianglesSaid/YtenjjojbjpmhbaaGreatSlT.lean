/-
  The harness' copy of a list of points.
-/
import Derived.Test.YtenjjojbjpmhbaaGreatWg
import Derived.Test.YtenjjojbjpmhbaaGreatSlH
import Derived.Test.YtenjjojbjpmhbaaGreatStore
namespace Go.Proofs.YtenjjojbjpmhbaaGreat
open Go.ChangeShapes Go.WideShapes Go.ChangeAt Go.RowKit
set_option linter.unusedVariables false
set_option linter.unusedSimpArgs false
set_option maxRecDepth 4000
theorem pt_info : (Tryz.prog.info? 31).map (fun i => (i.zero, i.size, i.bytes)) = some (some (.agg z6), 6, 112) := by kernel_rfl
end Go.Proofs.YtenjjojbjpmhbaaGreat
