/-
  Fractions of the program that may be none: 'times', 'plus', 'minus', in the bundled words.
-/
import Derived.Test.YtennekieiioilaaPtE
import Derived.Test.YtennekieiioilaaPkF
namespace Go.Proofs.Ytennekieiioilaa
open Go.ChangeShapes Go.WideShapes Go.ChangeAt Go.RowKit
open Go.ChangeMaps (open_string shut_string)
set_option linter.unusedVariables false
set_option linter.unusedSimpArgs false
set_option maxRecDepth 4000

attribute [local go_sem ↓] Go.wp_at_zero Go.wp_at_succ

end Go.Proofs.Ytennekieiioilaa
