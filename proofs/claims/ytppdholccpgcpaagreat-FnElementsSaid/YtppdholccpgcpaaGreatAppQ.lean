/-
  The harness' copy of a list of fractions.
-/
import Derived.Test.YtppdholccpgcpaaGreatRl
import Derived.Test.YtppdholccpgcpaaGreatStore
import Derived.Test.YtppdholccpgcpaaGreatWp
import Derived.Maps.AppendAt
namespace Go.Proofs.YtppdholccpgcpaaGreat
open Go.ChangeShapes Go.WideShapes Go.ChangeAt Go.RowKit
set_option linter.unusedVariables false
set_option linter.unusedSimpArgs false
set_option maxRecDepth 4000
theorem rat_size : (Tryz.prog.info? 29).map (·.size) = some 3 := by kernel_rfl
end Go.Proofs.YtppdholccpgcpaaGreat
namespace Go.Proofs.YtppdholccpgcpaaGreat
open Go.ChangeShapes Go.WideShapes Go.ChangeAt Go.RowKit
set_option linter.unusedVariables false
set_option linter.unusedSimpArgs false
set_option maxRecDepth 4000
theorem cap_appQ {M : List RV} {q : RV} (h : ∀ p, p ∈ M → CapQ p) (hq : CapQ q) : ∀ p, p ∈ M ++ [q] → CapQ p := fun p hp => by
  rcases List.mem_append.1 hp with h1 | h1
  · exact h p h1
  · rw [List.mem_singleton] at h1; subst h1; exact hq
end Go.Proofs.YtppdholccpgcpaaGreat
