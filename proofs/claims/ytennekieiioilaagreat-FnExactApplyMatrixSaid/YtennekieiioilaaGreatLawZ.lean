/-
  Words of the laws over matrices.
-/
import Derived.Test.YtennekieiioilaaGreatLawX
import Derived.Test.YtennekieiioilaaGreatMxH
import Derived.Test.YtennekieiioilaaGreatMxT
import Derived.Test.YtennekieiioilaaGreatMxE
import Derived.Test.YtennekieiioilaaGreatMxM
import Derived.Test.YtennekieiioilaaGreatLawP
namespace Go.Proofs.YtennekieiioilaaGreat
open Go.ChangeShapes Go.WideShapes Go.ChangeAt Go.RowKit
open Go.ChangeMaps (open_string shut_string)
set_option linter.unusedVariables false
set_option linter.unusedSimpArgs false
set_option maxRecDepth 4000
theorem nxxs_dat {L M : List MR} (k : Int) (h : datX M = datX L) : nxxs k M = nxxs k L := by rw [nxxs_eq, nxxs_eq, szrs_dat h]
theorem szrs_facts {L : List MR} (h : (L.length : Int) + szrs L ≤ 1048576) : L.length ≤ 1048576 ∧ ∀ p, p ∈ L → ShortX p := by
  have h1 := szrs_pos L
  exact ⟨by omega, szrs_short (left := 1048576) (by omega) (by omega)⟩
theorem hzdrew (w : World) : w.heap.size ≤ w.drew.heap.size := Nat.le_refl _
end Go.Proofs.YtennekieiioilaaGreat
