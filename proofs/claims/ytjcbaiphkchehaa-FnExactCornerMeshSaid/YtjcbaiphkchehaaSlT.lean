/-
  The harness' copy of a list of points.
-/
import Derived.Test.YtjcbaiphkchehaaSlH
import Derived.Test.YtjcbaiphkchehaaStore
namespace Go.Proofs.Ytjcbaiphkchehaa
open Go.ChangeShapes Go.WideShapes Go.ChangeAt Go.RowKit
open Go.ChangeMaps (open_string shut_string)
set_option linter.unusedVariables false
set_option linter.unusedSimpArgs false
set_option maxRecDepth 4000

theorem pt_info : (Try.prog.info? 39).map (fun i => (i.zero, i.size, i.bytes)) = some (some (.agg #[.bool false, .slice none 0 0, .slice none 0 0, .bool false, .slice none 0 0, .slice none 0 0]), 6, 112) := by kernel_rfl
/-- A list of points whose rows all begin at a block's first cell. -/
def MadePSp (B : Nat) (L : List PV) (w : World) (e : Ending) (w' : World) : Prop :=
  ∃ (M : List PV) (A : Option Addr) (c : Nat), e = .returned (.slice A M.length c) ∧ M.length ≤ c ∧ dat M = dat L ∧ (∀ p, p ∈ M → CapP p ∧ Pin p.a ∧ Pin p.b) ∧ Owns B w'.heap.size w' (srow A M) ∧ Aparts (srow A M) ∧ Below w.heap.size w w'
end Go.Proofs.Ytjcbaiphkchehaa
