/-
  The harness' functions, hidden, at a list whose length stays closed.
-/
import Derived.Test.YtmmgcdfifcbabaaGreatDoorIntH
namespace Go.Proofs.YtmmgcdfifcbabaaGreatDoor
open Go.ChangeShapes Go.WideShapes Go.ChangeAt Go.RowKit
open Go.ChangeMaps (open_string shut_string)
set_option linter.unusedVariables false
set_option linter.unusedSimpArgs false
set_option maxRecDepth 4000

theorem row_at {B : Nat} {W : World} {A : Option Addr} {L : List Int} (h : OwnS B W A (vi L)) : ∀ g, rowOf L.length A = some g → B ≤ g := by
  have := h.row
  rwa [vi_length] at this

end Go.Proofs.YtmmgcdfifcbabaaGreatDoor
