/-
  'BigIntOk' of the model; the comparison of two equal big integers (what the door's texts need of BigS and LawBOk).
-/
import Derived.Test.YtmmgcdfifcbabaaGreatDoorFrame
import Derived.Test.YtmmgcdfifcbabaaGreatDoorBigP
namespace Go.Proofs.YtmmgcdfifcbabaaGreatDoor
open Go.ChangeShapes Go.WideShapes Go.ChangeAt Go.RowKit
open Go.ChangeMaps (open_string shut_string)
set_option linter.unusedVariables false
set_option linter.unusedSimpArgs false
set_option maxRecDepth 4000

theorem boxTd (w : World) (T : TypeId) (x y : Value) : Two (w.alloc (.cells #[x, y] T)).drew w.heap.size := boxT w T x y
theorem lt_put2 {W : World} {g : Nat} {x u u' : Value} (h : W.cell? ⟨g, 0, none⟩ = some x) : g < ((W.setCell ⟨g, 0, none⟩ u).setCell ⟨g, 1, none⟩ u').heap.size := by
  have h1 := World.block_lt_of_cell? W _ h
  simpa [World.setCell] using h1
end Go.Proofs.YtmmgcdfifcbabaaGreatDoor
