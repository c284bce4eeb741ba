/-
  A list of valid fractions: words for both.
-/
import Derived.Test.YtennekieiioilaaGreatRl
namespace Go.Proofs.YtennekieiioilaaGreat
open Go.ChangeShapes Go.WideShapes Go.ChangeAt Go.RowKit
open Go.ChangeMaps (open_string shut_string)
set_option linter.unusedVariables false
set_option linter.unusedSimpArgs false
set_option maxRecDepth 4000
def validB (L : List RV) : Bool := L.all (fun p => okx p.x)
theorem validB_dat {L M : List RV} (h : datQ M = datQ L) : validB M = validB L := by
  have e : ∀ K : List RV, validB K = (datQ K).all okx := fun K => by unfold validB datQ; rw [List.all_map]; rfl
  rw [e, e, h]
theorem validB_at {L : List RV} (h : validB L = true) {i : Nat} {p : RV} (hp : L[i]? = some p) : okx p.x = true := List.all_eq_true.1 h p (List.mem_of_getElem? hp)
/-- Some element is invalid: the list is. -/
theorem validB_drop {L : List RV} {j : Nat} {p : RV} (hp : L[j]? = some p) : validB (L.drop j) = (okx p.x && validB (L.drop (j + 1))) := by
  have h1 := lt_of_getQ hp
  have e1 : L[j] = p := by rw [List.getElem?_eq_getElem h1] at hp; injection hp
  rw [List.drop_eq_getElem_cons h1, e1]; rfl
end Go.Proofs.YtennekieiioilaaGreat
