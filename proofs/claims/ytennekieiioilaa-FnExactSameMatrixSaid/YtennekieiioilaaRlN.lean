/-
  Marks in lists of fractions, found again.
-/
import Derived.Test.YtennekieiioilaaRlM
namespace Go.Proofs.Ytennekieiioilaa
open Go.ChangeShapes Go.WideShapes Go.ChangeAt Go.RowKit
open Go.ChangeMaps (open_string shut_string)
set_option linter.unusedVariables false
set_option linter.unusedSimpArgs false
set_option maxRecDepth 4000

theorem mkqs_get {k : Int} {L : List RV} {j : Nat} {p : RV} (hp : L[j]? = some p) : (mkqs k L)[j]? = some (mkQ (nxqs k (L.take j)) p) := by
  have hl := lt_of_getQ hp
  have h2 : L[j] = p := by rw [List.getElem?_eq_getElem hl] at hp; injection hp
  have e : L = L.take j ++ p :: L.drop (j + 1) := by
    have h1 := List.take_append_drop j L
    rw [List.drop_eq_getElem_cons hl, h2] at h1
    exact h1.symm
  have e2 : mkqs k L = mkqs k (L.take j) ++ mkQ (nxqs k (L.take j)) p :: mkqs (nxQ (nxqs k (L.take j)) p) (L.drop (j + 1)) := by
    conv => lhs; rw [e, mkqs_app]
    rfl
  rw [e2, List.getElem?_append_right (by rw [mkqs_length, List.length_take]; omega), mkqs_length, List.length_take, Nat.min_eq_left (by omega), Nat.sub_self]
  rfl
end Go.Proofs.Ytennekieiioilaa
