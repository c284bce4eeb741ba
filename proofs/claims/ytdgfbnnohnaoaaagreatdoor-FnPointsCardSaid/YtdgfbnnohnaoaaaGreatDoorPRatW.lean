/-
  'ParseRat' of the model answers as the program does.
-/
import Derived.Test.YtdgfbnnohnaoaaaGreatDoorPRatV
namespace Go.Proofs.YtdgfbnnohnaoaaaGreatDoor
open Go.ChangeShapes Go.WideShapes Go.ChangeAt Go.RowKit
open Go.ChangeMaps (open_string shut_string)
set_option linter.unusedVariables false
set_option linter.unusedSimpArgs false
set_option maxRecDepth 4000

theorem fmtR_one {S : Bool} {L : List Int} (h : okR S L [1] = true) : fmtR S L [1] = fmtB S L := by unfold fmtR; rw [h, if_pos rfl, if_pos rfl]
theorem fmtR_two {S : Bool} {L M : List Int} (h : okR S L M = true) (h1 : M ≠ [1]) : fmtR S L M = fmtB S L ++ 47 :: fmtL M := by unfold fmtR; rw [h, if_pos rfl, if_neg h1]
theorem mk_list (l : List UInt8) : (⟨l.toArray⟩ : ByteArray).data.toList = l := by simp
theorem pb_ne {T : ByteArray} (h : pbB (pbP T) (pbT T) = true) : T.data.toList ≠ [] := by
  intro e
  have : T = ⟨#[]⟩ := byte_eq (by rw [e])
  subst this
  exact absurd h (by decide)
end Go.Proofs.YtdgfbnnohnaoaaaGreatDoor

