/-
  Words of the laws over meshes.
-/
import Derived.Test.YtoknolholccamaaMsT
import Derived.Test.YtoknolholccamaaMsE
namespace Go.Proofs.Ytoknolholccamaa
open Go.ChangeShapes Go.WideShapes Go.ChangeAt Go.RowKit
open Go.ChangeMaps (open_string shut_string)
set_option linter.unusedVariables false
set_option linter.unusedSimpArgs false
set_option maxRecDepth 4000

theorem dat_memM {L M : List PV} (h : dat M = dat L) {q : PV} (hq : q ∈ M) : ∃ p, p ∈ L ∧ q.x = p.x ∧ q.y = p.y := by
  have h1 : (q.x, q.y) ∈ dat M := List.mem_map.2 ⟨q, hq, rfl⟩
  rw [h] at h1
  obtain ⟨p, hp, e⟩ := List.mem_map.1 h1
  injection e with e1 e2
  exact ⟨p, hp, e1.symm, e2.symm⟩
theorem datM_short {m n : MV} (h : datM n = datM m) (hS : ShortM m) : ShortM n := by
  obtain ⟨h1, h2⟩ := datM_len h
  refine ⟨by rw [h1]; exact hS.1, by rw [h2]; exact hS.2.1, fun q hq => ?_⟩
  obtain ⟨p, hp, e1, e2⟩ := dat_memM (datM_dat h) hq
  have := hS.2.2 p hp
  unfold ShortP at this ⊢
  rw [e1, e2]; exact this
end Go.Proofs.Ytoknolholccamaa
