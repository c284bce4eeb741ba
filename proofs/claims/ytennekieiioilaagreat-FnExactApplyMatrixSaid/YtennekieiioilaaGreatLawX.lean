/-
  Words of the laws over lists of fractions: copies with the same data.
-/
import Derived.Test.YtennekieiioilaaGreatRlT
import Derived.Test.YtennekieiioilaaGreatRlE
import Derived.Test.YtennekieiioilaaGreatRlM
namespace Go.Proofs.YtennekieiioilaaGreat
open Go.ChangeShapes Go.WideShapes Go.ChangeAt Go.RowKit
open Go.ChangeMaps (open_string shut_string)
set_option linter.unusedVariables false
set_option linter.unusedSimpArgs false
set_option maxRecDepth 4000
theorem datQ_mem {L M : List RV} (h : datQ M = datQ L) {q : RV} (hq : q ∈ M) : ∃ p, p ∈ L ∧ q.x = p.x := by
  have h1 : q.x ∈ datQ M := List.mem_map.2 ⟨q, hq, rfl⟩
  rw [h] at h1
  obtain ⟨p, hp, e⟩ := List.mem_map.1 h1
  exact ⟨p, hp, e.symm⟩
theorem datQ_short {L M : List RV} (h : datQ M = datQ L) (hS : ∀ p, p ∈ L → ShortQ p) : ∀ p, p ∈ M → ShortQ p := fun q hq => by
  obtain ⟨p, hp, e1⟩ := datQ_mem h hq
  have := hS p hp
  unfold ShortQ at this ⊢
  rw [e1]; exact this
theorem szqs_dat {L M : List RV} (h : datQ M = datQ L) : szqs M = szqs L := by
  induction L generalizing M with
  | nil => obtain rfl : M = [] := List.eq_nil_of_length_eq_zero (datQ_len h); rfl
  | cons p L ih =>
    match M, h with
    | q :: M, h =>
      simp only [datQ, List.map_cons, List.cons.injEq] at h
      show szq q + szqs M = szq p + szqs L
      rw [ih h.2]; unfold szq; rw [h.1]
theorem nxqs_dat {L M : List RV} (k : Int) (h : datQ M = datQ L) : nxqs k M = nxqs k L := by rw [nxqs_eq, nxqs_eq, szqs_dat h, datQ_len h]
theorem szqs_facts {L : List RV} (h : (L.length : Int) + szqs L ≤ 1048576) : L.length ≤ 1048576 ∧ ∀ p, p ∈ L → ShortQ p := by
  have h1 := szqs_pos L
  exact ⟨by omega, szqs_short (left := 1048576) (by omega) (by omega)⟩
end Go.Proofs.YtennekieiioilaaGreat
