/-
  A list of fractions that came in, read in bundled words.
-/
import Derived.Test.YtennekieiioilaaGreatOpenP
import Derived.Test.YtennekieiioilaaGreatRl
import Derived.Deep.Slices
namespace Go.Proofs.YtennekieiioilaaGreat
open Go.ChangeShapes Go.WideShapes Go.ChangeAt Go.RowKit Go.Joins
open Go.ChangeMaps (open_string shut_string)
set_option linter.unusedVariables false
set_option linter.unusedSimpArgs false
set_option maxRecDepth 10000

theorem list3 {cs : List Value} (h : cs.length = 3) : ∃ c0 c1 c2, cs = [c0, c1, c2] := by
  match cs, h with
  | [c0, c1, c2], _ => exact ⟨c0, c1, c2, rfl⟩
theorem openRS {H : Type} {enc : TypeId × Value → H} {W : World} {a0 : Option Addr} {len cap : Nat} {d : DataW H} {p : List MemPlace}
    (h : DataW.Trod enc Tryz.prog W 0 (fun _ => true) true 41 (.slice a0 len cap) d p) :
    ∃ L : List RV, L.length = len ∧ len ≤ 9223372036854775807 ∧ (∀ p, p ∈ L → LenQ p) ∧ RdS W a0 (flatQ L) ∧ Rds W (lrowQ L) := by
  obtain ⟨fuel, hf⟩ := h
  rcases Go.Deep.open_slice Tryz.underlying41 hf with ⟨hcs, _⟩ | ⟨a, len', cap', m, n, D, Pl, hcs, _, hl, hm, hmm, hx, HH⟩
  · simp [Value.cells] at hcs
    obtain ⟨rfl, rfl, rfl⟩ := hcs
    exact ⟨[], rfl, by omega, (fun p hp => by cases hp), .inl rfl, Rds.nil _⟩
  · simp [Value.cells] at hcs
    obtain ⟨rfl, rfl, rfl⟩ := hcs
    simp only [if_true] at hmm
    simp only [maxLen] at hm
    obtain ⟨b, off, spot⟩ := a
    have K : ∀ i, i < len → ∃ p : RV, LenQ p ∧ Rds W (qrow p) ∧ ∀ k, k < 3 → W.cell? ((⟨b, off, spot⟩ : Addr).add (i * 3 + k)) = (qcl p)[k]? := by
      intro i hi
      obtain ⟨cs', h1, h2⟩ := HH i (by omega)
      rw [cellsRat] at h1
      obtain ⟨_, hlen, hc⟩ := World.cells?_some h1
      obtain ⟨c0, c1, c2, rfl⟩ := list3 hlen
      obtain ⟨x, a, rfl, rfl, rfl, h3, h4, h5⟩ := openRc h2
      exact ⟨⟨x, a⟩, ⟨h3, h4⟩, h5, fun k hk => by rw [← Go.Deep.add_add, hc k hk]; rfl⟩
    haveI : Inhabited RV := ⟨RV0⟩
    obtain ⟨V, hV⟩ := Go.Deep.choose_lt (α := RV) (p := fun i p => LenQ p ∧ Rds W (qrow p) ∧ ∀ k, k < 3 → W.cell? ((⟨b, off, spot⟩ : Addr).add (i * 3 + k)) = (qcl p)[k]?) K
    have hget : ∀ i, i < len → ((List.range len).map V)[i]? = some (V i) := fun i hi => by simp [hi]
    have hmem : ∀ q, q ∈ (List.range len).map V → ∃ i, i < len ∧ V i = q := fun q hq => by
      obtain ⟨i, hi, e⟩ := List.mem_map.1 hq
      exact ⟨i, List.mem_range.1 hi, e⟩
    refine ⟨(List.range len).map V, by simp, by omega, ?_, ?_, ?_⟩
    · intro q hq
      obtain ⟨i, hi, rfl⟩ := hmem q hq
      exact (hV i hi).1
    · by_cases hl0 : len = 0
      · left; subst hl0; rfl
      · have h0 := (hV 0 (by omega)).2.2 0 (by omega)
        have hspot : spot = none := by simpa [Addr.add] using World.cell?_spot (h0.trans rfl)
        subst hspot
        have hbW : b < W.heap.size := World.block_lt_of_cell? W _ (h0.trans rfl)
        refine .inr ⟨b, off, rfl, hbW, fun j hj => ?_⟩
        rw [flatQ_length, List.length_map, List.length_range] at hj
        have h1 : j / 3 < len := by omega
        have h2 : j % 3 < 3 := Nat.mod_lt _ (by omega)
        have h3 := flatQ_get (hget _ h1) (j % 3) h2
        rw [show j / 3 * 3 + j % 3 = j by omega] at h3
        rw [h3, ← (hV _ h1).2.2 _ h2, show j / 3 * 3 + j % 3 = j by omega, add_plain]
    · intro r hr
      obtain ⟨q, hq, hr⟩ := List.mem_flatMap.1 hr
      obtain ⟨i, hi, rfl⟩ := hmem q hq
      exact (hV i hi).2.1 r hr
end Go.Proofs.YtennekieiioilaaGreat
