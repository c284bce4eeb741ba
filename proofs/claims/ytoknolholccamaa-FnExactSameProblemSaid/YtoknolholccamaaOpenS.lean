/-
  A list of points that came in, read in bundled words.
-/
import Derived.Test.YtoknolholccamaaOpenP
import Derived.Test.YtoknolholccamaaSl
import Derived.Deep.Slices
namespace Go.Proofs.Ytoknolholccamaa
open Go.ChangeShapes Go.WideShapes Go.ChangeAt Go.RowKit Go.Joins
open Go.ChangeMaps (open_string shut_string)
set_option linter.unusedVariables false
set_option linter.unusedSimpArgs false
set_option maxRecDepth 10000

theorem openPc {H : Type} {enc : TypeId × Value → H} {W : World} {n : Nat} {c0 c1 c2 c3 c4 c5 : Value} {z} (hf : DataW.trod enc Try.prog W 0 (fun _ => true) true n 73 [c0, c1, c2, c3, c4, c5] = some z) :
    ∃ p : PV, [c0, c1, c2, c3, c4, c5] = pcl p ∧ LenP p ∧ Rds W (prow p) := by
  obtain ⟨y0, y1, n', hx, _, h0, h1⟩ := trod_struct2 Try.underlying73 hf
  have k0 : Try.prog.cellsOf 58 = 3 := cellsRat
  have e0 : DataW.trod enc Try.prog W 0 (fun _ => true) true n' 58 [c0, c1, c2] = some y0 := by simpa [Value.cells, k0] using h0
  have e1 : DataW.trod enc Try.prog W 0 (fun _ => true) true n' 58 [c3, c4, c5] = some y1 := by simpa [Value.cells, k0] using h1
  obtain ⟨x, a, rfl, rfl, rfl, a1, a2, a3⟩ := openRc e0
  obtain ⟨y, b, rfl, rfl, rfl, b1, b2, b3⟩ := openRc e1
  exact ⟨⟨x, y, a, b⟩, rfl, ⟨⟨a1, a2⟩, b1, b2⟩, Rds.app a3 b3⟩
theorem list6 {cs : List Value} (h : cs.length = 6) : ∃ c0 c1 c2 c3 c4 c5, cs = [c0, c1, c2, c3, c4, c5] := by
  match cs, h with
  | [c0, c1, c2, c3, c4, c5], _ => exact ⟨c0, c1, c2, c3, c4, c5, rfl⟩
theorem openPS {H : Type} {enc : TypeId × Value → H} {W : World} {a0 : Option Addr} {len cap : Nat} {d : DataW H} {p : List MemPlace}
    (h : DataW.Trod enc Try.prog W 0 (fun _ => true) true 22 (.slice a0 len cap) d p) :
    ∃ L : List PV, L.length = len ∧ len ≤ 9223372036854775807 ∧ (∀ p, p ∈ L → LenP p) ∧ RdS W a0 (flat L) ∧ Rds W (lrow L) := by
  obtain ⟨fuel, hf⟩ := h
  rcases Go.Deep.open_slice Try.underlying22 hf with ⟨hcs, _⟩ | ⟨a, len', cap', m, n, D, Pl, hcs, _, hl, hm, hmm, hx, HH⟩
  · simp [Value.cells] at hcs
    obtain ⟨rfl, rfl, rfl⟩ := hcs
    exact ⟨[], rfl, by omega, (fun p hp => by cases hp), .inl rfl, Rds.nil _⟩
  · simp [Value.cells] at hcs
    obtain ⟨rfl, rfl, rfl⟩ := hcs
    simp only [if_true] at hmm
    simp only [maxLen] at hm
    obtain ⟨b, off, spot⟩ := a
    have K : ∀ i, i < len → ∃ p : PV, LenP p ∧ Rds W (prow p) ∧ ∀ k, k < 6 → W.cell? ((⟨b, off, spot⟩ : Addr).add (i * 6 + k)) = (pcl p)[k]? := by
      intro i hi
      obtain ⟨cs', h1, h2⟩ := HH i (by omega)
      rw [cellsPoint] at h1
      obtain ⟨_, hlen, hc⟩ := World.cells?_some h1
      obtain ⟨c0, c1, c2, c3, c4, c5, rfl⟩ := list6 hlen
      obtain ⟨q, hq, h3, h4⟩ := openPc h2
      exact ⟨q, h3, h4, fun k hk => by rw [← Go.Deep.add_add, hc k hk, hq]⟩
    haveI : Inhabited PV := ⟨PV0⟩
    obtain ⟨V, hV⟩ := Go.Deep.choose_lt (α := PV) (p := fun i p => LenP p ∧ Rds W (prow p) ∧ ∀ k, k < 6 → W.cell? ((⟨b, off, spot⟩ : Addr).add (i * 6 + k)) = (pcl p)[k]?) K
    have hget : ∀ i, i < len → ((List.range len).map V)[i]? = some (V i) := fun i hi => by simp [hi]
    have hmem : ∀ q, q ∈ (List.range len).map V → ∃ i, i < len ∧ V i = q := fun q hq => by
      obtain ⟨i, hi, e⟩ := List.mem_map.1 hq
      exact ⟨i, List.mem_range.1 hi, e⟩
    refine ⟨(List.range len).map V, by simp, by omega, ?_, ?_, ?_⟩
    · intro q hq
      obtain ⟨i, hi, rfl⟩ := hmem q hq
      exact (hV i hi).1
    · by_cases hl0 : len = 0
      · left; subst hl0; rfl
      · have h0 := (hV 0 (by omega)).2.2 0 (by omega)
        have hspot : spot = none := by simpa [Addr.add] using World.cell?_spot (h0.trans rfl)
        subst hspot
        have hbW : b < W.heap.size := World.block_lt_of_cell? W _ (h0.trans rfl)
        refine .inr ⟨b, off, rfl, hbW, fun j hj => ?_⟩
        rw [flat_length, List.length_map, List.length_range] at hj
        have h1 : j / 6 < len := by omega
        have h2 : j % 6 < 6 := Nat.mod_lt _ (by omega)
        have h3 := flat_get (hget _ h1) (j % 6) h2
        rw [show j / 6 * 6 + j % 6 = j by omega] at h3
        rw [h3, ← (hV _ h1).2.2 _ h2, show j / 6 * 6 + j % 6 = j by omega, add_plain]
    · intro r hr
      obtain ⟨q, hq, hr⟩ := List.mem_flatMap.1 hr
      obtain ⟨i, hi, rfl⟩ := hmem q hq
      exact (hV i hi).2.1 r hr
end Go.Proofs.Ytoknolholccamaa
