/-
  A matrix that came in, read in bundled words.
-/
import Derived.Test.YtennekieiioilaaGreatOpenQ
import Derived.Test.YtennekieiioilaaGreatMx
namespace Go.Proofs.YtennekieiioilaaGreat
open Go.ChangeShapes Go.WideShapes Go.ChangeAt Go.RowKit Go.Joins
open Go.ChangeMaps (open_string shut_string)
set_option linter.unusedVariables false
set_option linter.unusedSimpArgs false
set_option maxRecDepth 10000

theorem cellsRowX : Tryz.prog.cellsOf 75 = 2 := by kernel_rfl
theorem cellsMx : Tryz.prog.cellsOf 24 = 1 := by kernel_rfl
theorem openRSc {H : Type} {enc : TypeId × Value → H} {W : World} {fuel : Nat} {v : Value} {x : DataW H × List MemPlace}
    (hf : DataW.trod enc Tryz.prog W 0 (fun _ => true) true fuel 41 [v] = some x) :
    ∃ (L : List RV) (A : Option Addr) (c : Nat), v = .slice A L.length c ∧ L.length ≤ 9223372036854775807 ∧ (∀ p, p ∈ L → LenQ p) ∧ RdS W A (flatQ L) ∧ Rds W (lrowQ L) := by
  have hv : ∃ A n c, v = .slice A n c := by
    rcases Go.Deep.open_slice Tryz.underlying41 hf with ⟨hcs, _⟩ | ⟨a, len', cap', m, n, D, Pl, hcs, _⟩
    · injection hcs with h1 _; exact ⟨_, _, _, h1⟩
    · injection hcs with h1 _; exact ⟨_, _, _, h1⟩
  obtain ⟨A, n, c, rfl⟩ := hv
  obtain ⟨d, p⟩ := x
  obtain ⟨L, h1, h2, h3, h4, h5⟩ := openRS (a0 := A) (len := n) (cap := c) (d := d) (p := p) ⟨fuel, by simpa [Value.cells] using hf⟩
  exact ⟨L, A, c, by rw [h1], by rw [h1]; exact h2, h3, h4, h5⟩
theorem openRowX {H : Type} {enc : TypeId × Value → H} {W : World} {n : Nat} {c0 c1 : Value} {z} (hf : DataW.trod enc Tryz.prog W 0 (fun _ => true) true n 75 [c0, c1] = some z) :
    ∃ p : MR, [c0, c1] = mcl p ∧ LenX p ∧ Rds W (rmx p) := by
  obtain ⟨y0, y1, n, hx, _, h0, h1⟩ := trod_struct2 Tryz.underlying75 hf
  have k0 : Tryz.prog.cellsOf 26 = 1 := by kernel_rfl
  have k1 : Tryz.prog.cellsOf 41 = 1 := by kernel_rfl
  have e0 : DataW.trod enc Tryz.prog W 0 (fun _ => true) true n 26 [c0] = some y0 := by simpa [Value.cells, k0, k1] using h0
  have e1 : DataW.trod enc Tryz.prog W 0 (fun _ => true) true n 41 [c1] = some y1 := by simpa [Value.cells, k0, k1] using h1
  obtain ⟨A, m, c, l, rfl, rfl, a2, a3⟩ := openedC e0
  obtain ⟨V, B, d, rfl, b1, b2, b3, b4⟩ := openRSc e1
  exact ⟨⟨l, A, c, V, B, d⟩, rfl, ⟨a2, b1, b2⟩, Rds.cons a3 (Rds.cons b3 b4)⟩
theorem list2 {cs : List Value} (h : cs.length = 2) : ∃ c0 c1, cs = [c0, c1] := by
  match cs, h with
  | [c0, c1], _ => exact ⟨c0, c1, rfl⟩
theorem openXS {H : Type} {enc : TypeId × Value → H} {W : World} {a0 : Option Addr} {len cap : Nat} {d : DataW H} {p : List MemPlace}
    (h : DataW.Trod enc Tryz.prog W 0 (fun _ => true) true 22 (.slice a0 len cap) d p) :
    ∃ L : List MR, L.length = len ∧ len ≤ 9223372036854775807 ∧ (∀ p, p ∈ L → LenX p) ∧ RdS W a0 (flatX L) ∧ Rds W (lrowX L) := by
  obtain ⟨fuel, hf⟩ := h
  rcases Go.Deep.open_slice Tryz.underlying22 hf with ⟨hcs, _⟩ | ⟨a, len', cap', m, n, D, Pl, hcs, _, hl, hm, hmm, hx, HH⟩
  · simp [Value.cells] at hcs
    obtain ⟨rfl, rfl, rfl⟩ := hcs
    exact ⟨[], rfl, by omega, (fun p hp => by cases hp), .inl rfl, Rds.nil _⟩
  · simp [Value.cells] at hcs
    obtain ⟨rfl, rfl, rfl⟩ := hcs
    simp only [if_true] at hmm
    simp only [maxLen] at hm
    obtain ⟨b, off, spot⟩ := a
    have K : ∀ i, i < len → ∃ p : MR, LenX p ∧ Rds W (rmx p) ∧ ∀ k, k < 2 → W.cell? ((⟨b, off, spot⟩ : Addr).add (i * 2 + k)) = (mcl p)[k]? := by
      intro i hi
      obtain ⟨cs', h1, h2⟩ := HH i (by omega)
      rw [cellsRowX] at h1
      obtain ⟨_, hlen, hc⟩ := World.cells?_some h1
      obtain ⟨c0, c1, rfl⟩ := list2 hlen
      obtain ⟨q, hq, h3, h4⟩ := openRowX h2
      exact ⟨q, h3, h4, fun k hk => by rw [← Go.Deep.add_add, hc k hk, hq]⟩
    haveI : Inhabited MR := ⟨MR0⟩
    obtain ⟨V, hV⟩ := Go.Deep.choose_lt (α := MR) (p := fun i p => LenX p ∧ Rds W (rmx p) ∧ ∀ k, k < 2 → W.cell? ((⟨b, off, spot⟩ : Addr).add (i * 2 + k)) = (mcl p)[k]?) K
    have hget : ∀ i, i < len → ((List.range len).map V)[i]? = some (V i) := fun i hi => by simp [hi]
    have hmem : ∀ q, q ∈ (List.range len).map V → ∃ i, i < len ∧ V i = q := fun q hq => by
      obtain ⟨i, hi, e⟩ := List.mem_map.1 hq
      exact ⟨i, List.mem_range.1 hi, e⟩
    refine ⟨(List.range len).map V, by simp, by omega, ?_, ?_, ?_⟩
    · intro q hq
      obtain ⟨i, hi, rfl⟩ := hmem q hq
      exact (hV i hi).1
    · by_cases hl0 : len = 0
      · left; subst hl0; rfl
      · have h0 := (hV 0 (by omega)).2.2 0 (by omega)
        have hspot : spot = none := by simpa [Addr.add] using World.cell?_spot (h0.trans rfl)
        subst hspot
        have hbW : b < W.heap.size := World.block_lt_of_cell? W _ (h0.trans rfl)
        refine .inr ⟨b, off, rfl, hbW, fun j hj => ?_⟩
        rw [flatX_length, List.length_map, List.length_range] at hj
        have h1 : j / 2 < len := by omega
        have h2 : j % 2 < 2 := Nat.mod_lt _ (by omega)
        have h3 := flatX_get (hget _ h1) (j % 2) h2
        rw [show j / 2 * 2 + j % 2 = j by omega] at h3
        rw [h3, ← (hV _ h1).2.2 _ h2, show j / 2 * 2 + j % 2 = j by omega, add_plain]
    · intro r hr
      obtain ⟨q, hq, hr⟩ := List.mem_flatMap.1 hr
      obtain ⟨i, hi, rfl⟩ := hmem q hq
      exact (hV i hi).2.1 r hr
/-- A matrix that came in, read. -/
theorem openMx {H : Type} {enc : TypeId × Value → H} {W : World} {base : Nat} {v : Value} {d : DataW H} {p : List MemPlace}
    (hv : Value.okWide Tryz.prog W .any base 24 v) (h : DataW.Trod enc Tryz.prog W 0 (fun _ => true) true 24 v d p) :
    ∃ (L : List MR) (A : Option Addr) (c : Nat), v = .agg #[.slice A L.length c] ∧ L.length ≤ 9223372036854775807 ∧ (∀ p, p ∈ L → LenX p) ∧ RdS W A (flatX L) ∧ Rds W (lrowX L) := by
  obtain ⟨cs, rfl, hsz⟩ := okWide_struct Tryz.underlying24 hv
  have hs1 : cs.size = 1 := hsz.trans cellsMx
  obtain ⟨c0, rfl⟩ : ∃ c0, cs = #[c0] := by
    rcases cs with ⟨l⟩
    match l, hs1 with
    | [c0], _ => exact ⟨c0, rfl⟩
  obtain ⟨fuel, hf⟩ := h
  obtain ⟨y0, n, hx, _, h0⟩ := trod_struct1 Tryz.underlying24 hf
  have k0 : Tryz.prog.cellsOf 22 = 1 := by kernel_rfl
  have e0 : DataW.trod enc Tryz.prog W 0 (fun _ => true) true n 22 [c0] = some y0 := by simpa [Value.cells, k0] using h0
  have hvs : ∃ A n c, c0 = .slice A n c := by
    rcases Go.Deep.open_slice Tryz.underlying22 e0 with ⟨hcs, _⟩ | ⟨a, len', cap', m, n, D, Pl, hcs, _⟩
    · injection hcs with h1 _; exact ⟨_, _, _, h1⟩
    · injection hcs with h1 _; exact ⟨_, _, _, h1⟩
  obtain ⟨A, m, c, rfl⟩ := hvs
  obtain ⟨d0, p0⟩ := y0
  obtain ⟨L, h1, h2, h3, h4, h5⟩ := openXS (a0 := A) (len := m) (cap := c) (d := d0) (p := p0) ⟨n, by simpa [Value.cells] using e0⟩
  exact ⟨L, A, c, by rw [h1], by rw [h1]; exact h2, h3, h4, h5⟩
end Go.Proofs.YtennekieiioilaaGreat
