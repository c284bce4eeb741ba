/-
  A mesh that came in, read in bundled words.
-/
import Derived.Test.YtoknolholccamaaOpenS
import Derived.Test.YtoknolholccamaaMs
namespace Go.Proofs.Ytoknolholccamaa
open Go.ChangeShapes Go.WideShapes Go.ChangeAt Go.RowKit Go.Joins
open Go.ChangeMaps (open_string shut_string)
set_option linter.unusedVariables false
set_option linter.unusedSimpArgs false
set_option maxRecDepth 10000

theorem cellsTri : Try.prog.cellsOf 78 = 5 := by kernel_rfl
theorem cellsMesh : Try.prog.cellsOf 25 = 2 := by kernel_rfl
theorem openTc {H : Type} {enc : TypeId × Value → H} {W : World} {n : Nat} {c0 c1 c2 c3 c4 : Value} {z} (hf : DataW.trod enc Try.prog W 0 (fun _ => true) true n 78 [c0, c1, c2, c3, c4] = some z) :
    ∃ t : TV, [c0, c1, c2, c3, c4] = tcl t := by
  obtain ⟨xs, n', _, rfl, hl, hlen, hf⟩ := DataW.trod_struct Try.underlying78 hf
  have o0 : Try.prog.cellsOf 3 = 1 := by kernel_rfl
  match xs, hlen with
  | [y0, y1, y2, y3, y4], _ =>
    have e0 : DataW.trod enc Try.prog W 0 (fun _ => true) true n' 3 [c0] = some y0 := by simpa [o0] using hf 0 _ rfl
    have e1 : DataW.trod enc Try.prog W 0 (fun _ => true) true n' 3 [c1] = some y1 := by simpa [o0] using hf 1 _ rfl
    have e2 : DataW.trod enc Try.prog W 0 (fun _ => true) true n' 3 [c2] = some y2 := by simpa [o0] using hf 2 _ rfl
    have e3 : DataW.trod enc Try.prog W 0 (fun _ => true) true n' 3 [c3] = some y3 := by simpa [o0] using hf 3 _ rfl
    have e4 : DataW.trod enc Try.prog W 0 (fun _ => true) true n' 3 [c4] = some y4 := by simpa [o0] using hf 4 _ rfl
    obtain ⟨a, ea, _⟩ := DataW.trod_int Try.underlying3 e0
    obtain ⟨b, eb, _⟩ := DataW.trod_int Try.underlying3 e1
    obtain ⟨c, ec, _⟩ := DataW.trod_int Try.underlying3 e2
    obtain ⟨d, ed, _⟩ := DataW.trod_int Try.underlying3 e3
    obtain ⟨e, ee, _⟩ := DataW.trod_int Try.underlying3 e4
    injection ea with ea _; injection eb with eb _; injection ec with ec _; injection ed with ed _; injection ee with ee _
    subst ea; subst eb; subst ec; subst ed; subst ee
    exact ⟨⟨a, b, c, d, e⟩, rfl⟩
theorem list5 {cs : List Value} (h : cs.length = 5) : ∃ c0 c1 c2 c3 c4, cs = [c0, c1, c2, c3, c4] := by
  match cs, h with
  | [c0, c1, c2, c3, c4], _ => exact ⟨c0, c1, c2, c3, c4, rfl⟩
/-- A cell that holds a list of triangles, read. -/
theorem openTS {H : Type} {enc : TypeId × Value → H} {W : World} {fuel : Nat} {v : Value} {x : DataW H × List MemPlace}
    (hf : DataW.trod enc Try.prog W 0 (fun _ => true) true fuel 23 [v] = some x) :
    ∃ (T : List TV) (A : Option Addr) (c : Nat), v = .slice A T.length c ∧ T.length ≤ 9223372036854775807 ∧ RdS W A (flatT T) := by
  rcases Go.Deep.open_slice Try.underlying23 hf with ⟨hcs, _⟩ | ⟨a, len', cap', m, n, D, Pl, hcs, _, hl, hm, hmm, hx, HH⟩
  · injection hcs with h1 _
    exact ⟨[], none, 0, h1, by simp, .inl rfl⟩
  · injection hcs with h1 _
    simp only [if_true] at hmm
    simp only [maxLen] at hm
    obtain ⟨b, off, spot⟩ := a
    have K : ∀ i, i < len' → ∃ t : TV, ∀ k, k < 5 → W.cell? ((⟨b, off, spot⟩ : Addr).add (i * 5 + k)) = (tcl t)[k]? := by
      intro i hi
      obtain ⟨cs', h1, h2⟩ := HH i (by omega)
      rw [cellsTri] at h1
      obtain ⟨_, hlen, hc⟩ := World.cells?_some h1
      obtain ⟨c0, c1, c2, c3, c4, rfl⟩ := list5 hlen
      obtain ⟨q, hq⟩ := openTc h2
      exact ⟨q, fun k hk => by rw [← Go.Deep.add_add, hc k hk, hq]⟩
    haveI : Inhabited TV := ⟨TV0⟩
    obtain ⟨V, hV⟩ := Go.Deep.choose_lt (α := TV) (p := fun i t => ∀ k, k < 5 → W.cell? ((⟨b, off, spot⟩ : Addr).add (i * 5 + k)) = (tcl t)[k]?) K
    have hget : ∀ i, i < len' → ((List.range len').map V)[i]? = some (V i) := fun i hi => by simp [hi]
    refine ⟨(List.range len').map V, some ⟨b, off, spot⟩, cap', by rw [h1]; simp, by simp; omega, ?_⟩
    by_cases hl0 : len' = 0
    · left; subst hl0; rfl
    · have h0 := hV 0 (by omega) 0 (by omega)
      have hspot : spot = none := by simpa [Addr.add] using World.cell?_spot (h0.trans rfl)
      subst hspot
      have hbW : b < W.heap.size := World.block_lt_of_cell? W _ (h0.trans rfl)
      refine .inr ⟨b, off, rfl, hbW, fun j hj => ?_⟩
      rw [flatT_length, List.length_map, List.length_range] at hj
      have h1 : j / 5 < len' := by omega
      have h2 : j % 5 < 5 := Nat.mod_lt _ (by omega)
      have h3 := flatT_get (hget _ h1) (j % 5) h2
      rw [show j / 5 * 5 + j % 5 = j by omega] at h3
      rw [h3, ← hV _ h1 _ h2, show j / 5 * 5 + j % 5 = j by omega, add_plain]
theorem openPSc {H : Type} {enc : TypeId × Value → H} {W : World} {fuel : Nat} {v : Value} {x : DataW H × List MemPlace}
    (hf : DataW.trod enc Try.prog W 0 (fun _ => true) true fuel 22 [v] = some x) :
    ∃ (L : List PV) (A : Option Addr) (c : Nat), v = .slice A L.length c ∧ L.length ≤ 9223372036854775807 ∧ (∀ p, p ∈ L → LenP p) ∧ RdS W A (flat L) ∧ Rds W (lrow L) := by
  have hv : ∃ A n c, v = .slice A n c := by
    rcases Go.Deep.open_slice Try.underlying22 hf with ⟨hcs, _⟩ | ⟨a, len', cap', m, n, D, Pl, hcs, _⟩
    · injection hcs with h1 _; exact ⟨_, _, _, h1⟩
    · injection hcs with h1 _; exact ⟨_, _, _, h1⟩
  obtain ⟨A, n, c, rfl⟩ := hv
  obtain ⟨d, p⟩ := x
  obtain ⟨L, h1, h2, h3, h4, h5⟩ := openPS (a0 := A) (len := n) (cap := c) (d := d) (p := p) ⟨fuel, by simpa [Value.cells] using hf⟩
  exact ⟨L, A, c, by rw [h1], by rw [h1]; exact h2, h3, h4, h5⟩
theorem openM {H : Type} {enc : TypeId × Value → H} {W : World} {base : Nat} {v : Value} {d : DataW H} {p : List MemPlace}
    (hv : Value.okWide Try.prog W .any base 25 v) (h : DataW.Trod enc Try.prog W 0 (fun _ => true) true 25 v d p) :
    ∃ m : MV, v = .agg #[.slice m.A m.L.length m.c, .slice m.B m.T.length m.d] ∧ LenM m ∧ Rds W (srow m.A m.L) ∧ RdS W m.B (flatT m.T) := by
  obtain ⟨c0, c1, y0, y1, k, rfl, _, _, hy0, hy1⟩ := open_agg2 Try.underlying25 (by kernel_rfl) cellsMesh hv h
  obtain ⟨L, A, c, rfl, h1, h2, h3, h4⟩ := openPSc hy0
  obtain ⟨T, B, e, rfl, h5, h6⟩ := openTS hy1
  exact ⟨⟨L, A, c, T, B, e⟩, rfl, ⟨h1, h5, h2⟩, Rds.cons h3 h4, h6⟩
end Go.Proofs.Ytoknolholccamaa
