/-
  A problem that came in, read in bundled words.
-/
import Derived.Test.YtoknolholccamaaOpenM
import Derived.Test.YtoknolholccamaaOpenQ
import Derived.Test.YtoknolholccamaaPb
namespace Go.Proofs.Ytoknolholccamaa
open Go.ChangeShapes Go.WideShapes Go.ChangeAt Go.RowKit Go.Joins
open Go.ChangeMaps (open_string shut_string)
set_option linter.unusedVariables false
set_option linter.unusedSimpArgs false
set_option maxRecDepth 10000

theorem cellsProb : Try.prog.cellsOf 28 = 4 := by kernel_rfl
theorem openRSc {H : Type} {enc : TypeId × Value → H} {W : World} {fuel : Nat} {v : Value} {x : DataW H × List MemPlace}
    (hf : DataW.trod enc Try.prog W 0 (fun _ => true) true fuel 26 [v] = some x) :
    ∃ (L : List RV) (A : Option Addr) (c : Nat), v = .slice A L.length c ∧ L.length ≤ 9223372036854775807 ∧ (∀ p, p ∈ L → LenQ p) ∧ RdS W A (flatQ L) ∧ Rds W (lrowQ L) := by
  have hv : ∃ A n c, v = .slice A n c := by
    rcases Go.Deep.open_slice Try.underlying26 hf with ⟨hcs, _⟩ | ⟨a, len', cap', m, n, D, Pl, hcs, _⟩
    · injection hcs with h1 _; exact ⟨_, _, _, h1⟩
    · injection hcs with h1 _; exact ⟨_, _, _, h1⟩
  obtain ⟨A, n, c, rfl⟩ := hv
  obtain ⟨d, p⟩ := x
  obtain ⟨L, h1, h2, h3, h4, h5⟩ := openRS (a0 := A) (len := n) (cap := c) (d := d) (p := p) ⟨fuel, by simpa [Value.cells] using hf⟩
  exact ⟨L, A, c, by rw [h1], by rw [h1]; exact h2, h3, h4, h5⟩
theorem array4p {cs : Array Value} (h : cs.size = 4) : ∃ c0 c1 c2 c3, cs = #[c0, c1, c2, c3] := by
  obtain ⟨l⟩ := cs
  match l, h with
  | [c0, c1, c2, c3], _ => exact ⟨c0, c1, c2, c3, rfl⟩
theorem openPb {H : Type} {enc : TypeId × Value → H} {W : World} {base : Nat} {v : Value} {d : DataW H} {p : List MemPlace}
    (hv : Value.okWide Try.prog W .any base 28 v) (h : DataW.Trod enc Try.prog W 0 (fun _ => true) true 28 v d p) :
    ∃ q : PB, v = .agg #[.slice q.m.A q.m.L.length q.m.c, .slice q.m.B q.m.T.length q.m.d, .slice q.E q.K.length q.e, .slice q.G q.F.length q.g] ∧ PbLen q ∧ PbRd W q := by
  obtain ⟨cs, rfl, hsz⟩ := okWide_struct Try.underlying28 hv
  obtain ⟨c0, c1, c2, c3, rfl⟩ := array4p (hsz.trans cellsProb)
  obtain ⟨fuel, hf⟩ := h
  obtain ⟨xs, n', _, hx, hl, hlen, hf⟩ := DataW.trod_struct Try.underlying28 hf
  have k0 : Try.prog.cellsOf 25 = 2 := cellsMesh
  have k1 : Try.prog.cellsOf 26 = 1 := by kernel_rfl
  match xs, hlen with
  | [y0, y1, y2], _ =>
    have e0 : DataW.trod enc Try.prog W 0 (fun _ => true) true n' 25 [c0, c1] = some y0 := by simpa [Value.cells, k0, k1] using hf 0 _ rfl
    have e1 : DataW.trod enc Try.prog W 0 (fun _ => true) true n' 26 [c2] = some y1 := by simpa [Value.cells, k0, k1] using hf 1 _ rfl
    have e2 : DataW.trod enc Try.prog W 0 (fun _ => true) true n' 26 [c3] = some y2 := by simpa [Value.cells, k0, k1] using hf 2 _ rfl
    obtain ⟨z0, z1, n'', hx', _, g0, g1⟩ := trod_struct2 Try.underlying25 e0
    have j0 : Try.prog.cellsOf 22 = 1 := by kernel_rfl
    have j1 : Try.prog.cellsOf 23 = 1 := by kernel_rfl
    have f0 : DataW.trod enc Try.prog W 0 (fun _ => true) true n'' 22 [c0] = some z0 := by simpa [Value.cells, j0, j1] using g0
    have f1 : DataW.trod enc Try.prog W 0 (fun _ => true) true n'' 23 [c1] = some z1 := by simpa [Value.cells, j0, j1] using g1
    obtain ⟨L, A, c, rfl, h1, h2, h3, h4⟩ := openPSc f0
    obtain ⟨T, B, e, rfl, h5, h6⟩ := openTS f1
    obtain ⟨K, E, i, rfl, a1, a2, a3, a4⟩ := openRSc e1
    obtain ⟨F, G, j, rfl, b1, b2, b3, b4⟩ := openRSc e2
    exact ⟨⟨⟨L, A, c, T, B, e⟩, K, E, i, F, G, j⟩, rfl, ⟨⟨h1, h5, h2⟩, ⟨a1, a2⟩, b1, b2⟩, ⟨⟨Rds.cons h3 h4, Rds.cons h6 (Rds.nil _), Rds.cons a3 a4, Rds.cons b3 b4⟩⟩⟩
end Go.Proofs.Ytoknolholccamaa
