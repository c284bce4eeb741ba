/-
  A fraction, a point that came in, read in bundled words.
-/
import Derived.Test.YtennekieiioilaaGreatPkD
import Derived.Test.YtennekieiioilaaGreatR3
namespace Go.Proofs.YtennekieiioilaaGreat
open Go.ChangeShapes Go.WideShapes Go.ChangeAt Go.RowKit Go.Joins
open Go.ChangeMaps (open_string shut_string)
set_option linter.unusedVariables false
set_option linter.unusedSimpArgs false
set_option maxRecDepth 10000

theorem openRc {H : Type} {enc : TypeId × Value → H} {W : World} {n : Nat} {c0 c1 c2 : Value} {z} (hf : DataW.trod enc Tryz.prog W 0 (fun _ => true) true n 65 [c0, c1, c2] = some z) :
    ∃ (x : R3) (a : Ad), c0 = .bool x.p ∧ c1 = .slice a.A x.l.length a.c ∧ c2 = .slice a.D x.m.length a.d ∧ x.l.length ≤ 9223372036854775807 ∧ x.m.length ≤ 9223372036854775807 ∧ Rds W (rows x a) := by
  obtain ⟨y0, y1, n, hx, _, h0, h1⟩ := trod_struct2 Tryz.underlying65 hf
  have k0 : Tryz.prog.cellsOf 63 = 2 := cellsBig
  have k1 : Tryz.prog.cellsOf 26 = 1 := by kernel_rfl
  obtain ⟨z0, z1, n', hx', _, g0, g1⟩ := trod_struct2 Tryz.underlying63 h0
  have o0 : Tryz.prog.cellsOf 4 = 1 := by kernel_rfl
  have e0 : DataW.trod enc Tryz.prog W 0 (fun _ => true) true n' 4 [c0] = some z0 := by simpa [Value.cells, o0, k0] using g0
  have e1 : DataW.trod enc Tryz.prog W 0 (fun _ => true) true n' 26 [c1] = some z1 := by simpa [Value.cells, o0, k0, k1] using g1
  have e2 : DataW.trod enc Tryz.prog W 0 (fun _ => true) true n 26 [c2] = some y1 := by simpa [Value.cells, o0, k0, k1] using h1
  obtain ⟨b, eb, _⟩ := DataW.trod_bool Tryz.underlying4 e0
  injection eb with eb _
  subst eb
  obtain ⟨A, na, ca, l, rfl, a1, a2, a3⟩ := openedC e1
  obtain ⟨D, nb, cb, m, rfl, b1, b2, b3⟩ := openedC e2
  subst a1
  subst b1
  exact ⟨⟨b, l, m⟩, ⟨A, ca, D, cb⟩, rfl, rfl, rfl, a2, b2, rds2 a3 b3⟩
theorem openRx {H : Type} {enc : TypeId × Value → H} {W : World} {base : Nat} {v : Value} {d : DataW H} {p : List MemPlace}
    (hv : Value.okWide Tryz.prog W .any base 65 v) (h : DataW.Trod enc Tryz.prog W 0 (fun _ => true) true 65 v d p) :
    ∃ (x : R3) (a : Ad), v = .agg #[.bool x.p, .slice a.A x.l.length a.c, .slice a.D x.m.length a.d] ∧ x.l.length ≤ 9223372036854775807 ∧ x.m.length ≤ 9223372036854775807 ∧ Rds W (rows x a) := by
  obtain ⟨cs, rfl, hsz⟩ := okWide_struct Tryz.underlying65 hv
  obtain ⟨c0, c1, c2, rfl⟩ := array3 (hsz.trans cellsRat)
  obtain ⟨fuel, hf⟩ := h
  obtain ⟨x, a, rfl, rfl, rfl, h1, h2, h3⟩ := openRc hf
  exact ⟨x, a, rfl, h1, h2, h3⟩
theorem array6 {cs : Array Value} (h : cs.size = 6) : ∃ c0 c1 c2 c3 c4 c5, cs = #[c0, c1, c2, c3, c4, c5] := by
  obtain ⟨l⟩ := cs
  match l, h with
  | [c0, c1, c2, c3, c4, c5], _ => exact ⟨c0, c1, c2, c3, c4, c5, rfl⟩
end Go.Proofs.YtennekieiioilaaGreat
