/-
  A fraction, a point that came in, read in bundled words.
-/
import Derived.Test.YtppdholccpgcpaaGreatPkD
import Derived.Test.YtppdholccpgcpaaGreatR3
namespace Go.Proofs.YtppdholccpgcpaaGreat
open Go.ChangeShapes Go.WideShapes Go.ChangeAt Go.RowKit Go.Joins
set_option linter.unusedVariables false
set_option linter.unusedSimpArgs false
set_option maxRecDepth 10000
theorem openRc {H : Type} {enc : TypeId × Value → H} {W : World} {n : Nat} {c0 c1 c2 : Value} {z} (hf : DataW.trod enc Tryz.prog W 0 (fun _ => true) true n 116 [c0, c1, c2] = some z) :
    ∃ (x : R3) (a : Ad), c0 = .bool x.p ∧ c1 = .slice a.A x.l.length a.c ∧ c2 = .slice a.D x.m.length a.d ∧ x.l.length ≤ 9223372036854775807 ∧ x.m.length ≤ 9223372036854775807 ∧ Rds W (rows x a) := by
  obtain ⟨y0, y1, n, hx, _, h0, h1⟩ := trod_struct2 Tryz.underlying116 hf
  have k0 : Tryz.prog.cellsOf 114 = 2 := cellsBig
  have k1 : Tryz.prog.cellsOf 25 = 1 := by kernel_rfl
  obtain ⟨z0, z1, n', hx', _, g0, g1⟩ := trod_struct2 Tryz.underlying114 h0
  have o0 : Tryz.prog.cellsOf 4 = 1 := by kernel_rfl
  have e0 : DataW.trod enc Tryz.prog W 0 (fun _ => true) true n' 4 [c0] = some z0 := by simpa [Value.cells, o0, k0] using g0
  have e1 : DataW.trod enc Tryz.prog W 0 (fun _ => true) true n' 25 [c1] = some z1 := by simpa [Value.cells, o0, k0, k1] using g1
  have e2 : DataW.trod enc Tryz.prog W 0 (fun _ => true) true n 25 [c2] = some y1 := by simpa [Value.cells, o0, k0, k1] using h1
  obtain ⟨b, eb, _⟩ := DataW.trod_bool Tryz.underlying4 e0
  injection eb with eb _
  subst eb
  obtain ⟨A, na, ca, l, rfl, a1, a2, a3⟩ := openedC e1
  obtain ⟨D, nb, cb, m, rfl, b1, b2, b3⟩ := openedC e2
  subst a1
  subst b1
  exact ⟨⟨b, l, m⟩, ⟨A, ca, D, cb⟩, rfl, rfl, rfl, a2, b2, rds2 a3 b3⟩
theorem cellsPoint : Tryz.prog.cellsOf 118 = 6 := by kernel_rfl
end Go.Proofs.YtppdholccpgcpaaGreat
namespace Go.Proofs.YtppdholccpgcpaaGreat
@[reducible, go_sem] def r3 (x : R3) (a : Ad) : Array Value := #[.bool x.p, .slice a.A x.l.length a.c, .slice a.D x.m.length a.d]
@[reducible, go_sem] def r6 (x y : R3) (a b : Ad) : Array Value := #[.bool x.p, .slice a.A x.l.length a.c, .slice a.D x.m.length a.d, .bool y.p, .slice b.A y.l.length b.c, .slice b.D y.m.length b.d]
end Go.Proofs.YtppdholccpgcpaaGreat
