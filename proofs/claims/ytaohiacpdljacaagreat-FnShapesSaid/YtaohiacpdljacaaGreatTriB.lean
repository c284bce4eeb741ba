/-
  Which points reach beyond a side.
-/
import Derived.Test.YtaohiacpdljacaaGreatEnd
namespace Go.Proofs.YtaohiacpdljacaaGreat
open Go.ChangeShapes Go.WideShapes Go.ChangeAt Go.RowKit
set_option linter.unusedVariables false
set_option linter.unusedSimpArgs false
set_option maxRecDepth 4000
/-- A value of many cells read at once, behind a test. -/
theorem wpList_load_want {P : Program} {ops : Array Oper} {rest : List Oper} {o : Oper} {a : Act} {w : World} {Q : Exit → Act → World → Prop} (hw : Region.wanted o (yielded ops a.tmps) = true) (ty : TypeId) (x : Operand) (ho : o.op = .load ty x)
    (g off : Nat) (c : Array Value) (hx : a.eval x = .pointer (some ⟨g, off, none⟩)) (hu : ∀ w, (isAgg ty).run P w = .ok true w) (hs : ∀ w, (sizeOf ty).run P w = .ok c.size w)
    (hc : ∀ j, j < c.size → w.cell? ⟨g, off + j, none⟩ = c[j]?)
    (h : wpList P ops Q rest (a.put o.dst (.agg c)) w) : wpList P ops Q (o :: rest) a w :=
  BigFrame.wpList_want hw fun _ hK => by
    unfold Oper.wp execOp
    simp only [ho, hx, Instr.loadAt, Instr.sureAddr, loadVar, loadCells, Sem.run_bind, Sem.run_pure, Result.andThen_ok, hu, hs, run_loadAt_cells w g off c hc, if_true]
    exact hK _ _ h
/-- Is the point on the inner side? -/
def rB (a b u : PV) : Bool := decide (0 < sgnO (aV a b u))
def reachB (a b u v s : PV) : Bool := rB a b u || (rB a b v || rB a b s)
def sepB (p q r u v s : PV) : Bool := !reachB p q u v s || (!reachB q r u v s || !reachB r p u v s)
theorem run_index_0 (u v s : PV) (w : World) : (Instr.index 53 (.agg #[.bool u.x.p, .slice u.a.A u.x.l.length u.a.c, .slice u.a.D u.x.m.length u.a.d, .bool u.y.p, .slice u.b.A u.y.l.length u.b.c, .slice u.b.D u.y.m.length u.b.d, .bool v.x.p, .slice v.a.A v.x.l.length v.a.c, .slice v.a.D v.x.m.length v.a.d, .bool v.y.p, .slice v.b.A v.y.l.length v.b.c, .slice v.b.D v.y.m.length v.b.d, .bool s.x.p, .slice s.a.A s.x.l.length s.a.c, .slice s.a.D s.x.m.length s.a.d, .bool s.y.p, .slice s.b.A s.y.l.length s.b.c, .slice s.b.D s.y.m.length s.b.d]) (.int .i64 0)).run Tryz.prog w = .ok (.agg #[.bool u.x.p, .slice u.a.A u.x.l.length u.a.c, .slice u.a.D u.x.m.length u.a.d, .bool u.y.p, .slice u.b.A u.y.l.length u.b.c, .slice u.b.D u.y.m.length u.b.d]) w := by
  simp [Instr.index, asIntOf, run_underlying Tryz.underlying53, Go.part, pt_agg, run_size pt_size]
theorem run_index_1 (u v s : PV) (w : World) : (Instr.index 53 (.agg #[.bool u.x.p, .slice u.a.A u.x.l.length u.a.c, .slice u.a.D u.x.m.length u.a.d, .bool u.y.p, .slice u.b.A u.y.l.length u.b.c, .slice u.b.D u.y.m.length u.b.d, .bool v.x.p, .slice v.a.A v.x.l.length v.a.c, .slice v.a.D v.x.m.length v.a.d, .bool v.y.p, .slice v.b.A v.y.l.length v.b.c, .slice v.b.D v.y.m.length v.b.d, .bool s.x.p, .slice s.a.A s.x.l.length s.a.c, .slice s.a.D s.x.m.length s.a.d, .bool s.y.p, .slice s.b.A s.y.l.length s.b.c, .slice s.b.D s.y.m.length s.b.d]) (.int .i64 1)).run Tryz.prog w = .ok (.agg #[.bool v.x.p, .slice v.a.A v.x.l.length v.a.c, .slice v.a.D v.x.m.length v.a.d, .bool v.y.p, .slice v.b.A v.y.l.length v.b.c, .slice v.b.D v.y.m.length v.b.d]) w := by
  simp [Instr.index, asIntOf, run_underlying Tryz.underlying53, Go.part, pt_agg, run_size pt_size]
theorem run_index_2 (u v s : PV) (w : World) : (Instr.index 53 (.agg #[.bool u.x.p, .slice u.a.A u.x.l.length u.a.c, .slice u.a.D u.x.m.length u.a.d, .bool u.y.p, .slice u.b.A u.y.l.length u.b.c, .slice u.b.D u.y.m.length u.b.d, .bool v.x.p, .slice v.a.A v.x.l.length v.a.c, .slice v.a.D v.x.m.length v.a.d, .bool v.y.p, .slice v.b.A v.y.l.length v.b.c, .slice v.b.D v.y.m.length v.b.d, .bool s.x.p, .slice s.a.A s.x.l.length s.a.c, .slice s.a.D s.x.m.length s.a.d, .bool s.y.p, .slice s.b.A s.y.l.length s.b.c, .slice s.b.D s.y.m.length s.b.d]) (.int .i64 2)).run Tryz.prog w = .ok (.agg #[.bool s.x.p, .slice s.a.A s.x.l.length s.a.c, .slice s.a.D s.x.m.length s.a.d, .bool s.y.p, .slice s.b.A s.y.l.length s.b.c, .slice s.b.D s.y.m.length s.b.d]) w := by
  simp [Instr.index, asIntOf, run_underlying Tryz.underlying53, Go.part, pt_agg, run_size pt_size]
end Go.Proofs.YtaohiacpdljacaaGreat
