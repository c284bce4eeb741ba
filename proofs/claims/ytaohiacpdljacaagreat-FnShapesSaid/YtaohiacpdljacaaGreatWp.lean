/-
  Words for the cells of a point and of three.
-/
import Derived.Test.YtaohiacpdljacaaGreatWr
import Derived.Test.YtaohiacpdljacaaGreatSl
namespace Go.Proofs.YtaohiacpdljacaaGreat
@[reducible, go_sem] def p6 (p : PV) : Array Value := #[.bool p.x.p, .slice p.a.A p.x.l.length p.a.c, .slice p.a.D p.x.m.length p.a.d, .bool p.y.p, .slice p.b.A p.y.l.length p.b.c, .slice p.b.D p.y.m.length p.b.d]
@[reducible, go_sem] def p18 (p q r : PV) : Array Value := #[.bool p.x.p, .slice p.a.A p.x.l.length p.a.c, .slice p.a.D p.x.m.length p.a.d, .bool p.y.p, .slice p.b.A p.y.l.length p.b.c, .slice p.b.D p.y.m.length p.b.d, .bool q.x.p, .slice q.a.A q.x.l.length q.a.c, .slice q.a.D q.x.m.length q.a.d, .bool q.y.p, .slice q.b.A q.y.l.length q.b.c, .slice q.b.D q.y.m.length q.b.d, .bool r.x.p, .slice r.a.A r.x.l.length r.a.c, .slice r.a.D r.x.m.length r.a.d, .bool r.y.p, .slice r.b.A r.y.l.length r.b.c, .slice r.b.D r.y.m.length r.b.d]
end Go.Proofs.YtaohiacpdljacaaGreat
