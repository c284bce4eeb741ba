/-
  Words of appends: blocks that hold no row.
-/
import Derived.Test.YtppdholccpgcpaaGreatSl
import Derived.Maps.AppendAt
import Derived.Test.YtppdholccpgcpaaGreatLawP
namespace Go.Proofs.YtppdholccpgcpaaGreat
open Go.ChangeShapes Go.WideShapes Go.ChangeAt Go.RowKit
set_option linter.unusedVariables false
set_option linter.unusedSimpArgs false
set_option maxRecDepth 4000
def OffG (g : Nat) (rs : List (Option Addr × List Value)) : Prop := ∀ r, r ∈ rs → rowOf r.2.length r.1 ≠ some g
theorem offG_owns {lo hi g : Nat} {w : World} {rs : List (Option Addr × List Value)} (h : Owns lo hi w rs) (hg : g < lo) : OffG g rs := fun r hr e => by
  have := (h r hr).2 g e
  omega
end Go.Proofs.YtppdholccpgcpaaGreat
namespace Go.Proofs.YtppdholccpgcpaaGreat
open Go.ChangeShapes Go.WideShapes Go.ChangeAt Go.RowKit
set_option linter.unusedVariables false
set_option linter.unusedSimpArgs false
set_option maxRecDepth 4000
abbrev Row := Option Addr × List Value
section
variable {lo hi : Nat} {w w' : World} {X r1 r2 r3 r4 : Row} {P Q : List Row} {A : Option Addr} {l l' : List Value}
end
end Go.Proofs.YtppdholccpgcpaaGreat
namespace Go.Proofs.YtppdholccpgcpaaGreat
@[reducible, go_sem] def p6 (p : PV) : Array Value := #[.bool p.x.p, .slice p.a.A p.x.l.length p.a.c, .slice p.a.D p.x.m.length p.a.d, .bool p.y.p, .slice p.b.A p.y.l.length p.b.c, .slice p.b.D p.y.m.length p.b.d]
@[reducible, go_sem] def p18 (p q r : PV) : Array Value := #[.bool p.x.p, .slice p.a.A p.x.l.length p.a.c, .slice p.a.D p.x.m.length p.a.d, .bool p.y.p, .slice p.b.A p.y.l.length p.b.c, .slice p.b.D p.y.m.length p.b.d, .bool q.x.p, .slice q.a.A q.x.l.length q.a.c, .slice q.a.D q.x.m.length q.a.d, .bool q.y.p, .slice q.b.A q.y.l.length q.b.c, .slice q.b.D q.y.m.length q.b.d, .bool r.x.p, .slice r.a.A r.x.l.length r.a.c, .slice r.a.D r.x.m.length r.a.d, .bool r.y.p, .slice r.b.A r.y.l.length r.b.c, .slice r.b.D r.y.m.length r.b.d]
end Go.Proofs.YtppdholccpgcpaaGreat
