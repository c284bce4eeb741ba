/-
  Words for the cells of a fraction and of two.
-/
import Derived.Test.YtaohiacpdljacaaGreatR3
namespace Go.Proofs.YtaohiacpdljacaaGreat
@[reducible, go_sem] def r3 (x : R3) (a : Ad) : Array Value := #[.bool x.p, .slice a.A x.l.length a.c, .slice a.D x.m.length a.d]
@[reducible, go_sem] def r6 (x y : R3) (a b : Ad) : Array Value := #[.bool x.p, .slice a.A x.l.length a.c, .slice a.D x.m.length a.d, .bool y.p, .slice b.A y.l.length b.c, .slice b.D y.m.length b.d]
end Go.Proofs.YtaohiacpdljacaaGreat
