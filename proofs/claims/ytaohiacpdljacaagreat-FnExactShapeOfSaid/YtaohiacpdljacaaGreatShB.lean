/-
  The square of a side.
-/
import Derived.Test.YtaohiacpdljacaaGreatTriC
import Derived.Test.YtaohiacpdljacaaGreatTriS
namespace Go.Proofs.YtaohiacpdljacaaGreat
open Go.ChangeShapes Go.WideShapes Go.ChangeAt Go.RowKit
open Go.ChangeMaps (open_string shut_string)
set_option linter.unusedVariables false
set_option linter.unusedSimpArgs false
set_option maxRecDepth 4000

/-- The coordinates of b - a. -/
def dX (a b : PV) : Option Rat := bothX (binQ subQ (valx b.x) (valx a.x)) (binQ subQ (valx b.y) (valx a.y))
def dY (a b : PV) : Option Rat := bothY (binQ subQ (valx b.x) (valx a.x)) (binQ subQ (valx b.y) (valx a.y))
theorem dX_fit (a b : PV) : FitO (dX a b) := bothX_fit (subO_fit _ _)
theorem dY_fit (a b : PV) : FitO (dY a b) := bothY_fit (subO_fit _ _)
/-- The square of the distance of two points. -/
def sqO (a b : PV) : Option Rat := binQ addQ (binQ mulQ (dX a b) (dX a b)) (binQ mulQ (dY a b) (dY a b))
theorem sqO_fit (a b : PV) : FitO (sqO a b) := addO_fit _ _
theorem minusV (b a : PV) (w : World) (nb : NiceP b) (na : NiceP a) (hb : Rds w (prow b)) (ha : Rds w (prow a)) :
    Calls Tryz.prog 28 #[.agg #[.bool b.x.p, .slice b.a.A b.x.l.length b.a.c, .slice b.a.D b.x.m.length b.a.d, .bool b.y.p, .slice b.b.A b.y.l.length b.b.c, .slice b.b.D b.y.m.length b.b.d], .agg #[.bool a.x.p, .slice a.a.A a.x.l.length a.a.c, .slice a.a.D a.x.m.length a.a.d, .bool a.y.p, .slice a.b.A a.y.l.length a.b.c, .slice a.b.D a.y.m.length a.b.d]] w (MadeP w.heap.size (ofO (dX a b)) (ofO (dY a b)) w) := by
  obtain ⟨bx, bY, ba, bb⟩ := b
  obtain ⟨ax, aY, aa, ab⟩ := a
  obtain ⟨e1, e2⟩ := nb
  obtain ⟨e3, e4⟩ := na
  unfold Nice at e1 e2 e3 e4
  unfold prow at hb ha
  dsimp only at *
  have K := minusP_r (valx bx) (valx bY) (valx ax) (valx aY) ba bb aa ab w (FitO.val _) (FitO.val _) (FitO.val _) (FitO.val _) (by rw [← e1, ← e2]; exact hb) (by rw [← e3, ← e4]; exact ha)
  rw [← e1, ← e2, ← e3, ← e4] at K
  exact K
end Go.Proofs.YtaohiacpdljacaaGreat

