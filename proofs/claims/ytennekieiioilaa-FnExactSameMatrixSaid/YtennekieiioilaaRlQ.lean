/-
  Marks in lists of fractions, beside further rows.
-/
import Derived.Test.YtennekieiioilaaRlM
namespace Go.Proofs.Ytennekieiioilaa
open Go.ChangeShapes Go.WideShapes Go.ChangeAt Go.RowKit
open Go.ChangeMaps (open_string shut_string)
set_option linter.unusedVariables false
set_option linter.unusedSimpArgs false
set_option maxRecDepth 4000

theorem srowQ_trowq (A : Option Addr) (M1 M2 : List RV) (p : RV) (Q0 : List Row) : srowQ A (M1 ++ p :: M2) ++ Q0 = trow (A, flatQ (M1 ++ p :: M2)) (lrowQ M1) (p.a.A, vi p.x.l) (p.a.D, vi p.x.m) (lrowQ M2 ++ Q0) := by
  rw [srowQ_trow]
  unfold trow
  simp
end Go.Proofs.Ytennekieiioilaa
