/-
  The longest side's square, the shape: words for both.
-/
import Derived.Test.YtppdholccpgcpaaGreatTriC
import Derived.Test.YtppdholccpgcpaaGreatTriS
import Derived.Test.YtppdholccpgcpaaGreatPkH
import Derived.Test.YtppdholccpgcpaaGreatPkD
import Derived.Test.YtppdholccpgcpaaGreatShelf
namespace Go.Proofs.YtppdholccpgcpaaGreat
open Go.ChangeShapes Go.WideShapes Go.ChangeAt Go.RowKit
open Go.ChangeMaps (open_string shut_string)
set_option linter.unusedVariables false
set_option linter.unusedSimpArgs false
set_option maxRecDepth 4000

theorem quoO_fit (x y : Option Rat) : FitO (binQ quoQ x y) := FitO.bin (fun r s t h => by
  unfold quoQ at h
  split at h
  · cases h
  · exact cutQ_fit h) x y
theorem spec_div_r (x u : R3) (a c : Ad) (w : World) (hxl : x.l.length ≤ 9223372036854775807) (hxm : x.m.length ≤ 9223372036854775807) (hul : u.l.length ≤ 9223372036854775807) (hum : u.m.length ≤ 9223372036854775807) (kx : x.l.length ≤ a.c ∧ x.m.length ≤ a.d) (ku : u.l.length ≤ c.c ∧ u.m.length ≤ c.d) (h : Rds w (rows x a)) (h' : Rds w (rows u c)) :
    Calls Tryz.prog 101 #[.agg #[.bool x.p, .slice a.A x.l.length a.c, .slice a.D x.m.length a.d], .agg #[.bool u.p, .slice c.A u.l.length c.c, .slice c.D u.m.length c.d]] w (MadeQ w.heap.size (ofO (binQ quoQ (valx x) (valx u))) w) :=
  (spec_rdiv x.p u.p x.l x.m u.l u.m a.A a.D c.A c.D _ _ _ _ a.c a.d c.c c.d w rfl rfl rfl rfl hxl hxm hul hum kx.1 kx.2 ku.1 ku.2 (rows_rd h).1 (rows_rd h).2 (rows_rd h').1 (rows_rd h').2).mono fun e w' k => MadeR.toQ (x := ofO (binQ quoQ (valx x) (valx u))) k
end Go.Proofs.YtppdholccpgcpaaGreat

