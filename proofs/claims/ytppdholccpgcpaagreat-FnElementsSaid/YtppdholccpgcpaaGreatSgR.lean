/-
  The sum of the products of two lists' elements: words for both.
-/
import Derived.Test.YtppdholccpgcpaaGreatRl
import Derived.Test.YtppdholccpgcpaaGreatPkI
import Derived.Test.YtppdholccpgcpaaGreatWg
import Derived.Test.YtppdholccpgcpaaGreatPtI
import Derived.Test.YtppdholccpgcpaaGreatLawP
import Derived.Test.YtppdholccpgcpaaGreatPtK
import Derived.Test.YtppdholccpgcpaaGreatPkH
import Derived.Test.YtppdholccpgcpaaGreatPkF
namespace Go.Proofs.YtppdholccpgcpaaGreat
open Go.ChangeShapes Go.WideShapes Go.ChangeAt Go.RowKit
set_option linter.unusedVariables false
set_option linter.unusedSimpArgs false
set_option maxRecDepth 4000
theorem binadd_fit (x y : Option Rat) : FitO (binQ addQ x y) := FitO.bin (fun r s t h => cutQ_fit h) x y
theorem binmul_fit (x y : Option Rat) : FitO (binQ mulQ x y) := FitO.bin (fun r s t h => cutQ_fit h) x y
end Go.Proofs.YtppdholccpgcpaaGreat
namespace Go.Proofs.YtppdholccpgcpaaGreat
open Go.ChangeShapes Go.WideShapes Go.ChangeAt Go.RowKit
set_option linter.unusedVariables false
set_option linter.unusedSimpArgs false
set_option maxRecDepth 4000
attribute [local go_sem ↓] Go.wp_at_zero Go.wp_at_succ
theorem sign_r (x : Option Rat) (a : Ad) (w : World) (hx : FitO x) (h : Rds w (rows (ofO x) a)) :
    Calls Tryz.prog 72 #[.agg (r3 (ofO x) a)] w (fun e w' => e = .returned (.int .i64 (sgnO x)) ∧ Below w.heap.size w w') := by
  cases x with
  | none => exact sign_any 0 a.A a.D 0 0 a.c a.d w ln_zero (by omega) (by rw [show (0 : Int).natAbs = 0 from rfl, nd_zero]; exact .inl rfl)
  | some r =>
    have hl := hx.len
    exact sign_any r.num a.A a.D _ _ a.c a.d w (nd_length _).symm (Nat.le_trans hl.1 (by omega)) (rows_rd h).1
def invO : Option Rat → Option Rat
  | none => none
  | some r => invQ r
theorem invO_fit {x : Option Rat} (h : FitO x) : FitO (invO x) := by
  cases x with
  | none => exact fitO_none
  | some r => exact invQ_fit (h r rfl)
theorem inverse_r (y : Option Rat) (b : Ad) (w : World) (hy : FitO y) (h : Rds w (rows (ofO y) b)) :
    Calls Tryz.prog 133 #[.agg (r3 (ofO y) b)] w (MadeQ w.heap.size (ofO (invO y)) w) := by
  cases y with
  | none => exact (inverse_no 0 b.A b.D 0 0 b.c b.d w rfl ln_zero (.inl (by show vi (nd 0) = []; rw [nd_zero]; rfl))).mono fun e w' k => MadeR.toQ (x := noR) k
  | some s => exact (inverse_q s b.A b.D _ _ b.c b.d w (hy s rfl) (nd_length _).symm (nd_length _).symm (rows_rd h).1 (rows_rd h).2).mono fun e w' k => MadeR.toQ (x := ofO (invQ s)) k
end Go.Proofs.YtppdholccpgcpaaGreat
