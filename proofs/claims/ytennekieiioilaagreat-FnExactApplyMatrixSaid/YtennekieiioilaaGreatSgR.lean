/-
  Sign, inverse and quotient of the program's fractions, in bundled words, where there may be none.
-/
import Derived.Test.YtennekieiioilaaGreatPtK
import Derived.Test.YtennekieiioilaaGreatPkH
import Derived.Test.YtennekieiioilaaGreatPkF
namespace Go.Proofs.YtennekieiioilaaGreat
open Go.ChangeShapes Go.WideShapes Go.ChangeAt Go.RowKit
open Go.ChangeMaps (open_string shut_string)
set_option linter.unusedVariables false
set_option linter.unusedSimpArgs false
set_option maxRecDepth 4000
attribute [local go_sem ↓] Go.wp_at_zero Go.wp_at_succ

theorem sign_r (x : Option Rat) (a : Ad) (w : World) (hx : FitO x) (h : Rds w (rows (ofO x) a)) :
    Calls Tryz.prog 78 #[.agg #[.bool (ofO x).p, .slice a.A (ofO x).l.length a.c, .slice a.D (ofO x).m.length a.d]] w (fun e w' => e = .returned (.int .i64 (sgnO x)) ∧ Below w.heap.size w w') := by
  cases x with
  | none => exact sign_any 0 a.A a.D 0 0 a.c a.d w ln_zero (by omega) (by rw [show (0 : Int).natAbs = 0 from rfl, nd_zero]; exact .inl rfl)
  | some r =>
    have hl := hx.len
    exact sign_any r.num a.A a.D _ _ a.c a.d w (nd_length _).symm (Nat.le_trans hl.1 (by omega)) (rows_rd h).1
def invO : Option Rat → Option Rat
  | none => none
  | some r => invQ r
theorem invO_fit {x : Option Rat} (h : FitO x) : FitO (invO x) := by
  cases x with
  | none => exact fitO_none
  | some r => exact invQ_fit (h r rfl)
theorem mul_invO (x y : Option Rat) : binQ mulQ x (invO y) = binQ quoQ x y := by
  cases y with
  | none => cases x <;> rfl
  | some s =>
    cases x with
    | none => show binQ mulQ none (invQ s) = none; cases invQ s <;> rfl
    | some r =>
      show binQ mulQ (some r) (invQ s) = quoQ r s
      rw [← mulO_inv]
      cases invQ s <;> rfl
end Go.Proofs.YtennekieiioilaaGreat
