/-
  Fractions of the model: 'l04Neg', 'l04Add', 'l04Mul', 'RatDiv', 'l04Copy' and what stands on them.
-/
import Derived.Test.YtoknolholccamaaPkE
import Derived.Deep.DrawnRows
import Derived.Test.YtoknolholccamaaPkF
namespace Go.Proofs.Ytoknolholccamaa
open Go.ChangeShapes Go.WideShapes Go.ChangeAt Go.RowKit
open Go.ChangeMaps (open_string shut_string)
set_option linter.unusedVariables false
set_option linter.unusedSimpArgs false
set_option maxRecDepth 4000

attribute [local go_sem ↓] Go.wp_at_zero Go.wp_at_succ
theorem zn_neg (z : Int) : ((!(zn z)) && decide (nd z.natAbs ≠ [])) = zn (-z) := by
  unfold zn
  by_cases h : z = 0
  · subst h; rw [show (0 : Int).natAbs = 0 from rfl, nd_zero]; rfl
  · rw [decide_eq_true (nd_pos (by omega)), Bool.and_true]
    by_cases h1 : z < 0
    · rw [decide_eq_true h1, decide_eq_false (by omega)]; rfl
    · rw [decide_eq_false h1, decide_eq_true (by omega)]; rfl

end Go.Proofs.Ytoknolholccamaa

namespace Go.Proofs.Ytoknolholccamaa
open Go.ChangeShapes Go.WideShapes Go.ChangeAt Go.RowKit
open Go.ChangeMaps (open_string shut_string)
set_option linter.unusedVariables false
set_option linter.unusedSimpArgs false
set_option maxRecDepth 4000

attribute [local go_sem ↓] Go.wp_at_zero Go.wp_at_succ

theorem low_div (r s : Rat) : lowQ (!(zn r.num == zn s.num)) (r.num.natAbs * s.den) (r.den * s.num.natAbs) = quoQ r s := by
  unfold lowQ quoQ
  by_cases h : s.num = 0
  · rw [if_pos h, h, show (0 : Int).natAbs = 0 from rfl, Nat.mul_zero, if_pos rfl]
  · rw [if_neg h, if_neg (Nat.mul_ne_zero r.den_nz (by omega)), div_q h]
    congr 2
    have h1 := sgn_mul r.num s.den
    cases hz : zn s.num with
    | false =>
      rw [if_neg (by decide), ← h1]
      cases zn r.num <;> rfl
    | true =>
      rw [if_pos rfl, ← h1]
      unfold sgn
      cases zn r.num <;> simp
end Go.Proofs.Ytoknolholccamaa

namespace Go.Proofs.Ytoknolholccamaa
open Go.ChangeShapes Go.WideShapes Go.ChangeAt Go.RowKit
open Go.ChangeMaps (open_string shut_string)
set_option linter.unusedVariables false
set_option linter.unusedSimpArgs false
set_option maxRecDepth 4000

attribute [local go_sem ↓] Go.wp_at_zero Go.wp_at_succ

end Go.Proofs.Ytoknolholccamaa

namespace Go.Proofs.Ytoknolholccamaa
open Go.ChangeShapes Go.WideShapes Go.ChangeAt Go.RowKit
open Go.ChangeMaps (open_string shut_string)
set_option linter.unusedVariables false
set_option linter.unusedSimpArgs false
set_option maxRecDepth 4000

attribute [local go_sem ↓] Go.wp_at_zero Go.wp_at_succ

/-- The sign of a fraction; 0 where it is none. -/
def sgnO (x : Option Rat) : Int := match x with
  | some r => cmpZ r.num 0
  | none => 0
end Go.Proofs.Ytoknolholccamaa

