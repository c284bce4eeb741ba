/-
  'NatToInt', of the model and of the program; its exact law.
-/
import Derived.Test.YtmmgcdfifcbabaaGreatDoorCmp
namespace Go.Proofs.YtmmgcdfifcbabaaGreatDoor
open Go.ChangeShapes Go.WideShapes Go.ChangeAt Go.RowKit
open Go.ChangeMaps (open_string shut_string)
set_option linter.unusedVariables false
set_option linter.unusedSimpArgs false

/-- The answer: the number and whether it is an int. -/
def toV (l : List Int) : Int := if ok l && decide (val l ≤ 9223372036854775807) then (val l : Int) else 0
def toB (l : List Int) : Bool := ok l && decide (val l ≤ 9223372036854775807)
theorem ret_two {a b : Int} {p q : Bool} (h : a = b) (h2 : p = q) : Ending.returned (.tuple #[.int .i64 a, .bool p]) = .returned (.tuple #[.int .i64 b, .bool q]) := by rw [h, h2]
theorem div_le (a : Nat) (k : Nat) : (a : Int) / pw k ≤ a := Int.ediv_le_self _ (by omega)
theorem div_nn (a : Nat) (k : Nat) : 0 ≤ (a : Int) / pw k := Int.ediv_nonneg (by omega) (Int.le_of_lt (pw_pos k))
theorem toV_no {l : List Int} (h : ok l = false) : toV l = 0 ∧ toB l = false := by unfold toV toB; rw [h]; exact ⟨rfl, rfl⟩
theorem toV_big {a : Nat} (h : 9223372036854775807 < a) : toV (nd a) = 0 ∧ toB (nd a) = false := by
  have : decide (a ≤ 9223372036854775807) = false := decide_eq_false (by omega)
  unfold toV toB
  rw [val_nd, this, Bool.and_false]
  exact ⟨rfl, rfl⟩
theorem toV_yes {a : Nat} (h60 : ln a ≤ 60) (h : a ≤ 9223372036854775807) : toV (nd a) = a ∧ toB (nd a) = true := by
  unfold toV toB
  rw [val_nd, nd_ok h60, decide_eq_true h]
  exact ⟨rfl, rfl⟩

theorem nd_max : nd 9223372036854775807 = [854775807, 223372036, 9] ∧ ln 9223372036854775807 = 3 := by
  have h3 : ln 9223372036854775807 = 3 := by
    rw [ln_pos (by decide), show 9223372036854775807 / 1000000000 = 9223372036 by decide, ln_pos (by decide), show 9223372036 / 1000000000 = 9 by decide, ln_pos (by decide), show 9 / 1000000000 = 0 by decide, ln_zero]
  refine ⟨?_, h3⟩
  unfold nd
  rw [h3]
  decide

end Go.Proofs.YtmmgcdfifcbabaaGreatDoor
