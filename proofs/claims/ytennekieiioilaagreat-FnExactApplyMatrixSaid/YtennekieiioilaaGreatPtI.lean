/-
  Points of the program: its methods.
-/
import Derived.Test.YtennekieiioilaaGreatPtQ
import Derived.Test.YtennekieiioilaaGreatPtH
namespace Go.Proofs.YtennekieiioilaaGreat
open Go.ChangeShapes Go.WideShapes Go.ChangeAt Go.RowKit
open Go.ChangeMaps (open_string shut_string)
set_option linter.unusedVariables false
set_option linter.unusedSimpArgs false
set_option maxRecDepth 4000

attribute [local go_sem ↓] Go.wp_at_zero Go.wp_at_succ

/-- A point of two fractions: none where one of them is none. -/
def bothX (x y : Option Rat) : Option Rat := if y.isSome then x else none
def bothY (x y : Option Rat) : Option Rat := if x.isSome then y else none
theorem bothX_fit {x y : Option Rat} (h : FitO x) : FitO (bothX x y) := by unfold bothX; split; exact h; exact fitO_none
theorem bothY_fit {x y : Option Rat} (h : FitO y) : FitO (bothY x y) := by unfold bothY; split; exact h; exact fitO_none
theorem both_n1 (y : Option Rat) : bothX none y = none ∧ bothY none y = none := ⟨by cases y <;> rfl, rfl⟩
theorem both_n2 (x : Option Rat) : bothX x none = none ∧ bothY x none = none := ⟨rfl, by cases x <;> rfl⟩
theorem addQ_fit {r s t : Rat} (h : addQ r s = some t) : Fit t := cutQ_fit h
theorem mulQ_fit {r s t : Rat} (h : mulQ r s = some t) : Fit t := cutQ_fit h
theorem subQ_fit {r s t : Rat} (h : subQ r s = some t) : Fit t := cutQ_fit h
theorem addO_fit (x y : Option Rat) : FitO (binQ addQ x y) := FitO.bin (fun _ _ _ => addQ_fit) x y
theorem mulO_fit (x y : Option Rat) : FitO (binQ mulQ x y) := FitO.bin (fun _ _ _ => mulQ_fit) x y
theorem subO_fit (x y : Option Rat) : FitO (binQ subQ x y) := FitO.bin (fun _ _ _ => subQ_fit) x y
theorem none_point (B : Nat) (w w' : World) (h : Below w.heap.size w w') : MadeP B noR noR w (.returned (.agg #[.bool false, .slice none 0 0, .slice none 0 0, .bool false, .slice none 0 0, .slice none 0 0])) w' :=
  ⟨⟨none, 0, none, 0⟩, ⟨none, 0, none, 0⟩, rfl, ⟨Nat.le_refl _, Nat.le_refl _, Nat.le_refl _, Nat.le_refl _⟩, noRows _ _ _ _ _, noApart _ _, h⟩
theorem none_rat (B : Nat) (w w' : World) (h : Below w.heap.size w w') : MadeQ B noR w (.returned (.agg #[.bool false, .slice none 0 0, .slice none 0 0])) w' :=
  ⟨⟨none, 0, none, 0⟩, rfl, Nat.le_refl _, Nat.le_refl _, owns_l (noRows _ _ _ _ ⟨none, 0, none, 0⟩), (noApart _ ⟨none, 0, none, 0⟩).l, h⟩

theorem owns_old6 {lo hi r hi' : Nat} {w : World} {rs : List (Option Addr × List Value)} (h : Owns lo hi w rs) (hr : hi ≤ r) {u0 u1 u2 u3 u4 u5 : Value} (hz : hi' ≤ ((((((w.setCell ⟨r, 0, none⟩ u0).setCell ⟨r, 1, none⟩ u1).setCell ⟨r, 2, none⟩ u2).setCell ⟨r, 3, none⟩ u3).setCell ⟨r, 4, none⟩ u4).setCell ⟨r, 5, none⟩ u5).heap.size) (hh : hi ≤ hi' := by assumption) :
    Owns lo ((((((w.setCell ⟨r, 0, none⟩ u0).setCell ⟨r, 1, none⟩ u1).setCell ⟨r, 2, none⟩ u2).setCell ⟨r, 3, none⟩ u3).setCell ⟨r, 4, none⟩ u4).setCell ⟨r, 5, none⟩ u5).heap.size ((((((w.setCell ⟨r, 0, none⟩ u0).setCell ⟨r, 1, none⟩ u1).setCell ⟨r, 2, none⟩ u2).setCell ⟨r, 3, none⟩ u3).setCell ⟨r, 4, none⟩ u4).setCell ⟨r, 5, none⟩ u5) rs :=
  (owns_put6 h (.inr hr) u0 u1 u2 u3 u4 u5).wide (Nat.le_refl _) (Nat.le_trans hh hz)
end Go.Proofs.YtennekieiioilaaGreat
