/-
  Elements of matrices: words for both.
-/
import Derived.Test.YtennekieiioilaaGreatIsMW
import Derived.Test.YtennekieiioilaaGreatPtQ
namespace Go.Proofs.YtennekieiioilaaGreat
open Go.ChangeShapes Go.WideShapes Go.ChangeAt Go.RowKit
open Go.ChangeMaps (open_string shut_string)
set_option linter.unusedVariables false
set_option linter.unusedSimpArgs false
set_option maxRecDepth 4000
/-- The element of column j among columns and values. -/
def entL : List Int → List R3 → Int → Option Rat
  | c :: cs, x :: xs, j => if c = j then valx x else entL cs xs j
  | _, _, _ => some 0
def entO (p : MR) (j : Int) : Option Rat := entL p.cs (datQ p.V) j
def inX (x : Int) (n : Nat) : Bool := decide (0 ≤ x ∧ x ≤ (n : Int) - 1)
def entR (R : List MR) (x y : Int) : Option Rat := if isMx R = true ∧ inX x R.length = true ∧ inX y R.length = true then (match R[x.toNat]? with | some p => entO p y | none => none) else none
theorem zero_fitO : FitO (some (0 : Rat)) := fitO_some ⟨by show ln 0 ≤ 24; rw [ln_zero]; omega, by show ln 1 ≤ 24; have := ln_word (show (1 : Nat) ≤ 9223372036854775808 by omega); omega⟩
theorem entL_fit (cs : List Int) (xs : List R3) (j : Int) : FitO (entL cs xs j) := by
  induction cs generalizing xs with
  | nil => exact zero_fitO
  | cons c cs ih =>
    cases xs with
    | nil => exact zero_fitO
    | cons x xs =>
      show FitO (if c = j then valx x else entL cs xs j)
      split
      · exact FitO.val x
      · exact ih xs
theorem entR_fit (R : List MR) (x y : Int) : FitO (entR R x y) := by
  unfold entR
  split
  · split
    · exact entL_fit _ _ _
    · exact fitO_none
  · exact fitO_none
theorem entL_drop {cs : List Int} {xs : List R3} {k : Nat} {c : Int} {x : R3} (hc : cs[k]? = some c) (hx : xs[k]? = some x) (j : Int) : entL (cs.drop k) (xs.drop k) j = if c = j then valx x else entL (cs.drop (k + 1)) (xs.drop (k + 1)) j := by
  have h1 : k < cs.length := by
    rcases Nat.lt_or_ge k cs.length with h | h
    · exact h
    · rw [List.getElem?_eq_none h] at hc; cases hc
  have h2 : k < xs.length := by
    rcases Nat.lt_or_ge k xs.length with h | h
    · exact h
    · rw [List.getElem?_eq_none h] at hx; cases hx
  have e1 : cs[k] = c := by rw [List.getElem?_eq_getElem h1] at hc; injection hc
  have e2 : xs[k] = x := by rw [List.getElem?_eq_getElem h2] at hx; injection hx
  rw [List.drop_eq_getElem_cons h1, List.drop_eq_getElem_cons h2, e1, e2]; rfl
theorem entL_end (cs : List Int) (xs : List R3) (j : Int) : entL (cs.drop cs.length) xs j = some 0 := by
  rw [List.drop_length]
  cases xs <;> rfl
theorem entR_dat {R T : List MR} (h : datX T = datX R) (x y : Int) : entR T x y = entR R x y := by
  unfold entR
  rw [isMx_dat h, datX_len h]
  split
  · cases hp : R[x.toNat]? with
    | none =>
      have : T[x.toNat]? = none := by rw [List.getElem?_eq_none_iff] at hp ⊢; rw [datX_len h]; exact hp
      rw [this]
    | some p =>
      obtain ⟨q, hq, e1, e2⟩ := datX_get h hp
      rw [hq]
      show entO q y = entO p y
      unfold entO; rw [e1, e2]
  · rfl
end Go.Proofs.YtennekieiioilaaGreat
